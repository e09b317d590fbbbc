package chunk_test

import (
	"math"
	"slices"
	"strings"
	"testing"

	"flickerbook/api"
	"flickerbook/chunk"
)

// Bytes of chunks as the document has them: name, how many, data, sum.
const (
	empty = "WAIT\x00\x00\x3b\x8e"
	three = "ABCD\x03\x00xyz\x83\xe4"
)

// TestSum: B1, also where a and b go round at 251.
func TestSum(t *testing.T) {
	cases := []struct {
		in   string
		a, b int
	}{
		{"", 1, 0},
		{"\x00", 1, 1},
		{"\x00\x00", 1, 2},
		{"\x01", 2, 2},
		{"\x01\x02", 4, 6},
		{"\x02\x01", 4, 7},
		{"\xf9", 250, 250},
		{"\xfa", 0, 0},
		{"\xfb", 1, 1},
		{"\xff", 5, 5},
		{"\xf9\x00", 250, 249},
		{"\xff\xff", 9, 14},
		{"ABCD", 16, 162},
		{strings.Repeat("\x00", 250), 1, 250},
		{strings.Repeat("\x00", 251), 1, 0},
	}
	for _, c := range cases {
		if a, b := chunk.Sum(c.in); a != c.a || b != c.b {
			t.Errorf("Sum(%.20q) = %d, %d, want %d, %d", c.in, a, b, c.a, c.b)
		}
	}
}

// TestName: B1.
func TestName(t *testing.T) {
	for _, s := range []string{"AAAA", "ZZZZ", "WAIT", "XTRA", "AZMB"} {
		if !chunk.Name(s) {
			t.Errorf("Name(%q) = false", s)
		}
	}
	for _, s := range []string{"", "A", "ABC", "ABCDE", "ABCDABCD", "wait", "WAIt", "wAIT", "WA T", "WAI1",
		"@AAA", "AAA[", "AA\x00A", "ÄÄ", "ÄAA", "\xc1\xc1\xc1\xc1"} {
		if chunk.Name(s) {
			t.Errorf("Name(%q) = true", s)
		}
	}
}

// TestBytes: B2.
func TestBytes(t *testing.T) {
	q := func(n int) string { return strings.Repeat("q", n) }
	cases := []struct {
		name string
		in   chunk.Chunk
		want string
		err  error
	}{
		{"no data", chunk.Chunk{Name: "WAIT"}, empty, nil},
		{"some data", chunk.Chunk{Name: "ABCD", Data: "xyz"}, three, nil},
		{"the lower byte is first", chunk.Chunk{Name: "AZAZ", Data: q(256)}, "AZAZ\x00\x01" + q(256) + "\x7c\x72", nil},
		{"all that two bytes tell", chunk.Chunk{Name: "AAAA", Data: q(65535)}, "AAAA\xff\xff" + q(65535) + "\xdc\x81", nil},
		{"one more", chunk.Chunk{Name: "AAAA", Data: q(65536)}, "", api.ErrMany},
		{"no name", chunk.Chunk{Data: "x"}, "", api.ErrShape},
		{"small letters", chunk.Chunk{Name: "wait"}, "", api.ErrShape},
		{"five letters", chunk.Chunk{Name: "WAITS"}, "", api.ErrShape},
		{"the name is told first", chunk.Chunk{Name: "ABC", Data: q(65536)}, "", api.ErrShape},
	}
	for _, c := range cases {
		if got, err := chunk.Bytes(c.in); got != c.want || err != c.err {
			t.Errorf("%s: Bytes = %.20q (%d), %v, want %.20q (%d), %v", c.name, got, len(got), err, c.want, len(c.want), c.err)
		}
	}
}

// TestFirst: B3, of the first chunk.
func TestFirst(t *testing.T) {
	wait, abcd := chunk.Chunk{Name: "WAIT"}, chunk.Chunk{Name: "ABCD", Data: "xyz"}
	cases := []struct {
		name, in string
		want     chunk.Chunk
		rest     string
		err      error
	}{
		{"one", empty, wait, "", nil},
		{"one with data", three, abcd, "", nil},
		{"one, and another", three + empty, abcd, empty, nil},
		{"one, and what is none", empty + "x", wait, "x", nil},
		{"nothing", "", chunk.Chunk{}, "", api.ErrText},
		{"seven bytes", empty[:7], chunk.Chunk{}, "", api.ErrText},
		{"a byte is missing", three[:10], chunk.Chunk{}, "", api.ErrText},
		{"more bytes are said", "WAIT\x01\x00\x3b\x8e", chunk.Chunk{}, "", api.ErrText},
		{"far more bytes are said", "WAIT\x00\x01\x3b\x8e", chunk.Chunk{}, "", api.ErrText},
		{"most bytes are said", "WAIT\xff\xff\x3b\x8e", chunk.Chunk{}, "", api.ErrText},
		{"small letters", "wait\x00\x00\x3b\x8e", chunk.Chunk{}, "", api.ErrText},
		{"no letters", "WAI\x00\x00\x00\x3b\x8e", chunk.Chunk{}, "", api.ErrText},
		{"the name is another one", "WAJT\x00\x00\x3b\x8e", chunk.Chunk{}, "", api.ErrSum},
		{"the data are others", "ABCD\x03\x00xyy\x83\xe4", chunk.Chunk{}, "", api.ErrSum},
		{"the first of the sum", "WAIT\x00\x00\x3c\x8e", chunk.Chunk{}, "", api.ErrSum},
		{"the second of the sum", "WAIT\x00\x00\x3b\x8f", chunk.Chunk{}, "", api.ErrSum},
		{"the sum the other way round", "WAIT\x00\x00\x8e\x3b", chunk.Chunk{}, "", api.ErrSum},
	}
	for _, c := range cases {
		got, rest, err := chunk.First(c.in)
		if got != c.want || rest != c.rest || err != c.err {
			t.Errorf("%s: First(%q) = %q, %q, %v, want %q, %q, %v", c.name, c.in, got, rest, err, c.want, c.rest, c.err)
		}
	}
}

// A sum is told by bytes, so one that is 251 too great is another one (B3).
func TestFirstTakesSumsBelow251Only(t *testing.T) {
	tried := 0
	for i := range 256 {
		s, err := chunk.Bytes(chunk.Chunk{Name: "ABCD", Data: string([]byte{byte(i)})})
		if err != nil {
			t.Fatal(err)
		}
		for _, k := range []int{len(s) - 2, len(s) - 1} {
			if s[k] > 4 {
				continue
			}
			tried++
			spoilt := s[:k] + string([]byte{s[k] + 251}) + s[k+1:]
			if _, _, err := chunk.First(spoilt); err != api.ErrSum {
				t.Errorf("First(%q): %v, want ErrSum", spoilt, err)
			}
		}
	}
	if tried == 0 {
		t.Error("no sum was below 5")
	}
}

// TestAll: B3, of all chunks.
func TestAll(t *testing.T) {
	wait, abcd := chunk.Chunk{Name: "WAIT"}, chunk.Chunk{Name: "ABCD", Data: "xyz"}
	spoilt := empty[:7] + "\x00"
	cases := []struct {
		name, in string
		most     int
		want     []chunk.Chunk
		err      error
	}{
		{"nothing", "", 0, nil, nil},
		{"nothing, below none at most", "", math.MinInt, nil, nil},
		{"one", empty, 1, []chunk.Chunk{wait}, nil},
		{"three, in order", three + empty + three, 3, []chunk.Chunk{abcd, wait, abcd}, nil},
		{"three, any number at most", empty + empty + three, math.MaxInt, []chunk.Chunk{wait, wait, abcd}, nil},
		{"one too many", three + empty, 1, nil, api.ErrMany},
		{"none at most", empty, 0, nil, api.ErrMany},
		{"below none at most", empty, -1, nil, api.ErrMany},
		{"bytes behind all of them, too", empty + "x", 1, nil, api.ErrMany},
		{"bytes behind them", empty + "x", 2, nil, api.ErrText},
		{"the second one is spoilt", empty + spoilt, 2, nil, api.ErrSum},
		{"the second one would be too many", empty + spoilt, 1, nil, api.ErrMany},
		{"the first one is spoilt", spoilt + empty, 1, nil, api.ErrSum},
		{"what isn't one, with none at most", "x", 0, nil, api.ErrMany},
		{"cut short", empty + three[:9], 9, nil, api.ErrText},
	}
	for _, c := range cases {
		got, err := chunk.All(c.in, c.most)
		if !slices.Equal(got, c.want) || err != c.err {
			t.Errorf("%s: All(%q, %d) = %q, %v, want %q, %v", c.name, c.in, c.most, got, err, c.want, c.err)
		}
	}
}

// What is written is read as it was, and what is spoilt is found: any one byte that is another one (W1).
func TestBytesAndFirst(t *testing.T) {
	for n := range 40 {
		c := chunk.Chunk{Name: "QRST", Data: strings.Repeat("\x00\xff\x07", n)}
		s, err := chunk.Bytes(c)
		if err != nil {
			t.Fatal(err)
		}
		if got, rest, err := chunk.First(s + "more"); got != c || rest != "more" || err != nil {
			t.Errorf("First(Bytes(%q)) = %q, %q, %v", c, got, rest, err)
		}
		for k := range len(s) {
			spoilt := s[:k] + string([]byte{s[k] ^ 1}) + s[k+1:]
			if got, rest, err := chunk.First(spoilt); err == nil || got != (chunk.Chunk{}) || rest != "" {
				t.Errorf("First(%q) = %q, %q, %v, want an error alone", spoilt, got, rest, err)
			}
		}
	}
}

// Many small chunks are read in one go: each byte is looked at a few times only (Z1).
func TestAllOfMany(t *testing.T) {
	const n = 200000
	l, err := chunk.All(strings.Repeat(empty, n), n)
	if len(l) != n || err != nil {
		t.Fatalf("All = %d chunks, %v", len(l), err)
	}
	if l, err := chunk.All(strings.Repeat(empty, n), n-1); len(l) != 0 || err != api.ErrMany {
		t.Fatalf("All = %d chunks, %v, want ErrMany", len(l), err)
	}
}

// An answer is the caller's: what is written into it is in no other one (Z2).
func TestAllIsFresh(t *testing.T) {
	a, _ := chunk.All(empty+three, 2)
	b, _ := chunk.All(empty+three, 2)
	a[0].Name, a[1].Data = "SPOI", "LT"
	if b[0].Name != "WAIT" || b[1].Data != "xyz" {
		t.Errorf("two answers share memory: %q", b)
	}
}
