package book_test

import (
	"maps"
	"math"
	"math/rand"
	"reflect"
	"slices"
	"strings"
	"testing"

	"flickerbook/api"
	"flickerbook/book"
	"flickerbook/chunk"
	"flickerbook/op"
)

// Bytes of a book, byte by byte as the document has them: names, how many, data, sums.
const (
	headBytes = "HEAD\x04\x00\x83\x00\x82\x00\x26\x8f"
	waitBytes = "WAIT\x02\x00\x85\x00\xc2\x20"
	endsBytes = "ENDS\x00\x00\x30\x4c"
)

var (
	head = api.Op{Kind: api.Head, A: 3, B: 2}
	wait = api.Op{Kind: api.Wait, A: 5}
	loop = api.Op{Kind: api.Loop, A: 2}
	next = api.Op{Kind: api.Next}
	end  = api.Op{Kind: api.End}
)

// ops between a head and an end.
func ops(l ...api.Op) []api.Op {
	return slices.Concat([]api.Op{head}, l, []api.Op{end})
}

// pict: an object of one pixel.
func pict(id int) api.Op {
	return api.Op{Kind: api.Pict, ID: id, Pic: api.Picture{W: 1, H: 1, P: []api.Pixel{{V: 9, A: 255}}}}
}

// large picture: hardly a byte is as the one ahead of it.
func large() api.Op {
	o := api.Op{Kind: api.Pict, ID: 1, Pic: api.Picture{W: 8, H: 8}}
	d := rand.New(rand.NewSource(1))
	for range 64 {
		o.Pic.P = append(o.Pic.P, api.Pixel{V: d.Intn(256), A: d.Intn(256)})
	}
	return o
}

// sameOps? An empty list is as good as none, also one of pixels.
func sameOps(a, b []api.Op) bool {
	return slices.EqualFunc(a, b, func(a, b api.Op) bool {
		p, q := a.Pic.P, b.Pic.P
		a.Pic.P, b.Pic.P = nil, nil
		return reflect.DeepEqual(a, b) && slices.Equal(p, q)
	})
}

// must be written: a chunk's bytes.
func must(t *testing.T, name, data string) string {
	t.Helper()
	s, err := chunk.Bytes(chunk.Chunk{Name: name, Data: data})
	if err != nil {
		t.Fatal(err)
	}
	return s
}

// mustBytes of a book.
func mustBytes(t *testing.T, l []api.Op) string {
	t.Helper()
	s, err := book.Bytes(l)
	if err != nil {
		t.Fatal(err)
	}
	return s
}

// TestCheck: H1.
func TestCheck(t *testing.T) {
	many := func(n int, o api.Op) []api.Op { return slices.Repeat([]api.Op{o}, n) }
	cases := []struct {
		name string
		l    []api.Op
		want error
	}{
		{"a head and an end", ops(), nil},
		{"some", ops(pict(1), wait, api.Op{Kind: api.Drop, ID: 1}, api.Op{Kind: api.Save}, api.Op{Kind: api.Seek}), nil},
		{"a loop", ops(loop, wait, next), nil},
		{"a loop of nothing", ops(loop, next), nil},
		{"a loop of no times", ops(api.Op{Kind: api.Loop}, next), nil},
		{"three deep", ops(loop, loop, loop, next, next, next), nil},
		{"three deep, twice", ops(loop, loop, loop, next, loop, next, next, next, loop, loop, loop, next, next, next), nil},
		{"many loops", ops(slices.Repeat([]api.Op{loop, next}, 29)...), nil},
		{"sixty", ops(many(58, wait)...), nil},

		{"none", nil, api.ErrShape},
		{"an empty list", []api.Op{}, api.ErrShape},
		{"a head", []api.Op{head}, api.ErrShape},
		{"an end", []api.Op{end}, api.ErrShape},
		{"no head", []api.Op{wait, end}, api.ErrShape},
		{"no end", []api.Op{head, wait}, api.ErrShape},
		{"the other way round", []api.Op{end, head}, api.ErrShape},
		{"two heads alone", []api.Op{head, head}, api.ErrShape},
		{"two ends alone", []api.Op{end, end}, api.ErrShape},
		{"sixty-one", ops(many(59, wait)...), api.ErrMany},
		{"zero ops", make([]api.Op, 70), api.ErrShape},

		{"a head that may not be", []api.Op{{Kind: api.Head}, end}, api.ErrBound},
		{"an end that may not be", []api.Op{head, {Kind: api.End, A: 1}}, api.ErrShape},
		{"no such kind", ops(api.Op{}), api.ErrShape},
		{"a number that may not be", ops(api.Op{Kind: api.Wait, A: 100}), api.ErrBound},
		{"a picture that may not be", ops(api.Op{Kind: api.Pict, ID: 1, Pic: api.Picture{W: 1, H: 1}}), api.ErrShape},
		{"another head", ops(head), api.ErrShape},
		{"another head behind some", ops(wait, head, wait), api.ErrShape},
		{"another end", ops(end), api.ErrShape},
		{"another end behind some", ops(wait, end, wait), api.ErrShape},
		{"a next alone", ops(next), api.ErrShape},
		{"a next too many", ops(loop, next, next), api.ErrShape},
		{"a next ahead of its loop", ops(next, loop), api.ErrShape},
		{"four deep", ops(loop, loop, loop, loop, next, next, next, next), api.ErrMany},
		{"four deep behind others", ops(loop, next, loop, loop, loop, next, loop, loop, next, next, next, next), api.ErrMany},
		{"an open loop", ops(loop), api.ErrShape},
		{"an open loop around another one", ops(loop, wait, loop, next), api.ErrShape},
		{"three open loops", ops(loop, loop, loop), api.ErrShape},
	}
	for _, c := range cases {
		if err := book.Check(c.l); err != c.want {
			t.Errorf("%s: Check = %v, want %v", c.name, err, c.want)
		}
	}
}

// TestCheckOrder: H1, Z3: the error that is named first is told, of the first op that has one.
func TestCheckOrder(t *testing.T) {
	bound := api.Op{Kind: api.Wait, A: 100}
	wrongHead, wrongEnd := api.Op{Kind: api.Head, A: 9, B: 1}, api.Op{Kind: api.End, ID: 1}
	deep := []api.Op{loop, loop, loop, loop}
	cases := []struct {
		name string
		l    []api.Op
		want error
	}{
		{"no head ahead of a wrong op", []api.Op{bound, end}, api.ErrShape},
		{"no end ahead of a wrong op", []api.Op{wrongHead, wait}, api.ErrShape},
		{"no end ahead of too many", slices.Repeat([]api.Op{head}, 61), api.ErrShape},
		{"too many ahead of a wrong op", ops(slices.Repeat([]api.Op{bound}, 59)...), api.ErrMany},
		{"too many ahead of a next", ops(slices.Repeat([]api.Op{next}, 59)...), api.ErrMany},
		{"a wrong head ahead of a next", []api.Op{wrongHead, next, end}, api.ErrBound},
		{"a wrong op ahead of a next", ops(bound, next), api.ErrBound},
		{"a next ahead of a wrong op", ops(next, bound), api.ErrShape},
		{"another head that may not be", ops(wrongHead), api.ErrBound},
		{"another head ahead of a wrong op", ops(head, bound), api.ErrShape},
		{"a wrong op ahead of another end", ops(bound, end), api.ErrBound},
		{"too deep ahead of a wrong op", ops(append(deep, bound)...), api.ErrMany},
		{"a wrong op ahead of too deep", ops(append([]api.Op{bound}, deep...)...), api.ErrBound},
		{"too deep ahead of an open loop", ops(deep...), api.ErrMany},
		{"a next ahead of too deep", ops(append([]api.Op{next}, deep...)...), api.ErrShape},
		{"a loop that may not be is too deep", ops(loop, loop, loop, api.Op{Kind: api.Loop, A: 10}), api.ErrBound},
		{"an open loop behind all", []api.Op{head, api.Op{Kind: api.Loop}, bound, end}, api.ErrBound},
		{"a wrong end", []api.Op{head, loop, wrongEnd}, api.ErrShape},
	}
	for _, c := range cases {
		if err := book.Check(c.l); err != c.want {
			t.Errorf("%s: Check = %v, want %v", c.name, err, c.want)
		}
	}
}

// TestClose: H1.
func TestClose(t *testing.T) {
	cases := []struct {
		name string
		l    []api.Op
		want map[int]int
	}{
		{"no loops", ops(wait, wait), nil},
		{"one", ops(wait, loop, wait, next, wait), map[int]int{2: 4}},
		{"one of nothing", ops(loop, next), map[int]int{1: 2}},
		{"one behind the other", ops(loop, wait, next, loop, next), map[int]int{1: 3, 4: 5}},
		{"one in the other", ops(loop, loop, wait, next, next), map[int]int{1: 5, 2: 4}},
		{"three deep", ops(loop, wait, loop, loop, next, next, wait, loop, next, next),
			map[int]int{1: 10, 3: 6, 4: 5, 8: 9}},
		{"of no times", ops(api.Op{Kind: api.Loop}, wait, next), map[int]int{1: 3}},
	}
	for _, c := range cases {
		if err := book.Check(c.l); err != nil {
			t.Errorf("%s: Check = %v", c.name, err)
		}
		if got := book.Close(c.l); !maps.Equal(got, c.want) {
			t.Errorf("%s: Close = %v, want %v", c.name, got, c.want)
		}
	}
}

// TestCloseWrong: Z1: Close ends, and doesn't panic, also of what may not be.
func TestCloseWrong(t *testing.T) {
	for _, l := range [][]api.Op{nil, {}, {next}, {loop}, {next, next, loop}, {loop, next, next}, make([]api.Op, 99),
		slices.Repeat([]api.Op{loop}, 99), slices.Repeat([]api.Op{next}, 99)} {
		book.Close(l)
	}
}

// TestCloseFresh: Z2: what is answered is the caller's.
func TestCloseFresh(t *testing.T) {
	l := ops(loop, next)
	clear(book.Close(l))
	if got := book.Close(l); !maps.Equal(got, map[int]int{1: 2}) {
		t.Errorf("Close again = %v", got)
	}
}

// TestBytes: H2.
func TestBytes(t *testing.T) {
	if s, err := book.Bytes(ops(wait)); err != nil || s != headBytes+waitBytes+endsBytes {
		t.Errorf("Bytes = %q, %v", s, err)
	}
	if s, err := book.Bytes(ops()); err != nil || s != headBytes+endsBytes {
		t.Errorf("Bytes of the least = %q, %v", s, err)
	}
	l := ops(pict(2), loop, api.Op{Kind: api.Move, ID: 2, A: -20, B: 1}, wait, next)
	want := ""
	for _, o := range l {
		c, err := op.Chunk(o)
		if err != nil {
			t.Fatal(err)
		}
		want += must(t, c.Name, c.Data)
	}
	if s, err := book.Bytes(l); err != nil || s != want {
		t.Errorf("Bytes = %q, %v, want %q", s, err, want)
	}
}

// TestBytesWrong: H2: Check's error, and no bytes beside it (Z1).
func TestBytesWrong(t *testing.T) {
	for _, l := range [][]api.Op{nil, {head}, ops(head), ops(next), ops(loop), ops(api.Op{Kind: api.Wait, A: 100}),
		ops(loop, loop, loop, loop), ops(slices.Repeat([]api.Op{wait}, 59)...)} {
		if s, err := book.Bytes(l); err == nil || err != book.Check(l) || s != "" {
			t.Errorf("Bytes of %d ops = %q, %v, want %v", len(l), s, err, book.Check(l))
		}
	}
}

// TestParse: H3, W1: chunks of other names change nothing.
func TestParse(t *testing.T) {
	extra := must(t, "XTRA", "y")
	x := must(t, "XXXX", strings.Repeat("q", 999)) + must(t, "XNEX", "")
	cases := []struct {
		name, s string
		want    []api.Op
	}{
		{"byte by byte", headBytes + waitBytes + endsBytes, ops(wait)},
		{"the least", headBytes + endsBytes, ops()},
		{"another chunk ahead", extra + headBytes + endsBytes, ops()},
		{"another chunk between", headBytes + extra + waitBytes + endsBytes, ops(wait)},
		{"another chunk behind", headBytes + waitBytes + endsBytes + extra, ops(wait)},
		{"other chunks all over", x + headBytes + extra + x + endsBytes + x, ops()},
	}
	for _, c := range cases {
		if l, err := book.Parse(c.s); err != nil || !sameOps(l, c.want) {
			t.Errorf("%s: Parse = %v, %v, want %v", c.name, l, err, c.want)
		}
	}
}

// TestParseMany: H3: MaxBytes, and twice MaxOps, at their edges.
func TestParseMany(t *testing.T) {
	least := headBytes + endsBytes
	fill := func(n int) string { return must(t, "XTRA", strings.Repeat("z", n-len(least)-8)) }
	extra := must(t, "XTRA", "")
	cases := []struct {
		name, s string
		want    error
	}{
		{"4000 bytes", least + fill(4000), nil},
		{"4001 bytes", least + fill(4001), api.ErrMany},
		{"4001 bytes of no chunk", strings.Repeat("z", 4001), api.ErrMany},
		{"4000 bytes of no chunk", strings.Repeat("z", 4000), api.ErrText},
		{"120 chunks", least + strings.Repeat(extra, 118), nil},
		{"121 chunks", least + strings.Repeat(extra, 119), api.ErrMany},
		{"120 chunks, and a byte", least + strings.Repeat(extra, 118) + "z", api.ErrMany},
		{"119 chunks, and a byte", least + strings.Repeat(extra, 117) + "z", api.ErrText},
		{"too many chunks ahead of a name", strings.Repeat(must(t, "ABCD", ""), 121), api.ErrMany},
		{"60 ops", mustBytes(t, ops(slices.Repeat([]api.Op{wait}, 58)...)), nil},
		{"61 ops", headBytes + strings.Repeat(waitBytes, 59) + endsBytes, api.ErrMany},
	}
	for _, c := range cases {
		if l, err := book.Parse(c.s); err != c.want || (err != nil) != (len(l) == 0) {
			t.Errorf("%s: Parse = %d ops, %v, want %v", c.name, len(l), err, c.want)
		}
	}
}

// TestParseWrong: H3, and the order of its errors (Z3); no ops beside them (Z1).
func TestParseWrong(t *testing.T) {
	least := headBytes + endsBytes
	spoilt := "WAIT\x02\x00\x86\x00\xc2\x20"
	unknown := must(t, "ABCD", "y")
	short := must(t, "WAIT", "\x80")
	late := must(t, "WAIT", "\xff\x00")
	cases := []struct {
		name, s string
		want    error
	}{
		{"no bytes", "", api.ErrShape},
		{"no chunk", "z", api.ErrText},
		{"bytes behind", least + "z", api.ErrText},
		{"cut off", least[:len(least)-1], api.ErrText},
		{"a spoilt one", headBytes + spoilt + endsBytes, api.ErrSum},
		{"a spoilt one that is passed over", least + "XTRA\x00\x00zz", api.ErrSum},
		{"another name", headBytes + unknown + endsBytes, api.ErrNone},
		{"X not ahead", least + must(t, "AXXX", ""), api.ErrNone},
		{"too few bytes", headBytes + short + endsBytes, api.ErrText},
		{"an op that may not be", headBytes + late + endsBytes, api.ErrBound},
		{"a head alone", headBytes, api.ErrShape},
		{"other chunks alone", must(t, "XTRA", ""), api.ErrShape},
		{"no end", headBytes + waitBytes, api.ErrShape},
		{"a next alone", headBytes + must(t, "NEXT", "") + endsBytes, api.ErrShape},
		{"a spoilt one ahead of another name", unknown + spoilt, api.ErrSum},
		{"another name ahead of too few bytes", unknown + short, api.ErrNone},
		{"too few bytes ahead of another name", short + unknown, api.ErrText},
		{"another name ahead of no head", waitBytes + unknown, api.ErrNone},
		{"an op's error ahead of the book's", waitBytes + late, api.ErrBound},
	}
	for _, c := range cases {
		if l, err := book.Parse(c.s); err != c.want || len(l) > 0 {
			t.Errorf("%s: Parse = %v, %v, want %v", c.name, l, err, c.want)
		}
	}
}

// some op that may be, but no head, end, loop or next.
func some(d *rand.Rand) api.Op {
	id := 1 + d.Intn(6)
	p := api.Picture{W: 1 + d.Intn(2), H: 1 + d.Intn(3)}
	for range p.W * p.H {
		p.P = append(p.P, api.Pixel{V: d.Intn(256), A: d.Intn(256)})
	}
	place := func() int { return d.Intn(41) - 20 }
	return []api.Op{
		{Kind: api.Pict, ID: id, Pic: p},
		{Kind: api.Move, ID: id, A: place(), B: place()},
		{Kind: api.Clip, ID: id, A: place(), B: place(), C: d.Intn(21), D: d.Intn(21)},
		{Kind: api.Show, ID: id, A: d.Intn(2)},
		{Kind: api.Copy, ID: id, A: 1 + d.Intn(6)},
		{Kind: api.Drop, ID: id},
		{Kind: api.Add, ID: id, A: place(), B: place(), Pic: p},
		{Kind: api.Put, ID: id, A: place(), B: place(), Pic: p},
		{Kind: api.Back, A: d.Intn(256), B: d.Intn(256)},
		{Kind: api.Wait, A: d.Intn(100)},
		{Kind: api.Save},
		{Kind: api.Seek},
	}[d.Intn(12)]
}

// someBook that may be, and where its loops are closed.
func someBook(d *rand.Rand) ([]api.Op, map[int]int) {
	l := []api.Op{{Kind: api.Head, A: 1 + d.Intn(8), B: 1 + d.Intn(8)}}
	closed := map[int]int{}
	var fill func(deep int)
	fill = func(deep int) {
		for range d.Intn(6) {
			if deep == 3 || d.Intn(3) > 0 || len(l) > 40 {
				l = append(l, some(d))
				continue
			}
			at := len(l)
			l = append(l, api.Op{Kind: api.Loop, A: d.Intn(10)})
			fill(deep + 1)
			closed[at] = len(l)
			l = append(l, next)
		}
	}
	fill(0)
	return append(l, end), closed
}

// TestAll: W1: books are read as they were; H1 of their loops.
func TestAll(t *testing.T) {
	d := rand.New(rand.NewSource(9))
	for range 500 {
		l, closed := someBook(d)
		if len(l) > api.MaxOps {
			continue
		}
		if err := book.Check(l); err != nil {
			t.Fatalf("Check(%v) = %v", l, err)
		}
		if got := book.Close(l); !maps.Equal(got, closed) {
			t.Fatalf("Close(%v) = %v, want %v", l, got, closed)
		}
		s := mustBytes(t, l)
		if len(s) > api.MaxBytes {
			continue
		}
		if got, err := book.Parse(s); err != nil || !sameOps(got, l) {
			t.Fatalf("Parse(Bytes(%v)) = %v, %v", l, got, err)
		}
	}
}

// TestLarge: H2 has no bound of bytes, H3 has one.
func TestLarge(t *testing.T) {
	s := mustBytes(t, ops(slices.Repeat([]api.Op{large()}, 58)...))
	if len(s) <= api.MaxBytes {
		t.Fatalf("%d bytes", len(s))
	}
	if l, err := book.Parse(s); err != api.ErrMany || len(l) > 0 {
		t.Errorf("Parse of %d bytes = %d ops, %v", len(s), len(l), err)
	}
}

// TestSpoilt: W1: what is spoilt is found: a byte that is another one, one that
// is gone, and an end that is; Z1: an error stands alone, a bare number (Z3).
func TestSpoilt(t *testing.T) {
	s := mustBytes(t, ops(pict(1), loop, wait, next))
	for i := range len(s) {
		for _, by := range []byte{1, 2, 128, 255} {
			u := s[:i] + string([]byte{s[i] + by}) + s[i+1:]
			l, err := book.Parse(u)
			if _, bare := err.(api.Errno); !bare || len(l) > 0 {
				t.Errorf("byte %d and %d: Parse = %v, %v", i, by, l, err)
			}
		}
		if l, err := book.Parse(s[:i] + s[i+1:]); err == nil || len(l) > 0 {
			t.Errorf("without byte %d: Parse = %v, %v", i, l, err)
		}
		if l, err := book.Parse(s[:i]); err == nil || len(l) > 0 {
			t.Errorf("%d bytes: Parse = %v, %v", i, l, err)
		}
	}
}

// TestWild: Z1: nothing panics at lists of any ops.
func TestWild(t *testing.T) {
	d := rand.New(rand.NewSource(10))
	odd := []int{0, 1, -1, 3, 17, 256, math.MinInt, math.MaxInt}
	n := func() int { return odd[d.Intn(len(odd))] }
	for range 2000 {
		var l []api.Op
		for range d.Intn(5) {
			l = append(l, api.Op{Kind: d.Intn(18), ID: n(), A: n(), B: n(), C: n(), D: n(),
				Pic: api.Picture{W: n(), H: n(), P: make([]api.Pixel, d.Intn(3))}})
		}
		if d.Intn(2) == 0 {
			l = ops(l...)
		}
		s, err := book.Bytes(l)
		if err != book.Check(l) || (err != nil) != (s == "") {
			t.Fatalf("Bytes(%v) = %q, %v", l, s, err)
		}
		book.Close(l)
	}
}

// TestLists: Z2: a list that is handed in isn't changed, nor is what stands
// behind it read, and what is answered is new.
func TestLists(t *testing.T) {
	room := append(ops(pict(1), loop, wait, next), api.Op{Kind: 99})
	before := append(ops(pict(1), loop, wait, next), api.Op{Kind: 99})
	l := room[:len(room)-1]
	s, err := book.Bytes(l)
	if err != nil || book.Check(l) != nil || !maps.Equal(book.Close(l), map[int]int{2: 4}) {
		t.Fatalf("Bytes = %q, %v", s, err)
	}
	if !sameOps(room, before) {
		t.Errorf("the list was changed: %v", room)
	}
	got, _ := book.Parse(s)
	got[0].A, got[1].Pic.P[0].V = 8, 100
	if again, err := book.Parse(s); err != nil || !sameOps(again, l) {
		t.Errorf("read again: %v, %v, want %v", again, err, l)
	}
}
