package script_test

import (
	"math"
	"math/rand"
	"reflect"
	"slices"
	"strconv"
	"strings"
	"testing"

	"flickerbook/api"
	"flickerbook/op"
	"flickerbook/script"
)

// pair of pixels, as a picture.
func pair() api.Picture {
	return api.Picture{W: 2, H: 1, P: []api.Pixel{{V: 7, A: 255}, {V: 9, A: 0}}}
}

// told: an op, and its line.
type told struct {
	o api.Op
	s string
}

// lines of all kinds, at their edges.
func lines() []told {
	square := api.Picture{W: 2, H: 2, P: []api.Pixel{{V: 1, A: 2}, {V: 3, A: 4}, {V: 5, A: 6}, {V: 255, A: 255}}}
	return []told{
		{api.Op{Kind: api.Head, A: 3, B: 2}, "head 3 2"},
		{api.Op{Kind: api.Head, A: 1, B: 8}, "head 1 8"},
		{api.Op{Kind: api.Pict, ID: 1, Pic: pair()}, "pict 1 2 1 7 255 9 0"},
		{api.Op{Kind: api.Pict, ID: 6, Pic: square}, "pict 6 2 2 1 2 3 4 5 6 255 255"},
		{api.Op{Kind: api.Move, ID: 2, A: -20, B: 20}, "move 2 -20 20"},
		{api.Op{Kind: api.Move, ID: 2}, "move 2 0 0"},
		{api.Op{Kind: api.Clip, ID: 3, A: -1, B: 2, C: 20, D: 4}, "clip 3 -1 2 20 4"},
		{api.Op{Kind: api.Show, ID: 4}, "show 4 0"},
		{api.Op{Kind: api.Show, ID: 4, A: 1}, "show 4 1"},
		{api.Op{Kind: api.Copy, ID: 5, A: 6}, "copy 5 6"},
		{api.Op{Kind: api.Drop, ID: 6}, "drop 6"},
		{api.Op{Kind: api.Add, ID: 1, A: -3, B: 4, Pic: pair()}, "add 1 -3 4 2 1 7 255 9 0"},
		{api.Op{Kind: api.Put, ID: 1, A: 20, B: -20, Pic: pair()}, "put 1 20 -20 2 1 7 255 9 0"},
		{api.Op{Kind: api.Back, A: 10, B: 255}, "back 10 255"},
		{api.Op{Kind: api.Wait}, "wait 0"},
		{api.Op{Kind: api.Wait, A: 99}, "wait 99"},
		{api.Op{Kind: api.Loop, A: 9}, "loop 9"},
		{api.Op{Kind: api.Next}, "next"},
		{api.Op{Kind: api.Save}, "save"},
		{api.Op{Kind: api.Seek}, "seek"},
		{api.Op{Kind: api.End}, "end"},
	}
}

// same ops? An empty list of pixels is as good as none.
func same(a, b api.Op) bool {
	p, q := a.Pic.P, b.Pic.P
	a.Pic.P, b.Pic.P = nil, nil
	return reflect.DeepEqual(a, b) && slices.Equal(p, q)
}

// TestText: K1, of each kind.
func TestText(t *testing.T) {
	for _, c := range lines() {
		if s, err := script.Text(c.o); err != nil || s != c.s {
			t.Errorf("Text(%v) = %q, %v, want %q", c.o, s, err, c.s)
		}
	}
}

// TestTextWrong: K1: Check's error, and no text beside it (Z1).
func TestTextWrong(t *testing.T) {
	three := pair()
	three.P = append(three.P, api.Pixel{})
	bright := pair()
	bright.P[1].V = 256
	cases := []struct {
		name string
		o    api.Op
		want error
	}{
		{"none", api.Op{}, api.ErrShape},
		{"a kind below all", api.Op{Kind: -1}, api.ErrShape},
		{"a kind above all", api.Op{Kind: api.End + 1}, api.ErrShape},
		{"the least kind", api.Op{Kind: math.MinInt}, api.ErrShape},
		{"the greatest kind", api.Op{Kind: math.MaxInt}, api.ErrShape},
		{"an ID that its kind hasn't", api.Op{Kind: api.End, ID: 1}, api.ErrShape},
		{"a number that its kind hasn't", api.Op{Kind: api.Wait, A: 1, B: 1}, api.ErrShape},
		{"a picture that its kind hasn't", api.Op{Kind: api.Drop, ID: 1, Pic: pair()}, api.ErrShape},
		{"no ID", api.Op{Kind: api.Drop}, api.ErrBound},
		{"too far", api.Op{Kind: api.Move, ID: 1, A: 21}, api.ErrBound},
		{"too long", api.Op{Kind: api.Wait, A: 100}, api.ErrBound},
		{"no picture", api.Op{Kind: api.Pict, ID: 1}, api.ErrBound},
		{"a pixel too many", api.Op{Kind: api.Pict, ID: 1, Pic: three}, api.ErrShape},
		{"a shade too bright", api.Op{Kind: api.Put, ID: 1, Pic: bright}, api.ErrBound},
	}
	for _, c := range cases {
		if s, err := script.Text(c.o); err != c.want || s != "" {
			t.Errorf("%s: Text = %q, %v, want %v", c.name, s, err, c.want)
		}
	}
}

// TestParse: K2, of each kind.
func TestParse(t *testing.T) {
	for _, c := range lines() {
		if o, err := script.Parse(c.s); err != nil || !same(o, c.o) {
			t.Errorf("Parse(%q) = %v, %v, want %v", c.s, o, err, c.o)
		}
	}
}

// TestParseWords: K2: the first word.
func TestParseWords(t *testing.T) {
	for _, s := range []string{"", " ", "  ", "fly", "fly high", "Head 3 2", "HEAD 3 2", "heads 3 2", "hea 3 2", "head3 2",
		" head 3 2", "head\t3 2", "head,3,2", "padd 1 0 0 1 1 0 0", "pput 1 0 0 1 1 0 0", "ends", "END", "nextnext",
		"3 2", "1", "\x00", "end\n", "énd", "\xff\xfe", "clear", "play 1", "bytes"} {
		if o, err := script.Parse(s); err != api.ErrText || !same(o, api.Op{}) {
			t.Errorf("Parse(%q) = %v, %v", s, o, err)
		}
	}
}

// TestParseNumbers: K2: what a number is. From -999 to 999 it can be read, also where it may not be.
func TestParseNumbers(t *testing.T) {
	cases := map[string]error{
		"0": nil, "1": nil, "9": nil, "10": nil, "99": nil,
		"100": api.ErrBound, "999": api.ErrBound, "-1": api.ErrBound, "-999": api.ErrBound, "-20": api.ErrBound,
	}
	for _, s := range []string{"", "1000", "-1000", "9999", "00", "01", "007", "-0", "-00", "-01", "--1", "-", "+", "+1", "+0",
		"1-", "1.0", ".5", "1e1", "0x1", "1_0", "a", "1a", "a1", "\t1", "1\t", "1\n", "\n", "1\x00", "١", "１", "−1",
		"18446744073709551617", "-18446744073709551617", "9223372036854775807", "-9223372036854775808",
		strings.Repeat("1", 9999), strings.Repeat("0", 9999)} {
		cases[s] = api.ErrText
	}
	for s, want := range cases {
		o, err := script.Parse("wait " + s)
		if err != want || err != nil && !same(o, api.Op{}) {
			t.Errorf("wait %.20q: Parse = %v, %v, want %v", s, o, err, want)
		}
		// At other places, too: an ID, a number, a side, a shade.
		for _, line := range []string{"copy # 1", "clip 1 0 0 0 #", "pict 1 # 1 0 0", "pict 1 1 1 0 #"} {
			_, err := script.Parse(strings.Replace(line, "#", s, 1))
			if (err == api.ErrText) != (want == api.ErrText) {
				t.Errorf("%s with %.20q: %v", line, s, err)
			}
		}
	}
}

// TestParseAllNumbers: K2, Z3: each number is read as it is told.
func TestParseAllNumbers(t *testing.T) {
	for n := -1100; n <= 1100; n++ {
		want := op.Check(api.Op{Kind: api.Move, ID: 1, A: n, B: 3})
		if n < -999 || n > 999 {
			want = api.ErrText
		}
		o, err := script.Parse("move 1 " + strconv.Itoa(n) + " 3")
		if err != want || err == nil && (o.A != n || o.B != 3) {
			t.Errorf("%d: Parse = %v, %v, want %v", n, o, err, want)
		}
	}
}

// TestParseMany: K2: fewer, and more, numbers than a kind has.
func TestParseMany(t *testing.T) {
	for _, c := range lines() {
		if c.o.Pic.W > 0 {
			continue
		}
		l := strings.Split(c.s, " ")
		for n := 1; n < len(l); n++ {
			if o, err := script.Parse(strings.Join(l[:n], " ")); err != api.ErrText || !same(o, api.Op{}) {
				t.Errorf("%d words of %q: Parse = %v, %v", n, c.s, o, err)
			}
		}
		for _, more := range []string{" 0", " 1", " 1 1", strings.Repeat(" 1", 99)} {
			if o, err := script.Parse(c.s + more); err != api.ErrText || !same(o, api.Op{}) {
				t.Errorf("%q: Parse = %v, %v", c.s+more, o, err)
			}
		}
	}
}

// TestParsePairs: K2: of a picture W and H, and then pairs of any number.
func TestParsePairs(t *testing.T) {
	for _, ahead := range []string{"pict 1", "add 1 2 3", "put 1 2 3"} {
		l := strings.Split(ahead, " ")
		for n := 1; n <= len(l); n++ {
			if o, err := script.Parse(strings.Join(l[:n], " ")); err != api.ErrText || !same(o, api.Op{}) {
				t.Errorf("%d words of %q: Parse = %v, %v", n, ahead, o, err)
			}
		}
		cases := map[string]error{
			" 1":                                 api.ErrText,
			" 1 1":                               api.ErrShape,
			" 1 1 0":                             api.ErrText,
			" 1 1 0 0":                           nil,
			" 1 1 0 0 0":                         api.ErrText,
			" 1 1 0 0 0 0":                       api.ErrShape,
			" 2 1 0 0 0 0":                       nil,
			" 2 1 0 0":                           api.ErrShape,
			" 0 0":                               api.ErrBound,
			" 9 1":                               api.ErrBound,
			" 9 1 0":                             api.ErrText,
			" -1 -1 0 0":                         api.ErrBound,
			" 1 1 256 0":                         api.ErrBound,
			" 1 1 0 -1":                          api.ErrBound,
			" 1 1 256 0 0 0":                     api.ErrShape,
			" 8 8" + strings.Repeat(" 5", 128):   nil,
			" 8 8" + strings.Repeat(" 5", 129):   api.ErrText,
			" 8 8" + strings.Repeat(" 5", 130):   api.ErrShape,
			" 1 1" + strings.Repeat(" 5", 9e5):   api.ErrShape,
			" 1 1" + strings.Repeat(" 5", 9e5+1): api.ErrText,
		}
		for s, want := range cases {
			if o, err := script.Parse(ahead + s); err != want || err != nil && !same(o, api.Op{}) {
				t.Errorf("%s%.20s: Parse = %v, %v, want %v", ahead, s, o, err, want)
			}
		}
	}
}

// TestParseOrder: K2, Z3: what can't be read is told ahead of what may not be, and of that what Check tells first.
func TestParseOrder(t *testing.T) {
	cases := map[string]error{
		"head 0 0":          api.ErrBound,
		"head 9 x":          api.ErrText,
		"head 9":            api.ErrText,
		"head 9 1 1":        api.ErrText,
		"drop 7":            api.ErrBound,
		"drop 0":            api.ErrBound,
		"drop -1":           api.ErrBound,
		"drop 7 1":          api.ErrText,
		"move 1 21 0":       api.ErrBound,
		"move 1 21 -0":      api.ErrText,
		"move 7 0":          api.ErrText,
		"clip 1 0 0 -1 0":   api.ErrBound,
		"clip 1 0 0 0 21":   api.ErrBound,
		"show 1 2":          api.ErrBound,
		"copy 1 7":          api.ErrBound,
		"copy 1 0":          api.ErrBound,
		"back 256 0":        api.ErrBound,
		"loop 10":           api.ErrBound,
		"pict 7 1 1 0 0":    api.ErrBound,
		"pict 7 1 1":        api.ErrBound, // the ID's error is ahead of the picture's
		"pict 7 1 1 0":      api.ErrText,
		"pict 7 1 1 0 1000": api.ErrText,
		"add 1 21 0 1 1":    api.ErrBound,
		"add 1 20 0 1 1":    api.ErrShape,
		"put 1 0 -21 9 9":   api.ErrBound,
	}
	for s, want := range cases {
		if o, err := script.Parse(s); err != want || !same(o, api.Op{}) {
			t.Errorf("Parse(%q) = %v, %v, want %v", s, o, err, want)
		}
	}
}

// TestParseBlanks: K2: just one blank between two words, and none around them.
func TestParseBlanks(t *testing.T) {
	for _, c := range lines() {
		for _, s := range []string{" " + c.s, c.s + " ", c.s + "\n", c.s + "\r", "\t" + c.s, c.s + "\x00"} {
			if o, err := script.Parse(s); err != api.ErrText || !same(o, api.Op{}) {
				t.Errorf("Parse(%q) = %v, %v", s, o, err)
			}
		}
		for i := range len(c.s) {
			if c.s[i] != ' ' {
				continue
			}
			for _, other := range []string{"  ", "\t", "\n", "\u00a0", ",", " \t"} {
				s := c.s[:i] + other + c.s[i+1:]
				if o, err := script.Parse(s); err != api.ErrText || !same(o, api.Op{}) {
					t.Errorf("Parse(%q) = %v, %v", s, o, err)
				}
			}
		}
	}
}

// some op that may be.
func some(d *rand.Rand) api.Op {
	id := 1 + d.Intn(6)
	p := api.Picture{W: 1 + d.Intn(8), H: 1 + d.Intn(8)}
	for range p.W * p.H {
		p.P = append(p.P, api.Pixel{V: d.Intn(256), A: d.Intn(256)})
	}
	place := func() int { return d.Intn(41) - 20 }
	return []api.Op{
		{Kind: api.Head, A: 1 + d.Intn(8), B: 1 + d.Intn(8)},
		{Kind: api.Pict, ID: id, Pic: p},
		{Kind: api.Move, ID: id, A: place(), B: place()},
		{Kind: api.Clip, ID: id, A: place(), B: place(), C: d.Intn(21), D: d.Intn(21)},
		{Kind: api.Show, ID: id, A: d.Intn(2)},
		{Kind: api.Copy, ID: id, A: 1 + d.Intn(6)},
		{Kind: api.Drop, ID: id},
		{Kind: api.Add, ID: id, A: place(), B: place(), Pic: p},
		{Kind: api.Put, ID: id, A: place(), B: place(), Pic: p},
		{Kind: api.Back, A: d.Intn(256), B: d.Intn(256)},
		{Kind: api.Wait, A: d.Intn(100)},
		{Kind: api.Loop, A: d.Intn(10)},
		{Kind: api.Next},
		{Kind: api.Save},
		{Kind: api.Seek},
		{Kind: api.End},
	}[d.Intn(16)]
}

// TestAll: W1: lines are read as they were, and what can be read is told as it was.
func TestAll(t *testing.T) {
	d := rand.New(rand.NewSource(17))
	for range 3000 {
		o := some(d)
		s, err := script.Text(o)
		if err != nil {
			t.Fatalf("Text(%v) = %v", o, err)
		}
		if got, err := script.Parse(s); err != nil || !same(got, o) {
			t.Fatalf("Parse(%q) = %v, %v, want %v", s, got, err, o)
		}
		k := d.Intn(len(s))
		s = s[:k] + []string{"0", "1", "-", " ", "a", ""}[d.Intn(6)] + s[k+d.Intn(2):]
		got, err := script.Parse(s)
		if err != nil {
			bare(t, s, got, err)
			continue
		}
		if again, err := script.Text(got); err != nil || again != s {
			t.Fatalf("Parse(%q) = %v, told %q, %v", s, got, again, err)
		}
	}
}

// bare error: Z3: one of api, and no op beside it (Z1).
func bare(t *testing.T, s string, o api.Op, err error) {
	t.Helper()
	if n, ok := err.(api.Errno); !ok || n == api.OK || !same(o, api.Op{}) {
		t.Fatalf("Parse(%q) = %v, %#v", s, o, err)
	}
}

// TestWild: Z1: nothing panics, at any ops, nor at texts of any words.
func TestWild(t *testing.T) {
	d := rand.New(rand.NewSource(18))
	odd := []int{0, 1, -1, 3, 17, 256, math.MinInt, math.MaxInt}
	n := func() int { return odd[d.Intn(len(odd))] }
	words := []string{"head", "pict", "add", "clip", "end", "", " ", "1", "-1", "999", "-999", "0", "\xff", "x"}
	for range 3000 {
		o := api.Op{Kind: d.Intn(19) - 1, ID: n(), A: n(), B: n(), C: n(), D: n(),
			Pic: api.Picture{W: n(), H: n(), P: make([]api.Pixel, d.Intn(3))}}
		s, err := script.Text(o)
		if err != op.Check(o) || (err != nil) != (s == "") {
			t.Fatalf("Text(%v) = %q, %v", o, s, err)
		}
		var l []string
		for range d.Intn(9) {
			l = append(l, words[d.Intn(len(words))])
		}
		s = strings.Join(l, " ")
		if got, err := script.Parse(s); err != nil {
			bare(t, s, got, err)
		}
	}
}

// TestLists: Z2: pixels that are handed in aren't changed, nor is what stands behind them read, and what is answered is new.
func TestLists(t *testing.T) {
	pixels := []api.Pixel{{V: 1, A: 2}, {V: 3, A: 4}, {V: 5, A: 6}}
	before := slices.Clone(pixels)
	o := api.Op{Kind: api.Pict, ID: 1, Pic: api.Picture{W: 2, H: 1, P: pixels[:2]}}
	if s, err := script.Text(o); err != nil || s != "pict 1 2 1 1 2 3 4" {
		t.Errorf("Text = %q, %v", s, err)
	}
	if s, err := script.Text(api.Op{Kind: api.Pict, ID: 1, Pic: api.Picture{W: 3, H: 1, P: pixels[:2]}}); err != api.ErrShape || s != "" {
		t.Errorf("Text of a pixel too few = %q, %v", s, err)
	}
	if !slices.Equal(pixels, before) {
		t.Errorf("the pixels were changed: %v", pixels)
	}
	const line = "pict 1 2 1 1 2 3 4"
	first, _ := script.Parse(line)
	first.Pic.P[0].V, first.ID = 99, 6
	if again, err := script.Parse(line); err != nil || !same(again, o) {
		t.Errorf("read again: %v, %v, want %v", again, err, o)
	}
}

// TestTell: Z3: numbers in decimal digits, a minus ahead of those below 0; L1: blanks between.
func TestTell(t *testing.T) {
	cases := []struct {
		l    []int
		want string
	}{
		{nil, ""},
		{[]int{0}, "0"},
		{[]int{-1}, "-1"},
		{[]int{10, 20, 7}, "10 20 7"},
		{[]int{math.MinInt, 0, math.MaxInt}, "-9223372036854775808 0 9223372036854775807"},
	}
	for _, c := range cases {
		if got := script.Tell(c.l...); got != c.want {
			t.Errorf("Tell(%v) = %q, want %q", c.l, got, c.want)
		}
	}
}

// TestNumber: K2, L1: what a number is, from one bound to another.
func TestNumber(t *testing.T) {
	cases := []struct {
		s         string
		low, high int
		n         int
		found     bool
	}{
		{"0", 0, 999, 0, true},
		{"999", 0, 999, 999, true},
		{"1000", 0, 999, 0, false},
		{"-1", 0, 999, 0, false},
		{"-1", -1, 0, -1, true},
		{"-2", -1, 0, 0, false},
		{"01", 0, 999, 0, false},
		{"-0", -9, 9, 0, false},
		{"+1", 0, 999, 0, false},
		{"", 0, 999, 0, false},
		{"5", 9, 0, 0, false},
	}
	for _, c := range cases {
		if n, found := script.Number(c.s, c.low, c.high); n != c.n || found != c.found {
			t.Errorf("Number(%q, %d, %d) = %d, %v", c.s, c.low, c.high, n, found)
		}
	}
}

// TestPictureNumbers: K1, L1: W, H, V and A of each pixel.
func TestPictureNumbers(t *testing.T) {
	if l := script.PictureNumbers(pair()); !slices.Equal(l, []int{2, 1, 7, 255, 9, 0}) {
		t.Errorf("PictureNumbers = %v", l)
	}
	if l := script.PictureNumbers(api.Picture{}); !slices.Equal(l, []int{0, 0}) {
		t.Errorf("PictureNumbers of none = %v", l)
	}
}
