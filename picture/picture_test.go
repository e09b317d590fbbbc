package picture_test

import (
	"math"
	"slices"
	"strings"
	"testing"

	"flickerbook/api"
	"flickerbook/pack"
	"flickerbook/picture"
)

// pic of numbers: V and A of each pixel, row by row.
func pic(w, h int, numbers ...int) api.Picture {
	p := api.Picture{W: w, H: h}
	for i := 0; i+1 < len(numbers); i += 2 {
		p.P = append(p.P, api.Pixel{V: numbers[i], A: numbers[i+1]})
	}
	return p
}

// blank picture of so many pixels, its sides as they are said.
func blank(w, h, n int) api.Picture {
	return api.Picture{W: w, H: h, P: make([]api.Pixel, n)}
}

// with a pixel at a place instead.
func with(p api.Picture, i int, x api.Pixel) api.Picture {
	p.P = slices.Clone(p.P)
	p.P[i] = x
	return p
}

func same(a, b api.Picture) bool {
	return a.W == b.W && a.H == b.H && slices.Equal(a.P, b.P)
}

// wrong pictures, and the error of each (C1).
func wrongPictures() []struct {
	name string
	in   api.Picture
	err  error
} {
	type c = struct {
		name string
		in   api.Picture
		err  error
	}
	return []c{
		{"zero", api.Picture{}, api.ErrBound},
		{"no columns", blank(0, 1, 0), api.ErrBound},
		{"no rows", blank(1, 0, 0), api.ErrBound},
		{"nine columns", blank(9, 1, 9), api.ErrBound},
		{"nine rows", blank(1, 9, 9), api.ErrBound},
		{"columns below 0", blank(-1, 1, 1), api.ErrBound},
		{"both below 0", blank(-2, -2, 4), api.ErrBound},
		{"sides that go round", blank(math.MaxInt/2+1, math.MaxInt/2+1, 0), api.ErrBound},
		{"the greatest columns", blank(math.MaxInt, 1, 1), api.ErrBound},
		{"the least rows", blank(1, math.MinInt, 1), api.ErrBound},
		{"sides ahead of how many pixels", blank(9, 1, 3), api.ErrBound},
		{"no pixels", blank(2, 2, 0), api.ErrShape},
		{"a pixel is missing", blank(2, 3, 5), api.ErrShape},
		{"a pixel too many", blank(2, 3, 7), api.ErrShape},
		{"a pixel too many, of the greatest", blank(8, 8, 65), api.ErrShape},
		{"how many pixels ahead of these", pic(2, 1, 256, 0), api.ErrShape},
		{"V is too great", pic(1, 1, 256, 0), api.ErrBound},
		{"A is too great", pic(1, 1, 0, 256), api.ErrBound},
		{"V is below 0", pic(1, 1, -1, 0), api.ErrBound},
		{"A is below 0", pic(1, 1, 0, -1), api.ErrBound},
		{"V is the greatest", pic(1, 1, math.MaxInt, 0), api.ErrBound},
		{"A is the least", pic(1, 1, 0, math.MinInt), api.ErrBound},
		{"the last pixel", with(blank(8, 8, 64), 63, api.Pixel{V: 0, A: 256}), api.ErrBound},
		{"the first pixel", with(blank(8, 8, 64), 0, api.Pixel{V: 512, A: 0}), api.ErrBound},
	}
}

// TestCheck: C1.
func TestCheck(t *testing.T) {
	for w := 1; w <= 8; w++ {
		for h := 1; h <= 8; h++ {
			p := blank(w, h, w*h)
			if err := picture.Check(p); err != nil {
				t.Errorf("Check of %d by %d: %v", w, h, err)
			}
			if err := picture.Check(with(p, w*h-1, api.Pixel{V: 255, A: 255})); err != nil {
				t.Errorf("Check of %d by %d with 255: %v", w, h, err)
			}
		}
	}
	for _, c := range wrongPictures() {
		if err := picture.Check(c.in); err != c.err {
			t.Errorf("%s: Check: %v, want %v", c.name, err, c.err)
		}
	}
}

// TestBytes: C2; what is wanted was told by hand.
func TestBytes(t *testing.T) {
	cases := []struct {
		name string
		in   api.Picture
		want string
	}{
		{"one pixel", pic(1, 1, 200, 255), "\x01\x01" + "\x01\x00\x01\xc8\x01\xff"},
		{"the way and a nought are packed together", pic(1, 1, 0, 7), "\x01\x01" + "\x02\x00\x01\x07"},
		{"way 0 of several", pic(2, 1, 5, 5, 5, 5), "\x02\x01" + "\x01\x00\x04\x05"},
		{"way 1", pic(2, 1, 10, 20, 10, 20), "\x02\x01" + "\x01\x01\x01\x0a\x01\x14\x02\x00"},
		{"way 1 goes round", pic(3, 1, 10, 20, 9, 19, 8, 18), "\x03\x01" + "\x01\x01\x01\x0a\x01\x14\x04\xff"},
		{"way 2", pic(1, 2, 10, 20, 10, 20), "\x01\x02" + "\x01\x00\x01\x0a\x01\x14\x01\x02\x02\x00"},
		{"way 2 goes round", pic(2, 2, 10, 20, 35, 41, 9, 19, 34, 40),
			"\x02\x02" + "\x01\x00\x01\x0a\x01\x14\x01\x23\x01\x29\x01\x02\x04\xff"},
		{"way 3, rounded down", pic(2, 2, 21, 21, 21, 21, 10, 10, 15, 15),
			"\x02\x02" + "\x01\x00\x04\x15\x01\x03\x04\x00"},
		{"way 3, of more than 255 together", pic(2, 2, 255, 255, 255, 255, 127, 127, 191, 191),
			"\x02\x02" + "\x01\x00\x04\xff\x01\x03\x04\x00"},
		{"a row is guessed by its own bytes, not by what is told of it", pic(4, 1, 1, 1, 2, 2, 3, 3, 4, 4),
			"\x04\x01" + "\x09\x01"},
		{"the row above is the nearest", pic(1, 3, 1, 9, 5, 7, 5, 7),
			"\x01\x03" + "\x01\x00\x01\x01\x01\x09\x01\x00\x01\x05\x01\x07\x01\x02\x02\x00"},
		// Way 1 would be packed along with its own byte; packed alone it is no shorter than way 0.
		{"what is told is packed alone", pic(1, 1, 1, 5), "\x01\x01" + "\x01\x00\x01\x01\x01\x05"},
		{"rows are packed as one", pic(1, 2, 0, 0, 0, 0), "\x01\x02" + "\x06\x00"},
		{"the greatest", blank(8, 8, 64), "\x08\x08" + "\x88\x00"},
	}
	for _, c := range cases {
		if got, err := picture.Bytes(c.in); got != c.want || err != nil {
			t.Errorf("%s: Bytes = %x, %v, want %x", c.name, got, err, c.want)
		}
	}
	for _, c := range wrongPictures() {
		if got, err := picture.Bytes(c.in); got != "" || err != c.err {
			t.Errorf("%s: Bytes = %x, %v, want %v", c.name, got, err, c.err)
		}
	}
}

// TestParse: C3, also of ways that Bytes wouldn't take.
func TestParse(t *testing.T) {
	row := func(w, h int, ways ...string) string {
		return string([]byte{byte(w), byte(h)}) + pack.Pack(strings.Join(ways, ""))
	}
	cases := []struct {
		name, in string
		want     api.Picture
	}{
		{"one pixel", "\x01\x01\x01\x00\x01\xc8\x01\xff", pic(1, 1, 200, 255)},
		{"pairs that Pack wouldn't tell", "\x01\x01\x01\x00\x01\x00\x01\x00", pic(1, 1, 0, 0)},
		{"way 1 has none ahead", row(1, 1, "\x01\x07\x08"), pic(1, 1, 7, 8)},
		{"way 2 has none above", row(1, 1, "\x02\x07\x08"), pic(1, 1, 7, 8)},
		{"way 3 has neither", row(1, 1, "\x03\x07\x08"), pic(1, 1, 7, 8)},
		{"way 0", row(2, 1, "\x00\x01\x02\x03\x04"), pic(2, 1, 1, 2, 3, 4)},
		{"way 1", row(3, 1, "\x01\x01\x02\x03\x04\xff\xfe"), pic(3, 1, 1, 2, 4, 6, 3, 4)},
		{"way 1 goes round", row(2, 1, "\x01\xc8\x00\xc8\xff"), pic(2, 1, 200, 0, 144, 255)},
		{"way 2", row(2, 2, "\x00\x01\x02\x03\xfe", "\x02\x01\x01\x01\x05"), pic(2, 2, 1, 2, 3, 254, 2, 3, 4, 3)},
		{"way 3 has one above only", row(1, 2, "\x00\x09\xff", "\x03\x01\x01"), pic(1, 2, 9, 255, 5, 128)},
		{"way 3 has one ahead only", row(2, 1, "\x03\x09\xff\x01\x01"), pic(2, 1, 9, 255, 5, 128)},
		{"way 3 of both", row(2, 2, "\x00\x00\x00\xfe\x09", "\x03\xff\x06\x00\x00"), pic(2, 2, 0, 0, 254, 9, 255, 6, 254, 7)},
		{"way 0 behind others", row(1, 3, "\x01\x05\x06", "\x02\x01\x01", "\x00\x02\x03"), pic(1, 3, 5, 6, 6, 7, 2, 3)},
		{"the greatest", "\x08\x08\x88\x00", blank(8, 8, 64)},
	}
	for _, c := range cases {
		if got, err := picture.Parse(c.in); !same(got, c.want) || err != nil {
			t.Errorf("%s: Parse(%x) = %v, %v, want %v", c.name, c.in, got, err, c.want)
		}
	}
}

// TestParseErrors: C3, in the order in which they are named.
func TestParseErrors(t *testing.T) {
	cases := []struct {
		name, in string
		err      error
	}{
		{"nothing", "", api.ErrText},
		{"one byte", "\x01", api.ErrText},
		{"one byte that is no side", "\x09", api.ErrText},
		{"no columns", "\x00\x01\x03\x00", api.ErrBound},
		{"no rows", "\x01\x00\x03\x00", api.ErrBound},
		{"no sides, no pixels", "\x00\x00", api.ErrBound},
		{"nine columns", "\x09\x01\x13\x00", api.ErrBound},
		{"nine rows", "\x01\x09\x1b\x00", api.ErrBound},
		{"255 of each", "\xff\xff\x03\x00", api.ErrBound},
		{"sides ahead of pairs", "\x00\x01\x03", api.ErrBound},
		{"no rows are told", "\x01\x01", api.ErrText},
		{"half a pair", "\x01\x01\x03\x00\x01", api.ErrText},
		{"a pair of no bytes", "\x01\x01\x03\x00\x00\x00", api.ErrText},
		{"a pair of no bytes ahead of many", "\x01\x01\x00\x00\x04\x00", api.ErrText},
		{"a byte too many", "\x01\x01\x04\x00", api.ErrMany},
		{"a pair too many", "\x01\x01\x03\x00\x01\x00", api.ErrMany},
		{"a byte too many of the greatest", "\x08\x08\x89\x00", api.ErrMany},
		{"too many ahead of no way", "\x01\x01\x04\x04", api.ErrMany},
		{"half a pair ahead of too many", "\x01\x01\x04\x00\x01", api.ErrText},
		{"a byte is missing", "\x01\x01\x02\x00", api.ErrText},
		{"a byte is missing of the greatest", "\x08\x08\x87\x00", api.ErrText},
		{"a row is missing", "\x01\x02\x03\x00", api.ErrText},
		{"way 4", "\x01\x01\x01\x04\x02\x00", api.ErrText},
		{"way 255", "\x01\x01\x03\xff", api.ErrText},
		{"way 4 of the last row", "\x01\x02\x03\x00\x01\x04\x02\x00", api.ErrText},
	}
	for _, c := range cases {
		if got, err := picture.Parse(c.in); !same(got, api.Picture{}) || err != c.err {
			t.Errorf("%s: Parse(%x) = %v, %v, want %v", c.name, c.in, got, err, c.err)
		}
	}
}

// drawn pictures, that may be: the same ones each time, with few and with many shades.
func drawn(seed uint32) api.Picture {
	next := func(n int) int {
		seed = seed*1664525 + 1013904223
		return int(seed>>16) % n
	}
	p := api.Picture{W: 1 + next(8), H: 1 + next(8)}
	shades := []int{2, 4, 256}[next(3)]
	for range p.W * p.H {
		p.P = append(p.P, api.Pixel{V: next(shades), A: 255 - next(shades)})
	}
	return p
}

// byteAt a place of a picture's row; 0: there is none.
func byteAt(p api.Picture, y, i int) int {
	switch {
	case y < 0 || i < 0:
		return 0
	case i%2 == 0:
		return p.P[y*p.W+i/2].V
	default:
		return p.P[y*p.W+i/2].A
	}
}

// toldBy the document's words, pixel by pixel.
func toldBy(p api.Picture, y, way int) string {
	var out []byte
	for i := range 2 * p.W {
		left, up := byteAt(p, y, i-2), byteAt(p, y-1, i)
		guess := []int{0, left, up, (left + up) / 2}[way]
		out = append(out, byte((byteAt(p, y, i)-guess+256)%256))
	}
	return string(out)
}

// Each row is told in the lowest of the ways that are packed shortest (C2), and read as it was (W1).
func TestWaysOfDrawnPictures(t *testing.T) {
	var taken [4]int
	for seed := range uint32(500) {
		p := drawn(seed)
		want := ""
		for y := range p.H {
			best := 0
			for way := range 4 {
				if len(pack.Pack(toldBy(p, y, way))) < len(pack.Pack(toldBy(p, y, best))) {
					best = way
				}
			}
			taken[best]++
			want += string([]byte{byte(best)}) + toldBy(p, y, best)
		}
		s, err := picture.Bytes(p)
		if err != nil || s != string([]byte{byte(p.W), byte(p.H)})+pack.Pack(want) {
			t.Fatalf("Bytes(%v) = %x, %v, want the rows %x", p, s, err, want)
		}
		if got, err := picture.Parse(s); err != nil || !same(got, p) {
			t.Fatalf("Parse(Bytes(%v)) = %v, %v", p, got, err)
		}
	}
	if slices.Contains(taken[:], 0) {
		t.Errorf("a way was never taken: %v", taken)
	}
}

// A picture is read from each of its ways (C3).
func TestParseOfAnyWay(t *testing.T) {
	for seed := range uint32(200) {
		p := drawn(seed)
		for way := range 4 {
			rows := ""
			for y := range p.H {
				k := (way + y) % 4
				rows += string([]byte{byte(k)}) + toldBy(p, y, k)
			}
			s := string([]byte{byte(p.W), byte(p.H)}) + pack.Pack(rows)
			if got, err := picture.Parse(s); err != nil || !same(got, p) {
				t.Fatalf("Parse(%x) = %v, %v, want %v", s, got, err, p)
			}
		}
	}
}

// No call writes into a picture's list, or reads what stands behind it (Z2).
func TestPicturesAreLeftAlone(t *testing.T) {
	for seed := range uint32(50) {
		p := drawn(seed)
		n := len(p.P)
		all := append(slices.Clone(p.P), api.Pixel{V: 999, A: -999}, api.Pixel{V: 1, A: 1})
		before := slices.Clone(all)
		q := api.Picture{W: p.W, H: p.H, P: all[:n]}
		if err := picture.Check(q); err != nil {
			t.Errorf("Check: %v", err)
		}
		a, _ := picture.Bytes(p)
		if b, err := picture.Bytes(q); b != a || err != nil {
			t.Errorf("Bytes = %x, %v, want %x", b, err, a)
		}
		if !slices.Equal(all, before) {
			t.Errorf("the list is now %v, was %v", all, before)
		}
		if n < 2 {
			continue
		}
		if err := picture.Check(api.Picture{W: p.W, H: p.H, P: all[:n-1]}); err != api.ErrShape {
			t.Errorf("Check of a list that is cut short: %v", err)
		}
	}
}

// What is answered is the caller's, and hangs on the argument alone (Z2).
func TestParseIsFresh(t *testing.T) {
	s := "\x02\x01\x01\x01\x01\x0a\x01\x14\x02\x00"
	a, _ := picture.Parse(s)
	a.P[0] = api.Pixel{V: 1, A: 1}
	if b, err := picture.Parse(s); err != nil || !same(b, pic(2, 1, 10, 20, 10, 20)) {
		t.Errorf("Parse again = %v, %v", b, err)
	}
}

// A picture of one's own is the same, and changes with no other one (Z2), also one that may not be (Z1).
func TestOwn(t *testing.T) {
	p := pic(2, 1, 10, 20, 30, 40)
	q := picture.Own(p)
	if !same(q, p) {
		t.Errorf("Own = %v, want %v", q, p)
	}
	q.P[0].V = 1
	if !same(p, pic(2, 1, 10, 20, 30, 40)) {
		t.Errorf("pixels are shared: %v", p)
	}
	for _, c := range wrongPictures() {
		if q := picture.Own(c.in); !same(q, c.in) {
			t.Errorf("%s: Own = %v", c.name, q)
		}
	}
}

// No bytes make Parse panic, and what it answers may be (Z1, C1).
func TestParseOfAnyBytes(t *testing.T) {
	seed := uint32(7)
	for range 20000 {
		var s []byte
		for range 2 + seed>>16%12 {
			seed = seed*1664525 + 1013904223
			s = append(s, byte(seed>>24%[]uint32{3, 9, 256}[seed>>8%3]))
		}
		p, err := picture.Parse(string(s))
		if err == nil {
			err = picture.Check(p)
		} else if !same(p, api.Picture{}) {
			t.Errorf("Parse(%x) = %v beside %v", s, p, err)
		} else if _, ok := err.(api.Errno); ok {
			err = nil
		}
		if err != nil {
			t.Errorf("Parse(%x): %v", s, err)
		}
	}
}
