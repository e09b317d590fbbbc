package reel_test

import (
	"math"
	"math/rand"
	"reflect"
	"slices"
	"testing"

	"flickerbook/api"
	"flickerbook/machine"
	"flickerbook/reel"
)

// dot: a picture of one pixel.
func dot(v int) api.Picture { return api.Picture{W: 1, H: 1, P: []api.Pixel{{V: v, A: 255}}} }

// frames of one pixel: a shade and a delay of each.
func frames(numbers ...int) []api.Frame {
	var l []api.Frame
	for i := 0; i+1 < len(numbers); i += 2 {
		l = append(l, api.Frame{Pic: dot(numbers[i]), Delay: numbers[i+1]})
	}
	return l
}

// same lists? An empty one is as good as none.
func same(a, b []api.Frame) bool {
	return len(a) == 0 && len(b) == 0 || reflect.DeepEqual(a, b)
}

// TestSame: J1.
func TestSame(t *testing.T) {
	four := func(w, h, v, a int) api.Picture {
		return api.Picture{W: w, H: h, P: []api.Pixel{{V: 1, A: 2}, {V: 3, A: 4}, {V: 5, A: 6}, {V: v, A: a}}}
	}
	one := dot(1)
	cases := []struct {
		name string
		a, b api.Picture
		want bool
	}{
		{"itself", one, one, true},
		{"another one of the same pixels", four(2, 2, 7, 8), four(2, 2, 7, 8), true},
		{"the last shade", four(2, 2, 7, 8), four(2, 2, 8, 8), false},
		{"the last cover", four(2, 2, 7, 8), four(2, 2, 7, 9), false},
		{"the first shade", dot(1), dot(2), false},
		{"columns and rows", four(2, 2, 7, 8), four(4, 1, 7, 8), false},
		{"the other way round", four(4, 1, 7, 8), four(1, 4, 7, 8), false},
		{"columns alone", four(4, 1, 7, 8), four(2, 1, 7, 8), false},
		{"rows alone", four(4, 1, 7, 8), four(4, 2, 7, 8), false},
		{"shades that cover nothing", api.Picture{W: 1, H: 1, P: []api.Pixel{{V: 1}}},
			api.Picture{W: 1, H: 1, P: []api.Pixel{{V: 2}}}, false},
		{"none", api.Picture{}, api.Picture{}, true},
		{"none, and no pixels", api.Picture{}, api.Picture{P: []api.Pixel{}}, true},
		{"none, and one", api.Picture{}, one, false},
		{"a pixel too few", four(2, 2, 7, 8), api.Picture{W: 2, H: 2, P: four(2, 2, 7, 8).P[:3]}, false},
		{"no pixels", dot(0), api.Picture{W: 1, H: 1}, false},
	}
	for _, c := range cases {
		if got := reel.Same(c.a, c.b); got != c.want {
			t.Errorf("%s: Same = %v", c.name, got)
		}
		if got := reel.Same(c.b, c.a); got != c.want {
			t.Errorf("%s: Same the other way round = %v", c.name, got)
		}
	}
}

// TestLength: J1.
func TestLength(t *testing.T) {
	cases := []struct {
		l    []api.Frame
		want int
	}{
		{nil, 0},
		{[]api.Frame{}, 0},
		{frames(1, 0), 0},
		{frames(1, 7), 7},
		{frames(1, 7, 1, 7, 2, 0, 3, 99), 113},
		{frames(1, 100000, 2, 100000), 200000},
		{slices.Repeat(frames(1, 100000), 30000), 3000000000},
	}
	for _, c := range cases {
		if got := reel.Length(c.l); got != c.want {
			t.Errorf("Length of %d = %d, want %d", len(c.l), got, c.want)
		}
	}
}

// TestAt: J1, at each moment, and beside them all.
func TestAt(t *testing.T) {
	cases := []struct {
		name string
		l    []api.Frame
		want []int // from the moment 0 on
	}{
		{"none", nil, nil},
		{"one", frames(1, 3), []int{0, 0, 0}},
		{"one of no delay", frames(1, 0), nil},
		{"some", frames(1, 1, 2, 3, 3, 2), []int{0, 1, 1, 1, 2, 2}},
		{"of no delay ahead", frames(1, 0, 2, 0, 3, 2), []int{2, 2}},
		{"of no delay between", frames(1, 2, 2, 0, 3, 0, 4, 1), []int{0, 0, 3}},
		{"of no delay behind", frames(1, 2, 2, 0), []int{0, 0}},
		{"the same", frames(1, 1, 1, 1), []int{0, 1}},
	}
	for _, c := range cases {
		for moment, want := range c.want {
			if got := reel.At(c.l, moment); got != want {
				t.Errorf("%s: At %d = %d, want %d", c.name, moment, got, want)
			}
		}
		n := len(c.want)
		for _, moment := range []int{-1, -2, n, n + 1, math.MinInt, math.MaxInt} {
			if got := reel.At(c.l, moment); got != -1 {
				t.Errorf("%s: At %d = %d, want -1", c.name, moment, got)
			}
		}
	}
	far := slices.Repeat(frames(1, 100000), 30000)
	for moment, want := range map[int]int{2999999999: 29999, 3000000000: -1, 100000: 1, 99999: 0} {
		if got := reel.At(far, moment); got != want {
			t.Errorf("At %d = %d, want %d", moment, got, want)
		}
	}
}

// TestTrim: J2.
func TestTrim(t *testing.T) {
	cases := []struct {
		name    string
		l, want []api.Frame
	}{
		{"none", nil, nil},
		{"an empty list", []api.Frame{}, nil},
		{"one", frames(1, 3), frames(1, 3)},
		{"one of no delay", frames(1, 0), nil},
		{"all of no delay", frames(1, 0, 2, 0, 2, 0), nil},
		{"others", frames(1, 3, 2, 3, 1, 3), frames(1, 3, 2, 3, 1, 3)},
		{"the same", frames(1, 3, 1, 4), frames(1, 7)},
		{"many of the same", frames(1, 3, 1, 4, 1, 1, 1, 9), frames(1, 17)},
		{"the same, then others", frames(1, 3, 1, 4, 2, 1, 2, 1, 1, 5), frames(1, 7, 2, 2, 1, 5)},
		{"of no delay ahead", frames(1, 0, 2, 4), frames(2, 4)},
		{"the same of no delay ahead", frames(2, 0, 2, 4), frames(2, 4)},
		{"of no delay behind", frames(2, 4, 1, 0), frames(2, 4)},
		{"the same of no delay behind", frames(2, 4, 2, 0), frames(2, 4)},
		{"the same around another one of no delay", frames(1, 3, 2, 0, 1, 4), frames(1, 7)},
		{"others around one of no delay", frames(1, 3, 2, 0, 3, 4), frames(1, 3, 3, 4)},
		{"great delays", frames(1, 100000, 1, 100000), frames(1, 200000)},
		{"the sides alone are others", []api.Frame{
			{Pic: api.Picture{W: 2, H: 1, P: make([]api.Pixel, 2)}, Delay: 1},
			{Pic: api.Picture{W: 1, H: 2, P: make([]api.Pixel, 2)}, Delay: 1},
		}, []api.Frame{
			{Pic: api.Picture{W: 2, H: 1, P: make([]api.Pixel, 2)}, Delay: 1},
			{Pic: api.Picture{W: 1, H: 2, P: make([]api.Pixel, 2)}, Delay: 1},
		}},
	}
	for _, c := range cases {
		if got := reel.Trim(c.l); !same(got, c.want) {
			t.Errorf("%s: Trim = %v, want %v", c.name, got, c.want)
		}
	}
}

// some frames, of few shades and delays.
func some(d *rand.Rand) []api.Frame {
	var l []api.Frame
	for range d.Intn(9) {
		l = append(l, api.Frame{Pic: dot(d.Intn(2)), Delay: max(0, d.Intn(6)-2)})
	}
	return l
}

// trimmed: W6: the same is shown at each moment, and nothing is left to trim (J2).
func trimmed(t *testing.T, l []api.Frame) {
	t.Helper()
	got := reel.Trim(l)
	if reel.Length(got) != reel.Length(l) || len(got) > len(l) {
		t.Fatalf("%v: trimmed it is %v", l, got)
	}
	for moment := -2; moment < reel.Length(l)+3; moment++ {
		a, b := reel.At(l, moment), reel.At(got, moment)
		if (a < 0) != (b < 0) || a >= 0 && !reel.Same(l[a].Pic, got[b].Pic) {
			t.Fatalf("%v: at %d frame %d, trimmed frame %d of %v", l, moment, a, b, got)
		}
	}
	for i, f := range got {
		if f.Delay == 0 || i > 0 && reel.Same(got[i-1].Pic, f.Pic) {
			t.Fatalf("%v: trimmed it is %v", l, got)
		}
	}
	if again := reel.Trim(got); !same(again, got) {
		t.Fatalf("%v: trimmed again it is %v", got, again)
	}
}

// TestMoments: J1 and W6 of frames at large, moment by moment.
func TestMoments(t *testing.T) {
	d := rand.New(rand.NewSource(15))
	for range 2000 {
		l := some(d)
		var shown []int // at each moment the frame
		for i, f := range l {
			shown = append(shown, slices.Repeat([]int{i}, f.Delay)...)
		}
		if reel.Length(l) != len(shown) {
			t.Fatalf("Length(%v) = %d", l, reel.Length(l))
		}
		for moment, want := range shown {
			if got := reel.At(l, moment); got != want {
				t.Fatalf("At(%v, %d) = %d, want %d", l, moment, got, want)
			}
		}
		if got := reel.At(l, len(shown)); got != -1 {
			t.Fatalf("At(%v, %d) = %d", l, len(shown), got)
		}
		trimmed(t, l)
	}
}

// TestPlayed: W6 of what a machine plays.
func TestPlayed(t *testing.T) {
	l, err := machine.Play([]api.Op{
		{Kind: api.Head, A: 2, B: 2},
		{Kind: api.Wait, A: 2},
		{Kind: api.Pict, ID: 1, Pic: dot(5)},
		{Kind: api.Loop, A: 4},
		{Kind: api.Wait, A: 3},
		{Kind: api.Show, ID: 1, A: 0},
		{Kind: api.Wait},
		{Kind: api.Show, ID: 1, A: 1},
		{Kind: api.Next},
		{Kind: api.Add, ID: 1, Pic: dot(9)},
		{Kind: api.Wait, A: 1},
		{Kind: api.Drop, ID: 1},
		{Kind: api.Wait, A: 1},
		{Kind: api.End},
	}, api.MaxFuel)
	if err != nil || len(l) != 11 {
		t.Fatalf("Play = %v, %v", l, err)
	}
	trimmed(t, l)
	var delays []int
	for _, f := range reel.Trim(l) {
		delays = append(delays, f.Delay)
	}
	if want := []int{2, 12, 1, 1}; !slices.Equal(delays, want) {
		t.Errorf("trimmed for %v, want %v", delays, want)
	}
}

// TestLists: Z2: what is handed in isn't written into, nor read behind its end, and an answer shares nothing with it.
func TestLists(t *testing.T) {
	fresh := func() []api.Frame { return frames(1, 2, 1, 3, 2, 0, 2, 4, 1, 1, 1, 9, 3, 9) }
	room := fresh()
	l := room[:5]
	if n := reel.Length(l); n != 10 {
		t.Errorf("Length = %d", n)
	}
	if i := reel.At(l, 10); i != -1 {
		t.Errorf("At = %d", i)
	}
	want := frames(1, 5, 2, 4, 1, 1)
	got := reel.Trim(l)
	if !same(got, want) {
		t.Errorf("Trim = %v, want %v", got, want)
	}
	for i := range got {
		for j := range got[i].Pic.P {
			got[i].Pic.P[j] = api.Pixel{V: 77, A: i}
		}
		got[i].Delay = 77
	}
	_ = append(got, api.Frame{Delay: 78})
	if !same(room, fresh()) {
		t.Errorf("the list is changed: %v", room)
	}
	// Frames of one picture: those of the answer share no pixels.
	p := dot(1)
	shared := reel.Trim([]api.Frame{{Pic: p, Delay: 1}, {Pic: dot(2), Delay: 1}, {Pic: p, Delay: 1}})
	shared[0].Pic.P[0].V = 9
	if shared[2].Pic.P[0].V != 1 || p.P[0].V != 1 {
		t.Errorf("pixels are shared: %v, %v", shared, p)
	}
	// No pixels of a picture are read behind its end.
	pixels := []api.Pixel{{V: 1}, {V: 2}, {V: 1}, {V: 3}}
	if !reel.Same(api.Picture{W: 1, H: 1, P: pixels[:1]}, api.Picture{W: 1, H: 1, P: pixels[2:3]}) {
		t.Errorf("what stands behind pixels is read")
	}
}

// TestNoPanic: Z1: every call ends, also of frames of which the chapter says nothing.
func TestNoPanic(t *testing.T) {
	numbers := []int{math.MinInt, -1, 0, 1, math.MaxInt}
	pictures := []api.Picture{{}, dot(1), {W: math.MaxInt, H: math.MaxInt}, {W: -1, H: 1, P: make([]api.Pixel, 3)}}
	d := rand.New(rand.NewSource(16))
	for range 2000 {
		var l []api.Frame
		for range d.Intn(5) {
			l = append(l, api.Frame{Pic: pictures[d.Intn(len(pictures))], Delay: numbers[d.Intn(len(numbers))]})
		}
		reel.Length(l)
		reel.Trim(l)
		for _, n := range numbers {
			if i := reel.At(l, n); i < -1 || i >= len(l) {
				t.Fatalf("At(%v, %d) = %d", l, n, i)
			}
		}
	}
}
