package blend_test

import (
	"math"
	"math/rand"
	"slices"
	"testing"

	"flickerbook/api"
	"flickerbook/blend"
)

// pic of numbers: V and A of each pixel, row by row.
func pic(w, h int, numbers ...int) api.Picture {
	p := api.Picture{W: w, H: h}
	for i := 0; i+1 < len(numbers); i += 2 {
		p.P = append(p.P, api.Pixel{V: numbers[i], A: numbers[i+1]})
	}
	return p
}

// rising picture: V is from so much on one more at each pixel; all of it covers.
func rising(w, h, from int) api.Picture {
	p := api.Picture{W: w, H: h}
	for i := range w * h {
		p.P = append(p.P, api.Pixel{V: from + i, A: 255})
	}
	return p
}

func somePixel(d *rand.Rand) api.Pixel {
	return api.Pixel{V: d.Intn(256), A: []int{0, 255, d.Intn(256)}[d.Intn(3)]}
}

func somePicture(d *rand.Rand) api.Picture {
	p := api.Picture{W: 1 + d.Intn(8), H: 1 + d.Intn(8)}
	for range p.W * p.H {
		p.P = append(p.P, somePixel(d))
	}
	return p
}

func same(a, b api.Picture) bool {
	return a.W == b.W && a.H == b.H && slices.Equal(a.P, b.P)
}

// all of a picture is in this clip.
var all = api.Rect{W: api.MaxPlace, H: api.MaxPlace}

// at a place an object of a picture.
func at(p api.Picture, x, y int, clip api.Rect) api.Object {
	return api.Object{ID: 1, X: x, Y: y, Pic: p, Clip: clip, Shown: true}
}

// TestOver: E1; what is wanted was reckoned by hand.
func TestOver(t *testing.T) {
	cases := []struct {
		name       string
		a, b, want api.Pixel
	}{
		{"what covers all is seen alone", api.Pixel{V: 7, A: 255}, api.Pixel{V: 200, A: 255}, api.Pixel{V: 7, A: 255}},
		{"what covers nothing isn't seen", api.Pixel{V: 7, A: 0}, api.Pixel{V: 200, A: 255}, api.Pixel{V: 200, A: 255}},
		{"nothing before some", api.Pixel{V: 7, A: 0}, api.Pixel{V: 200, A: 3}, api.Pixel{V: 200, A: 3}},
		{"both cover nothing", api.Pixel{V: 7, A: 0}, api.Pixel{V: 200, A: 0}, api.Pixel{}},
		{"some before nothing", api.Pixel{V: 7, A: 9}, api.Pixel{V: 200, A: 0}, api.Pixel{V: 7, A: 9}},
		{"about half before all", api.Pixel{V: 100, A: 128}, api.Pixel{V: 10, A: 255}, api.Pixel{V: 55, A: 255}},
		{"little before little", api.Pixel{V: 255, A: 1}, api.Pixel{V: 255, A: 1}, api.Pixel{V: 255, A: 1}}, // 254/255
		{"what comes through is rounded down", api.Pixel{V: 0, A: 100}, api.Pixel{V: 255, A: 100}, api.Pixel{V: 95, A: 160}},
		{"V is rounded down", api.Pixel{V: 0, A: 1}, api.Pixel{V: 1, A: 255}, api.Pixel{V: 0, A: 255}},
		{"white behind", api.Pixel{V: 0, A: 1}, api.Pixel{V: 255, A: 255}, api.Pixel{V: 254, A: 255}},
		{"nearly all", api.Pixel{V: 255, A: 254}, api.Pixel{V: 0, A: 254}, api.Pixel{V: 255, A: 254}},
	}
	for _, c := range cases {
		if got := blend.Over(c.a, c.b); got != c.want {
			t.Errorf("%s: Over(%v, %v) = %v, want %v", c.name, c.a, c.b, got, c.want)
		}
	}
}

// TestOverAll: E1 and W2; all covers before all covers.
func TestOverAll(t *testing.T) {
	for a := range 256 {
		for b := range 256 {
			x, y := api.Pixel{V: (3*a + b) % 256, A: a}, api.Pixel{V: (a + 7*b) % 256, A: b}
			got := blend.Over(x, y)
			if got.A < 0 || got.A > 255 || got.V < 0 || got.V > 255 {
				t.Fatalf("Over(%v, %v) = %v: it may not be", x, y, got)
			}
			if got.A == 0 && got.V != 0 {
				t.Fatalf("Over(%v, %v) = %v: it covers nothing, but has a shade", x, y, got)
			}
			if a == 255 && got != x || a == 0 && b > 0 && got != y {
				t.Fatalf("Over(%v, %v) = %v", x, y, got)
			}
			// Rounded down: 255 times what comes through is at most the product, and one more would be above it.
			through := got.A - a
			if product := (255 - a) * b; 255*through > product || 255*(through+1) <= product {
				t.Fatalf("Over(%v, %v) = %v: %d come through", x, y, got, through)
			}
			if sum := x.V*a + y.V*through; got.A > 0 && (got.V*got.A > sum || (got.V+1)*got.A <= sum) {
				t.Fatalf("Over(%v, %v) = %v: the shade isn't so", x, y, got)
			}
		}
	}
}

// TestPlain: E2.
func TestPlain(t *testing.T) {
	x := api.Pixel{V: 3, A: 200}
	for w := 1; w <= 8; w++ {
		for h := 1; h <= 8; h++ {
			p := blend.Plain(w, h, x)
			if p.W != w || p.H != h || len(p.P) != w*h {
				t.Fatalf("Plain(%d, %d) is of %d, %d, and %d pixels", w, h, p.W, p.H, len(p.P))
			}
			for _, y := range p.P {
				if y != x {
					t.Fatalf("Plain(%d, %d): %v", w, h, p.P)
				}
			}
		}
	}
}

// TestLay: E2.
func TestLay(t *testing.T) {
	p, q := rising(3, 2, 10), rising(2, 2, 90)
	cases := []struct {
		name string
		o    api.Object
		want []int // V of each pixel
	}{
		{"at the beginning", at(q, 0, 0, all), []int{90, 91, 12, 92, 93, 15}},
		{"farther right", at(q, 1, 0, all), []int{10, 90, 91, 13, 92, 93}},
		{"over the right end", at(q, 2, 0, all), []int{10, 11, 90, 13, 14, 92}},
		{"beyond the right end", at(q, 3, 0, all), []int{10, 11, 12, 13, 14, 15}},
		{"over the lower end", at(q, 0, 1, all), []int{10, 11, 12, 90, 91, 15}},
		{"beyond the lower end", at(q, 0, 2, all), []int{10, 11, 12, 13, 14, 15}},
		{"over the left end", at(q, -1, 0, all), []int{91, 11, 12, 93, 14, 15}},
		{"beyond the left end", at(q, -2, 0, all), []int{10, 11, 12, 13, 14, 15}},
		{"over the upper end", at(q, 0, -1, all), []int{92, 93, 12, 13, 14, 15}},
		{"over a corner", at(q, -1, -1, all), []int{93, 11, 12, 13, 14, 15}},
		{"far away", at(q, 20, -20, all), []int{10, 11, 12, 13, 14, 15}},
		{"a clip is of places, not of the object's own", at(q, 1, 0, api.Rect{X: 1, W: 1, H: 1}), []int{10, 90, 12, 13, 14, 15}},
		{"a clip of one column", at(q, 0, 0, api.Rect{X: 1, Y: -5, W: 1, H: 20}), []int{10, 91, 12, 13, 93, 15}},
		{"a clip that ends at its beginning", at(q, 0, 0, api.Rect{X: -20, Y: 1, W: 20, H: 1}), []int{10, 11, 12, 13, 14, 15}},
		{"a clip of the lower row", at(q, 0, 0, api.Rect{X: -1, Y: 1, W: 20, H: 1}), []int{10, 11, 12, 92, 93, 15}},
		{"an empty clip", at(q, 0, 0, api.Rect{}), []int{10, 11, 12, 13, 14, 15}},
		{"a clip beside it", at(q, 0, 0, api.Rect{X: 2, W: 5, H: 5}), []int{10, 11, 12, 13, 14, 15}},
		{"not shown", api.Object{ID: 1, Pic: q, Clip: all}, []int{10, 11, 12, 13, 14, 15}},
		{"it covers nothing", at(pic(2, 1, 90, 0, 91, 0), 0, 0, all), []int{10, 11, 12, 13, 14, 15}},
		{"it covers about half", at(pic(2, 1, 100, 128, 0, 255), 0, 0, all), []int{55, 0, 12, 13, 14, 15}},
	}
	for _, c := range cases {
		got := blend.Lay(p, c.o)
		for i := range got.P {
			if got.P[i] != (api.Pixel{V: c.want[i], A: 255}) {
				t.Errorf("%s: Lay = %v, want V %v", c.name, got, c.want)
				break
			}
		}
		if got.W != 3 || got.H != 2 || len(got.P) != 6 {
			t.Errorf("%s: Lay = %v: it isn't 3 by 2", c.name, got)
		}
	}
	// In front is the object, not the picture.
	if got := blend.Lay(pic(1, 1, 10, 255), at(pic(1, 1, 100, 1), 0, 0, all)); !same(got, pic(1, 1, 10, 255)) {
		t.Errorf("Lay of little before all = %v", got)
	}
	// A shade that nothing covers is lost.
	if got := blend.Lay(pic(1, 1, 10, 0), at(pic(1, 1, 100, 0), 0, 0, all)); !same(got, pic(1, 1, 0, 0)) {
		t.Errorf("Lay of nothing before nothing = %v", got)
	}
}

// TestAddAndPut: E3.
func TestAddAndPut(t *testing.T) {
	p := pic(2, 2, 10, 20, 30, 40, 250, 255, 0, 0)
	q := pic(2, 1, 5, 250, 6, 1)
	cases := []struct {
		x, y     int
		add, put api.Picture
	}{
		{0, 0, pic(2, 2, 15, 14, 36, 41, 250, 255, 0, 0), pic(2, 2, 5, 250, 6, 1, 250, 255, 0, 0)},
		{0, 1, pic(2, 2, 10, 20, 30, 40, 255, 249, 6, 1), pic(2, 2, 10, 20, 30, 40, 5, 250, 6, 1)},
		{1, 0, pic(2, 2, 10, 20, 35, 34, 250, 255, 0, 0), pic(2, 2, 10, 20, 5, 250, 250, 255, 0, 0)},
		{-1, 1, pic(2, 2, 10, 20, 30, 40, 0, 0, 0, 0), pic(2, 2, 10, 20, 30, 40, 6, 1, 0, 0)},
		{2, 0, p, p}, {-2, 0, p, p}, {0, 2, p, p}, {0, -1, p, p}, {20, 20, p, p}, {-20, -20, p, p},
	}
	for _, c := range cases {
		if got := blend.Add(p, q, c.x, c.y); !same(got, c.add) {
			t.Errorf("Add at %d, %d = %v, want %v", c.x, c.y, got, c.add)
		}
		if got := blend.Put(p, q, c.x, c.y); !same(got, c.put) {
			t.Errorf("Put at %d, %d = %v, want %v", c.x, c.y, got, c.put)
		}
	}
	if got := blend.Add(pic(1, 1, 255, 255), pic(1, 1, 255, 255), 0, 0); !same(got, pic(1, 1, 254, 254)) {
		t.Errorf("Add of 255 to 255 = %v", got)
	}
	if got := blend.Add(pic(1, 1, 128, 127), pic(1, 1, 128, 128), 0, 0); !same(got, pic(1, 1, 0, 255)) {
		t.Errorf("Add of 128 to 128 and 127 = %v", got)
	}
	// A pixel that covers nothing is put with its shade.
	if got := blend.Put(pic(1, 1, 9, 255), pic(1, 1, 7, 0), 0, 0); !same(got, pic(1, 1, 7, 0)) {
		t.Errorf("Put of what covers nothing = %v", got)
	}
}

// TestPlaceByPlace: E2, E3 and W2, held against a plain account of each place.
func TestPlaceByPlace(t *testing.T) {
	d := rand.New(rand.NewSource(5))
	for range 500 {
		p, q := somePicture(d), somePicture(d)
		x, y := d.Intn(17)-8, d.Intn(17)-8
		o := at(q, x, y, api.Rect{X: d.Intn(17) - 8, Y: d.Intn(17) - 8, W: d.Intn(21), H: d.Intn(21)})
		o.Shown = d.Intn(5) > 0
		lay, add, put := blend.Lay(p, o), blend.Add(p, q, x, y), blend.Put(p, q, x, y)
		for j := range p.H {
			for i := range p.W {
				n := j*p.W + i
				was := p.P[n]
				wantLay, wantAdd, wantPut := was, was, was
				if i >= x && i < x+q.W && j >= y && j < y+q.H {
					other := q.P[(j-y)*q.W+i-x]
					wantAdd = api.Pixel{V: (was.V + other.V) & 255, A: (was.A + other.A) & 255}
					wantPut = other
					c := o.Clip
					if o.Shown && i >= c.X && i < c.X+c.W && j >= c.Y && j < c.Y+c.H {
						wantLay = blend.Over(other, was)
					}
				}
				if lay.P[n] != wantLay || add.P[n] != wantAdd || put.P[n] != wantPut {
					t.Fatalf("%v, %v: at %d, %d: Lay %v, Add %v, Put %v, want %v, %v, %v",
						p, o, i, j, lay.P[n], add.P[n], put.P[n], wantLay, wantAdd, wantPut)
				}
			}
		}
		for _, got := range []api.Picture{lay, add, put} {
			if got.W != p.W || got.H != p.H || len(got.P) != len(p.P) {
				t.Fatalf("%v, %v: %v has other sides", p, o, got)
			}
		}
	}
}

// TestFresh: Z2; nothing that is handed in is changed, and no answer shares
// memory with it.
func TestFresh(t *testing.T) {
	hidden := at(rising(2, 2, 50), 0, 0, all)
	hidden.Shown = false
	calls := map[string]func(p, q api.Picture) api.Picture{
		"Lay":         func(p, q api.Picture) api.Picture { return blend.Lay(p, at(q, 0, 0, all)) },
		"Lay, hidden": func(p, _ api.Picture) api.Picture { return blend.Lay(p, hidden) },
		"Lay, away":   func(p, q api.Picture) api.Picture { return blend.Lay(p, at(q, 20, 20, all)) },
		"Add":         func(p, q api.Picture) api.Picture { return blend.Add(p, q, 0, 0) },
		"Add, away":   func(p, q api.Picture) api.Picture { return blend.Add(p, q, 9, 9) },
		"Put":         func(p, q api.Picture) api.Picture { return blend.Put(p, q, 0, 0) },
		"Put, itself": func(p, _ api.Picture) api.Picture { return blend.Put(p, p, 1, 0) },
	}
	for name, call := range calls {
		// Behind what is handed in there is more, that isn't to be touched.
		room := rising(3, 3, 1).P
		p, q := api.Picture{W: 3, H: 2, P: room[:6]}, rising(2, 2, 50)
		got := call(p, q)
		if !slices.Equal(room, rising(3, 3, 1).P) || !same(q, rising(2, 2, 50)) {
			t.Errorf("%s: what was handed in is changed: %v, %v", name, room, q)
		}
		for i := range got.P {
			got.P[i] = api.Pixel{}
		}
		got.P = append(got.P, api.Pixel{})
		if !slices.Equal(room, rising(3, 3, 1).P) || !same(q, rising(2, 2, 50)) {
			t.Errorf("%s: memory is shared", name)
		}
	}
}

// TestNoPanic: Z1, also of what may not be, of which the chapter says nothing
// else.
func TestNoPanic(t *testing.T) {
	numbers := []int{math.MinInt, math.MinInt + 3, -21, -1, 0, 1, 9, math.MaxInt - 3, math.MaxInt}
	pictures := []api.Picture{
		{}, rising(2, 2, 0), {W: 2, H: 2}, {W: -1, H: -1, P: make([]api.Pixel, 1)},
		{W: math.MaxInt, H: math.MaxInt, P: make([]api.Pixel, 1)}, {W: 2, H: 2, P: make([]api.Pixel, 5)},
		pic(1, 1, math.MaxInt, math.MinInt),
	}
	for _, n := range numbers {
		for _, m := range numbers {
			blend.Over(api.Pixel{V: n, A: m}, api.Pixel{V: m, A: n})
			blend.Over(api.Pixel{V: 1, A: n}, api.Pixel{V: 1, A: m})
			if got := blend.Plain(n, m, api.Pixel{V: 1, A: 1}); (n != 1 || m != 1) && !same(got, api.Picture{}) {
				t.Errorf("Plain(%d, %d) = %v", n, m, got)
			}
			for _, p := range pictures {
				for _, q := range pictures {
					blend.Add(p, q, n, m)
					blend.Put(p, q, n, m)
					blend.Lay(p, at(q, n, m, all))
					blend.Lay(p, at(q, 0, 0, api.Rect{X: n, Y: m, W: m, H: n}))
					blend.Lay(p, at(q, n, m, api.Rect{X: m, Y: n, W: math.MaxInt, H: math.MaxInt}))
				}
			}
		}
	}
}
