package rect_test

import (
	"math"
	"math/rand"
	"testing"

	"flickerbook/api"
	"flickerbook/rect"
)

// TestCheck: D1.
func TestCheck(t *testing.T) {
	may := []api.Rect{
		{},
		{X: 1, Y: 2, W: 3, H: 4},
		{X: -20, Y: -20},
		{X: 20, Y: 20, W: 20, H: 20},
		{X: -20, Y: 20, W: 20},
		{X: 20, Y: -20, H: 20},
	}
	for _, r := range may {
		if err := rect.Check(r); err != nil {
			t.Errorf("Check(%v) = %v", r, err)
		}
	}
	for _, n := range []int{-21, 21, 255, math.MinInt, math.MaxInt, math.MinInt + 20} {
		for _, r := range []api.Rect{{X: n}, {Y: n}, {W: n}, {H: n}, {X: n, Y: n, W: n, H: n}} {
			if err := rect.Check(r); err != api.ErrBound {
				t.Errorf("Check(%v) = %v, want ErrBound", r, err)
			}
		}
	}
	for _, r := range []api.Rect{{W: -1}, {H: -1}, {X: 5, Y: 5, W: -1, H: 5}, {X: 5, Y: 5, W: 5, H: -20}} {
		if err := rect.Check(r); err != api.ErrBound {
			t.Errorf("Check(%v) = %v, want ErrBound", r, err)
		}
	}
}

// TestHas: D2; the first places that are in it, and the last ones.
func TestHas(t *testing.T) {
	r := api.Rect{X: -2, Y: 3, W: 4, H: 2}
	cases := []struct {
		x, y int
		want bool
	}{
		{-2, 3, true}, {1, 3, true}, {-2, 4, true}, {1, 4, true}, {0, 4, true},
		{-3, 3, false}, {2, 3, false}, {-2, 2, false}, {-2, 5, false}, {2, 5, false}, {-3, 2, false},
		{3, -2, false},
		{math.MaxInt, 3, false}, {math.MinInt, 3, false}, {0, math.MaxInt, false}, {0, math.MinInt, false},
	}
	for _, c := range cases {
		if got := rect.Has(r, c.x, c.y); got != c.want {
			t.Errorf("Has(%v, %d, %d) = %v", r, c.x, c.y, got)
		}
	}
	for _, r := range []api.Rect{{}, {W: 5}, {H: 5}} {
		if rect.Has(r, 0, 0) {
			t.Errorf("Has(%v, 0, 0): it is empty", r)
		}
	}
	last := api.Rect{X: 20, Y: 20, W: 20, H: 20}
	if !rect.Has(last, 39, 39) || rect.Has(last, 40, 39) || rect.Has(last, 39, 40) {
		t.Error("Has: the greatest rect's end isn't at 40")
	}
}

// TestBoth: D2.
func TestBoth(t *testing.T) {
	a := api.Rect{X: 0, Y: 0, W: 4, H: 4}
	cases := []struct{ b, want api.Rect }{
		{a, a},
		{api.Rect{X: 1, Y: 2, W: 1, H: 1}, api.Rect{X: 1, Y: 2, W: 1, H: 1}},
		{api.Rect{X: -20, Y: -20, W: 20, H: 20}, api.Rect{}},
		{api.Rect{X: -19, Y: -18, W: 20, H: 20}, api.Rect{X: 0, Y: 0, W: 1, H: 2}},
		{api.Rect{X: 3, Y: 2, W: 20, H: 20}, api.Rect{X: 3, Y: 2, W: 1, H: 2}},
		{api.Rect{X: 4, Y: 0, W: 4, H: 4}, api.Rect{}},
		{api.Rect{X: 0, Y: 4, W: 4, H: 4}, api.Rect{}},
		{api.Rect{X: 20, Y: 20, W: 20, H: 20}, api.Rect{}},
		{api.Rect{X: 1, Y: 1, W: 0, H: 2}, api.Rect{}},
		{api.Rect{X: 1, Y: 1, W: 2, H: 0}, api.Rect{}},
		{api.Rect{}, api.Rect{}},
	}
	for _, c := range cases {
		if got := rect.Both(a, c.b); got != c.want {
			t.Errorf("Both(%v, %v) = %v, want %v", a, c.b, got, c.want)
		}
		if got := rect.Both(c.b, a); got != c.want {
			t.Errorf("Both(%v, %v) = %v, want %v", c.b, a, got, c.want)
		}
	}
}

// TestBothPlaces: D2; Both has just the places that both have, and zeros if
// there are none.
func TestBothPlaces(t *testing.T) {
	d := rand.New(rand.NewSource(4))
	draw := func() api.Rect {
		return api.Rect{X: d.Intn(41) - 20, Y: d.Intn(41) - 20, W: d.Intn(21), H: d.Intn(21)}
	}
	for range 300 {
		a, b := draw(), draw()
		both, some := rect.Both(a, b), false
		for y := -21; y <= 41; y++ {
			for x := -21; x <= 41; x++ {
				want := rect.Has(a, x, y) && rect.Has(b, x, y)
				some = some || want
				if rect.Has(both, x, y) != want {
					t.Fatalf("Both(%v, %v) = %v: at %d, %d it isn't so", a, b, both, x, y)
				}
			}
		}
		if !some && both != (api.Rect{}) {
			t.Fatalf("Both(%v, %v) = %v, want zeros", a, b, both)
		}
		if err := rect.Check(both); err != nil {
			t.Fatalf("Both(%v, %v) = %v: %v", a, b, both, err)
		}
	}
}

// TestNoPanic: Z1, at all numbers.
func TestNoPanic(t *testing.T) {
	l := []int{math.MinInt, -1, 0, 1, math.MaxInt}
	for _, n := range l {
		for _, m := range l {
			for _, r := range []api.Rect{{X: n, Y: m, W: n, H: m}, {X: n, Y: n, W: m, H: m}} {
				rect.Check(r)
				rect.Has(r, n, m)
				rect.Both(r, api.Rect{X: m, Y: m, W: n, H: n})
			}
		}
	}
}
