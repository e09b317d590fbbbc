package objects_test

import (
	"math"
	"math/rand"
	"reflect"
	"slices"
	"testing"

	"flickerbook/api"
	"flickerbook/blend"
	"flickerbook/objects"
	"flickerbook/op"
)

// pic of numbers: V and A of each pixel, row by row.
func pic(w, h int, numbers ...int) api.Picture {
	p := api.Picture{W: w, H: h}
	for i := 0; i+1 < len(numbers); i += 2 {
		p.P = append(p.P, api.Pixel{V: numbers[i], A: numbers[i+1]})
	}
	return p
}

// dot: a picture of one pixel that covers all.
func dot(v int) api.Picture { return pic(1, 1, v, 255) }

// three objects, each with something of its own.
func three() []api.Object {
	return []api.Object{
		{ID: 1, X: 1, Y: -2, Pic: pic(2, 1, 10, 255, 20, 128), Clip: api.Rect{X: -1, Y: -2, W: 3, H: 4}, Shown: true},
		{ID: 3, X: -20, Y: 20, Pic: pic(1, 2, 30, 0, 40, 255), Clip: api.Rect{W: 20, H: 20}},
		{ID: 6, Pic: dot(60), Clip: api.Rect{W: 1, H: 1}, Shown: true},
	}
}

// same lists? An empty one is as good as none.
func same(a, b []api.Object) bool {
	return len(a) == 0 && len(b) == 0 || reflect.DeepEqual(a, b)
}

// with an object changed.
func with(l []api.Object, i int, change func(o *api.Object)) []api.Object {
	change(&l[i])
	return l
}

// TestCheck: F1.
func TestCheck(t *testing.T) {
	may := three()
	for id := 1; id <= 6; id++ {
		may = append(may, objects.Fresh(id, dot(0)))
	}
	for _, x := range []int{-20, -1, 0, 20} {
		may = append(may, api.Object{ID: 1, X: x, Y: -x, Pic: dot(255), Clip: api.Rect{X: x, Y: x}})
	}
	for _, o := range may {
		if err := objects.Check(o); err != nil {
			t.Errorf("Check(%v) = %v", o, err)
		}
	}
	cases := []struct {
		name   string
		change func(o *api.Object)
		want   error
	}{
		{"ID 0", func(o *api.Object) { o.ID = 0 }, api.ErrBound},
		{"ID 7", func(o *api.Object) { o.ID = 7 }, api.ErrBound},
		{"ID below 0", func(o *api.Object) { o.ID = -1 }, api.ErrBound},
		{"ID the least", func(o *api.Object) { o.ID = math.MinInt }, api.ErrBound},
		{"ID the greatest", func(o *api.Object) { o.ID = math.MaxInt }, api.ErrBound},
		{"X is too great", func(o *api.Object) { o.X = 21 }, api.ErrBound},
		{"X is too little", func(o *api.Object) { o.X = -21 }, api.ErrBound},
		{"Y is too great", func(o *api.Object) { o.Y = 21 }, api.ErrBound},
		{"Y is too little", func(o *api.Object) { o.Y = -21 }, api.ErrBound},
		{"Clip begins too far", func(o *api.Object) { o.Clip.X = 21 }, api.ErrBound},
		{"Clip is below 0", func(o *api.Object) { o.Clip.H = -1 }, api.ErrBound},
		{"Clip is too great", func(o *api.Object) { o.Clip.W = 21 }, api.ErrBound},
		{"no picture", func(o *api.Object) { o.Pic = api.Picture{} }, api.ErrBound},
		{"a pixel too many", func(o *api.Object) { o.Pic.P = make([]api.Pixel, 3) }, api.ErrShape},
		{"a pixel may not be", func(o *api.Object) { o.Pic = dot(256) }, api.ErrBound},
		{"ID ahead of the picture", func(o *api.Object) { o.ID, o.Pic.P = 0, nil }, api.ErrBound},
		{"X ahead of the picture", func(o *api.Object) { o.X, o.Pic.P = 21, nil }, api.ErrBound},
		{"Y ahead of the picture", func(o *api.Object) { o.Y, o.Pic.P = 21, nil }, api.ErrBound},
		{"Clip ahead of the picture", func(o *api.Object) { o.Clip.Y, o.Pic.P = -21, nil }, api.ErrBound},
	}
	for _, c := range cases {
		o := three()[0]
		c.change(&o)
		if err := objects.Check(o); err != c.want {
			t.Errorf("%s: Check = %v, want %v", c.name, err, c.want)
		}
	}
	if err := objects.Check(api.Object{}); err != api.ErrBound {
		t.Errorf("Check of zeros = %v", err)
	}
}

// TestGet: F1, also of none (Z1).
func TestGet(t *testing.T) {
	l := three()
	for _, want := range l {
		if got, ok := objects.Get(l, want.ID); !ok || !reflect.DeepEqual(got, want) {
			t.Errorf("Get %d = %v, %v", want.ID, got, ok)
		}
	}
	for _, id := range []int{0, 2, 4, 5, 7, -1, math.MinInt, math.MaxInt} {
		for _, l := range [][]api.Object{l, nil, {}} {
			if got, ok := objects.Get(l, id); ok || !reflect.DeepEqual(got, api.Object{}) {
				t.Errorf("Get %d of %d = %v, %v", id, len(l), got, ok)
			}
		}
	}
}

// TestSet: F1; at each place of the list, and instead of each one.
func TestSet(t *testing.T) {
	for id := 1; id <= 6; id++ {
		o := api.Object{ID: id, X: 9, Pic: dot(id), Clip: api.Rect{W: 2}}
		got := objects.Set(three(), o)
		want := slices.DeleteFunc(three(), func(o api.Object) bool { return o.ID == id })
		want = append(want, o)
		slices.SortFunc(want, func(a, b api.Object) int { return a.ID - b.ID })
		if !same(got, want) {
			t.Errorf("Set %d = %v, want %v", id, got, want)
		}
		if got := objects.Set(nil, o); !same(got, []api.Object{o}) {
			t.Errorf("Set %d of none = %v", id, got)
		}
	}
}

// TestFresh: F1.
func TestFresh(t *testing.T) {
	p := pic(1, 2, 1, 2, 3, 4)
	want := api.Object{ID: 4, Pic: p, Clip: api.Rect{W: 20, H: 20}, Shown: true}
	if got := objects.Fresh(4, p); !reflect.DeepEqual(got, want) {
		t.Errorf("Fresh = %v, want %v", got, want)
	}
}

// TestDo: F2.
func TestDo(t *testing.T) {
	p := pic(1, 1, 250, 200)
	one := three()[0]
	cases := []struct {
		name string
		op   api.Op
		want []api.Object
	}{
		{"a new one", api.Op{Kind: api.Pict, ID: 2, Pic: p},
			slices.Insert(three(), 1, api.Object{ID: 2, Pic: p, Clip: api.Rect{W: 20, H: 20}, Shown: true})},
		{"one anew, hidden and moved as it was", api.Op{Kind: api.Pict, ID: 3, Pic: p},
			with(three(), 1, func(o *api.Object) {
				*o = api.Object{ID: 3, Pic: p, Clip: api.Rect{W: 20, H: 20}, Shown: true}
			})},
		{"moved", api.Op{Kind: api.Move, ID: 1, A: -3, B: 4},
			with(three(), 0, func(o *api.Object) { o.X, o.Y = -3, 4 })},
		{"clipped", api.Op{Kind: api.Clip, ID: 3, A: -3, B: 4, C: 5, D: 6},
			with(three(), 1, func(o *api.Object) { o.Clip = api.Rect{X: -3, Y: 4, W: 5, H: 6} })},
		{"shown", api.Op{Kind: api.Show, ID: 3, A: 1},
			with(three(), 1, func(o *api.Object) { o.Shown = true })},
		{"shown as it was", api.Op{Kind: api.Show, ID: 6, A: 1}, three()},
		{"hidden", api.Op{Kind: api.Show, ID: 1, A: 0},
			with(three(), 0, func(o *api.Object) { o.Shown = false })},
		{"hidden as it was", api.Op{Kind: api.Show, ID: 3, A: 0}, three()},
		{"copied to a new one", api.Op{Kind: api.Copy, ID: 1, A: 4},
			slices.Insert(three(), 2, func() api.Object { o := one; o.ID = 4; return o }())},
		{"a hidden one copied ahead", api.Op{Kind: api.Copy, ID: 3, A: 2},
			slices.Insert(three(), 1, func() api.Object { o := three()[1]; o.ID = 2; return o }())},
		{"copied over another one", api.Op{Kind: api.Copy, ID: 1, A: 6},
			with(three(), 2, func(o *api.Object) { *o = one; o.ID = 6 })},
		{"copied to itself", api.Op{Kind: api.Copy, ID: 3, A: 3}, three()},
		{"added, at places of the picture", api.Op{Kind: api.Add, ID: 1, A: 1, Pic: p},
			with(three(), 0, func(o *api.Object) { o.Pic = pic(2, 1, 10, 255, 14, 72) })},
		{"added lower, to a hidden one", api.Op{Kind: api.Add, ID: 3, B: 1, Pic: p},
			with(three(), 1, func(o *api.Object) { o.Pic = pic(1, 2, 30, 0, 34, 199) })},
		{"put", api.Op{Kind: api.Put, ID: 1, A: 1, Pic: p},
			with(three(), 0, func(o *api.Object) { o.Pic = pic(2, 1, 10, 255, 250, 200) })},
		{"put lower", api.Op{Kind: api.Put, ID: 3, B: 1, Pic: p},
			with(three(), 1, func(o *api.Object) { o.Pic = pic(1, 2, 30, 0, 250, 200) })},
		{"put away", api.Op{Kind: api.Put, ID: 1, A: -1, Pic: p}, three()},
		{"the first one dropped", api.Op{Kind: api.Drop, ID: 1}, three()[1:]},
		{"one between dropped", api.Op{Kind: api.Drop, ID: 3}, slices.Delete(three(), 1, 2)},
		{"the last one dropped", api.Op{Kind: api.Drop, ID: 6}, three()[:2]},
	}
	for _, c := range cases {
		if got, err := objects.Do(three(), c.op); err != nil || !same(got, c.want) {
			t.Errorf("%s: Do = %v, %v, want %v", c.name, got, err, c.want)
		}
	}
	only, err := objects.Do(nil, api.Op{Kind: api.Pict, ID: 5, Pic: p})
	if want := []api.Object{objects.Fresh(5, p)}; err != nil || !same(only, want) {
		t.Errorf("Do to none = %v, %v", only, err)
	}
	if none, err := objects.Do(only, api.Op{Kind: api.Drop, ID: 5}); err != nil || len(none) != 0 {
		t.Errorf("Do: the only one dropped = %v, %v", none, err)
	}
}

// TestDoErrors: F2, Z1 and Z3; beside an error there is no list.
func TestDoErrors(t *testing.T) {
	p := dot(1)
	cases := []struct {
		name string
		op   api.Op
		want error
	}{
		{"move none", api.Op{Kind: api.Move, ID: 2, A: 1}, api.ErrNone},
		{"clip none", api.Op{Kind: api.Clip, ID: 2, C: 1, D: 1}, api.ErrNone},
		{"show none", api.Op{Kind: api.Show, ID: 4, A: 1}, api.ErrNone},
		{"copy none", api.Op{Kind: api.Copy, ID: 5, A: 1}, api.ErrNone},
		{"copy none to its own number", api.Op{Kind: api.Copy, ID: 5, A: 5}, api.ErrNone},
		{"drop none", api.Op{Kind: api.Drop, ID: 2}, api.ErrNone},
		{"add to none", api.Op{Kind: api.Add, ID: 2, Pic: p}, api.ErrNone},
		{"put in none", api.Op{Kind: api.Put, ID: 2, Pic: p}, api.ErrNone},
		// ErrNone is named ahead of ErrShape: these have no ID that an object has.
		{"head", api.Op{Kind: api.Head, A: 1, B: 1}, api.ErrNone},
		{"back", api.Op{Kind: api.Back}, api.ErrNone},
		{"wait", api.Op{Kind: api.Wait}, api.ErrNone},
		{"loop", api.Op{Kind: api.Loop}, api.ErrNone},
		{"next", api.Op{Kind: api.Next}, api.ErrNone},
		{"save", api.Op{Kind: api.Save}, api.ErrNone},
		{"seek", api.Op{Kind: api.Seek}, api.ErrNone},
		{"end", api.Op{Kind: api.End}, api.ErrNone},
		{"no kind, and no object", api.Op{Kind: 99, ID: 2}, api.ErrNone},
		{"zeros", api.Op{}, api.ErrNone},
		// With an object of that ID the kind is what is wrong.
		{"wait, of an object", api.Op{Kind: api.Wait, ID: 1}, api.ErrShape},
		{"head, of an object", api.Op{Kind: api.Head, ID: 3, A: 1, B: 1}, api.ErrShape},
		{"end, of an object", api.Op{Kind: api.End, ID: 6}, api.ErrShape},
		{"no kind", api.Op{Kind: 0, ID: 1}, api.ErrShape},
		{"a kind too many", api.Op{Kind: 17, ID: 1}, api.ErrShape},
		{"a kind below 0", api.Op{Kind: math.MinInt, ID: 1}, api.ErrShape},
	}
	for _, c := range cases {
		if got, err := objects.Do(three(), c.op); err != c.want || len(got) != 0 {
			t.Errorf("%s: Do = %v, %v, want %v", c.name, got, err, c.want)
		}
	}
	if got, err := objects.Do(nil, api.Op{Kind: api.Move, ID: 1}); err != api.ErrNone || len(got) != 0 {
		t.Errorf("Do of no objects = %v, %v", got, err)
	}
}

// TestSeen: F3.
func TestSeen(t *testing.T) {
	back := api.Pixel{V: 10, A: 255}
	wide := api.Rect{W: 20, H: 20}
	cases := []struct {
		name string
		l    []api.Object
		want api.Picture
	}{
		{"none", nil, pic(2, 1, 10, 255, 10, 255)},
		{"one", []api.Object{objects.Fresh(1, dot(7))}, pic(2, 1, 7, 255, 10, 255)},
		{"the higher number is in front", []api.Object{objects.Fresh(1, dot(7)), objects.Fresh(2, dot(8))},
			pic(2, 1, 8, 255, 10, 255)},
		{"each before what is behind it", []api.Object{objects.Fresh(2, pic(1, 1, 200, 255)), objects.Fresh(5, pic(1, 1, 100, 128))},
			pic(2, 1, 149, 255, 10, 255)},
		{"a hidden one", []api.Object{objects.Fresh(1, dot(7)), {ID: 2, Pic: dot(8), Clip: wide}},
			pic(2, 1, 7, 255, 10, 255)},
		{"at a place", []api.Object{{ID: 6, X: 1, Pic: dot(8), Clip: wide, Shown: true}}, pic(2, 1, 10, 255, 8, 255)},
		{"clipped", []api.Object{{ID: 6, Pic: pic(2, 1, 8, 255, 9, 255), Clip: api.Rect{X: 1, W: 20, H: 20}, Shown: true}},
			pic(2, 1, 10, 255, 9, 255)},
		// Objects are laid if each may be.
		{"one of them may not be", []api.Object{objects.Fresh(1, dot(7)), objects.Fresh(7, dot(8))},
			pic(2, 1, 10, 255, 10, 255)},
	}
	for _, c := range cases {
		if got := objects.Seen(c.l, 2, 1, back); !reflect.DeepEqual(got, c.want) {
			t.Errorf("%s: Seen = %v, want %v", c.name, got, c.want)
		}
	}
	if got := objects.Seen(nil, 8, 3, back); !reflect.DeepEqual(got, blend.Plain(8, 3, back)) {
		t.Errorf("Seen of none, 8 by 3 = %v", got)
	}
}

func somePicture(d *rand.Rand) api.Picture {
	p := api.Picture{W: 1 + d.Intn(3), H: 1 + d.Intn(3)}
	for range p.W * p.H {
		p.P = append(p.P, api.Pixel{V: d.Intn(256), A: []int{0, 255, d.Intn(256)}[d.Intn(3)]})
	}
	return p
}

// someOp of one object.
func someOp(d *rand.Rand) api.Op {
	place := func() int { return d.Intn(7) - 3 }
	o := api.Op{Kind: api.Pict + d.Intn(api.Put-api.Pict+1), ID: 1 + d.Intn(6)}
	switch o.Kind {
	case api.Pict:
		o.Pic = somePicture(d)
	case api.Move:
		o.A, o.B = place(), place()
	case api.Clip:
		o.A, o.B, o.C, o.D = place(), place(), d.Intn(6), d.Intn(6)
	case api.Show:
		o.A = d.Intn(2)
	case api.Copy:
		o.A = 1 + d.Intn(6)
	case api.Add, api.Put:
		o.A, o.B, o.Pic = place(), place(), somePicture(d)
	}
	return o
}

// TestOthersStay: W3 as far as objects go, and Z1 and Z2; in long rows of ops
// only the one object changes, each list rises and may be, and what was handed
// in stays.
func TestOthersStay(t *testing.T) {
	d := rand.New(rand.NewSource(6))
	for range 50 {
		var l []api.Object
		for range 60 {
			op := someOp(d)
			was := deep(l)
			got, err := objects.Do(l, op)
			if !same(l, was) {
				t.Fatalf("Do(%v): the list is changed: %v, was %v", op, l, was)
			}
			if err != nil {
				continue
			}
			changed := op.ID
			if op.Kind == api.Copy {
				changed = op.A
			}
			for id := 1; id <= 6; id++ {
				a, hasA := objects.Get(l, id)
				b, hasB := objects.Get(got, id)
				if id != changed && (hasA != hasB || !reflect.DeepEqual(a, b)) {
					t.Fatalf("Do(%v): the object %d is changed: %v, was %v", op, id, b, a)
				}
			}
			for i, o := range got {
				if i > 0 && got[i-1].ID >= o.ID || objects.Check(o) != nil {
					t.Fatalf("Do(%v) = %v", op, got)
				}
			}
			l = got
		}
	}
}

// edgeOps: of each kind all ops that may be (G1), with numbers at the edges.
func edgeOps() []api.Op {
	var l []api.Op
	edges := []int{-20, 0, 1, 6, 8, 9, 20, 99, 255}
	try := func(o api.Op) {
		if op.Check(o) == nil {
			l = append(l, o)
		}
	}
	for kind := api.Head; kind <= api.End; kind++ {
		for id := 0; id <= 6; id++ {
			for _, p := range []api.Picture{{}, dot(200), blend.Plain(8, 8, api.Pixel{V: 255, A: 1})} {
				for _, a := range edges {
					for _, b := range edges {
						try(api.Op{Kind: kind, ID: id, A: a, B: b, Pic: p})
						try(api.Op{Kind: kind, ID: id, A: a, B: b, C: 20, D: 20, Pic: p})
					}
				}
			}
		}
	}
	return l
}

// TestDoWhatMayBe: F2 of ops that may be (G1): of an object that there is each
// op of the kinds that have an ID is done, and what comes of it may be (F1); all
// other kinds are no op of an object. W3: no other object is changed.
func TestDoWhatMayBe(t *testing.T) {
	done := [api.End + 1]int{}
	for _, o := range edgeOps() {
		got, err := objects.Do(three(), o)
		_, has := objects.Get(three(), o.ID)
		if may := o.Kind == api.Pict || has; may != (err == nil) {
			t.Fatalf("Do(%v) = %v", o, err)
		}
		if err != nil {
			if err != api.ErrNone || len(got) > 0 {
				t.Fatalf("Do(%v) = %v, %v", o, got, err)
			}
			continue
		}
		done[o.Kind]++
		changed := o.ID
		if o.Kind == api.Copy {
			changed = o.A
		}
		for i, x := range got {
			if i > 0 && got[i-1].ID >= x.ID || objects.Check(x) != nil {
				t.Fatalf("Do(%v) = %v", o, got)
			}
		}
		for _, x := range three() {
			if y, ok := objects.Get(got, x.ID); x.ID != changed && (!ok || !reflect.DeepEqual(x, y)) {
				t.Fatalf("Do(%v) changes %d: %v", o, x.ID, y)
			}
		}
	}
	for kind, n := range done {
		if (n > 0) != (kind >= api.Pict && kind <= api.Put) {
			t.Errorf("kind %d is done %d times", kind, n)
		}
	}
}

// deep copy: nothing of it is shared.
func deep(l []api.Object) []api.Object {
	out := slices.Clone(l)
	for i := range out {
		out[i].Pic.P = slices.Clone(out[i].Pic.P)
	}
	return out
}

// TestCopyStandsAlone: W3; what is done to a copy, or to what it was made of,
// changes the other one no more.
func TestCopyStandsAlone(t *testing.T) {
	ops := []api.Op{
		{Kind: api.Move, A: 5, B: 6}, {Kind: api.Clip, A: 1, B: 1, C: 1, D: 1}, {Kind: api.Show, A: 0},
		{Kind: api.Add, Pic: dot(9)}, {Kind: api.Put, Pic: dot(9)}, {Kind: api.Pict, Pic: dot(9)}, {Kind: api.Drop},
	}
	for _, ids := range [][2]int{{1, 2}, {2, 1}} {
		for _, op := range ops {
			l, err := objects.Do(three(), api.Op{Kind: api.Copy, ID: 1, A: 2})
			if err != nil {
				t.Fatal(err)
			}
			op.ID = ids[0]
			was, _ := objects.Get(l, ids[1])
			l, err = objects.Do(l, op)
			if err != nil {
				t.Fatal(err)
			}
			if got, ok := objects.Get(l, ids[1]); !ok || !reflect.DeepEqual(got, was) {
				t.Errorf("%v changes %d: %v, was %v", op, ids[1], got, was)
			}
		}
	}
}

// TestWhatIsSeen: W2; what covers all is seen alone, what covers nothing
// isn't, and what is hidden is as if it weren't there.
func TestWhatIsSeen(t *testing.T) {
	d := rand.New(rand.NewSource(7))
	for range 300 {
		var l []api.Object
		for range 12 {
			op := someOp(d)
			if got, err := objects.Do(l, op); err == nil {
				l = got
			}
		}
		back := api.Pixel{V: d.Intn(256), A: 255}
		w, h := 1+d.Intn(8), 1+d.Intn(8)
		seen := objects.Seen(l, w, h, back)
		shown := slices.DeleteFunc(slices.Clone(l), func(o api.Object) bool { return !o.Shown })
		if got := objects.Seen(shown, w, h, back); !reflect.DeepEqual(got, seen) {
			t.Fatalf("%v: without the hidden ones: %v, with them: %v", l, got, seen)
		}
		l = slices.DeleteFunc(l, func(o api.Object) bool { return o.ID == 6 })
		seen = objects.Seen(l, w, h, back)
		glass := objects.Fresh(6, blend.Plain(8, 8, api.Pixel{V: 77, A: 0}))
		if got := objects.Seen(objects.Set(l, glass), w, h, back); !reflect.DeepEqual(got, seen) {
			t.Fatalf("%v: what covers nothing is seen: %v, want %v", l, got, seen)
		}
		front := api.Pixel{V: 77, A: 255}
		full := objects.Fresh(6, blend.Plain(8, 8, front))
		if got := objects.Seen(objects.Set(l, full), w, h, back); !reflect.DeepEqual(got, blend.Plain(w, h, front)) {
			t.Fatalf("%v: what covers all isn't seen alone: %v", l, got)
		}
	}
}

// TestOwn: the same objects, also of none.
func TestOwn(t *testing.T) {
	for _, l := range [][]api.Object{nil, {}, three(), make([]api.Object, 2)} {
		if got := objects.Own(l); !same(got, l) {
			t.Errorf("Own = %v, want %v", got, l)
		}
	}
}

// TestSharesNothing: Z2; what was handed in stays as it is, also when an answer
// is written into.
func TestSharesNothing(t *testing.T) {
	p := pic(1, 2, 1, 2, 3, 4)
	ops := []api.Op{
		{Kind: api.Pict, ID: 2, Pic: p}, {Kind: api.Pict, ID: 1, Pic: p}, {Kind: api.Move, ID: 1, A: 1},
		{Kind: api.Clip, ID: 1}, {Kind: api.Show, ID: 1}, {Kind: api.Copy, ID: 1, A: 2}, {Kind: api.Copy, ID: 1, A: 1},
		{Kind: api.Add, ID: 1, Pic: p}, {Kind: api.Put, ID: 1, Pic: p}, {Kind: api.Drop, ID: 1}, {Kind: api.Drop, ID: 6},
	}
	calls := []func(l []api.Object) []api.Object{
		func(l []api.Object) []api.Object { return objects.Set(l, api.Object{ID: 2, Pic: p}) },
		func(l []api.Object) []api.Object { return objects.Set(l, api.Object{ID: 6, Pic: p}) },
		func(l []api.Object) []api.Object { return objects.Set(l, api.Object{ID: 4, Pic: p}) },
		func(l []api.Object) []api.Object { o, _ := objects.Get(l, 3); return []api.Object{o} },
		objects.Own,
		func(l []api.Object) []api.Object { return []api.Object{objects.Fresh(2, p)} },
		func(l []api.Object) []api.Object { return []api.Object{{Pic: objects.Seen(l, 3, 3, api.Pixel{})}} },
	}
	for _, op := range ops {
		calls = append(calls, func(l []api.Object) []api.Object { l, _ = objects.Do(l, op); return l })
	}
	for i, call := range calls {
		// Behind the list there is more room, that isn't to be touched.
		room := append(three(), three()...)
		got := call(room[:3])
		for j := range got {
			for k := range got[j].Pic.P {
				got[j].Pic.P[k] = api.Pixel{V: -1, A: -1 - j}
			}
		}
		for j := range got {
			for _, x := range got[j].Pic.P {
				if x.A != -1-j {
					t.Errorf("call %d: two objects of an answer share pixels", i)
				}
			}
			got[j] = api.Object{}
		}
		_ = append(got, api.Object{})
		if !same(room, append(three(), three()...)) || !slices.Equal(p.P, pic(1, 2, 1, 2, 3, 4).P) {
			t.Errorf("call %d: what was handed in is changed: %v, %v", i, room, p)
		}
	}
}

// TestNoPanic: Z1, also of what may not be, of which the chapter says nothing
// else.
func TestNoPanic(t *testing.T) {
	numbers := []int{math.MinInt, -1, 0, 1, 2, 7, math.MaxInt}
	pictures := []api.Picture{{}, dot(1), {W: 1, H: 1}, {W: math.MaxInt, H: 2, P: make([]api.Pixel, 1)}}
	for _, n := range numbers {
		for _, p := range pictures {
			odd := []api.Object{
				{ID: n, X: n, Y: n, Pic: p, Clip: api.Rect{X: n, Y: n, W: n, H: n}, Shown: true},
				{ID: 1, Pic: p, Shown: true}, {ID: 1, Pic: dot(5), Shown: true}, {ID: 0},
			}
			objects.Check(odd[0])
			objects.Get(odd, n)
			objects.Set(odd, objects.Fresh(n, p))
			objects.Seen(odd, 2, 2, api.Pixel{V: n, A: n})
			objects.Seen(odd[1:3], n, n, api.Pixel{})
			for kind := -1; kind <= 18; kind++ {
				for _, id := range numbers {
					objects.Do(odd, api.Op{Kind: kind, ID: id, A: n, B: n, C: n, D: n, Pic: p})
				}
			}
		}
	}
}
