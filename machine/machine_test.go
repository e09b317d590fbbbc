package machine_test

import (
	"math"
	"math/rand"
	"reflect"
	"slices"
	"testing"

	"flickerbook/api"
	"flickerbook/blend"
	"flickerbook/book"
	"flickerbook/machine"
	"flickerbook/objects"
)

var (
	head = api.Op{Kind: api.Head, A: 3, B: 2}
	next = api.Op{Kind: api.Next}
	save = api.Op{Kind: api.Save}
	seek = api.Op{Kind: api.Seek}
	end  = api.Op{Kind: api.End}
)

func loop(times int) api.Op     { return api.Op{Kind: api.Loop, A: times} }
func wait(delay int) api.Op     { return api.Op{Kind: api.Wait, A: delay} }
func back(v, a int) api.Op      { return api.Op{Kind: api.Back, A: v, B: a} }
func move(id, x, y int) api.Op  { return api.Op{Kind: api.Move, ID: id, A: x, B: y} }
func show(id, shown int) api.Op { return api.Op{Kind: api.Show, ID: id, A: shown} }
func copyTo(id, to int) api.Op  { return api.Op{Kind: api.Copy, ID: id, A: to} }
func drop(id int) api.Op        { return api.Op{Kind: api.Drop, ID: id} }

func clip(id, x, y, w, h int) api.Op {
	return api.Op{Kind: api.Clip, ID: id, A: x, B: y, C: w, D: h}
}

func pict(id int, p api.Picture) api.Op { return api.Op{Kind: api.Pict, ID: id, Pic: p} }

func add(id, x, y int, p api.Picture) api.Op {
	return api.Op{Kind: api.Add, ID: id, A: x, B: y, Pic: p}
}

func put(id, x, y int, p api.Picture) api.Op {
	return api.Op{Kind: api.Put, ID: id, A: x, B: y, Pic: p}
}

// pic of numbers: V and A of each pixel, row by row.
func pic(w, h int, numbers ...int) api.Picture {
	p := api.Picture{W: w, H: h}
	for i := 0; i+1 < len(numbers); i += 2 {
		p.P = append(p.P, api.Pixel{V: numbers[i], A: numbers[i+1]})
	}
	return p
}

// dot: a picture of one pixel that covers all.
func dot(v int) api.Picture { return pic(1, 1, v, 255) }

// ops between a head and an end.
func ops(l ...api.Op) []api.Op {
	return slices.Concat([]api.Op{head}, l, []api.Op{end})
}

// must be a machine: of a book that may be.
func must(t *testing.T, l []api.Op) *machine.Machine {
	t.Helper()
	m, err := machine.New(l)
	if err != nil || m == nil {
		t.Fatalf("New(%v) = %v, %v", l, m, err)
	}
	return m
}

// steps of a machine, none of which has an error.
func steps(t *testing.T, m *machine.Machine, n int) {
	t.Helper()
	for range n {
		if err := m.Step(); err != nil {
			t.Fatalf("Step at %d = %v", m.At(), err)
		}
	}
}

// toEnd of a book: a machine that is there.
func toEnd(t *testing.T, l []api.Op) *machine.Machine {
	t.Helper()
	m := must(t, l)
	for range 2000 {
		if m.Done() {
			return m
		}
		steps(t, m, 1)
	}
	t.Fatalf("%v isn't done", l)
	return nil
}

// same lists? An empty one is as good as none.
func same[T any](a, b []T) bool {
	return len(a) == 0 && len(b) == 0 || reflect.DeepEqual(a, b)
}

// state of a machine, as far as it is told.
type state struct {
	at      int
	done    bool
	objects []api.Object
	frames  []api.Frame
}

func stateOf(m *machine.Machine) state { return state{m.At(), m.Done(), m.Objects(), m.Frames()} }

// TestNew: I1.
func TestNew(t *testing.T) {
	m := must(t, ops(pict(1, dot(1)), wait(1)))
	if m.At() != 0 || m.Done() || len(m.Objects()) > 0 || len(m.Frames()) > 0 {
		t.Errorf("New: at %d, done %v, %v, %v", m.At(), m.Done(), m.Objects(), m.Frames())
	}
	m = toEnd(t, ops(pict(1, dot(1)), seek, wait(1)))
	if len(m.Objects()) > 0 {
		t.Errorf("objects are kept at first: %v", m.Objects())
	}
	want := []api.Frame{{Pic: blend.Plain(3, 2, api.Pixel{}), Delay: 1}}
	if !same(m.Frames(), want) {
		t.Errorf("behind all at first: %v, want %v", m.Frames(), want)
	}
}

// TestNewWrong: I1, Z1: Check's error, and no machine; of Play (I3) the same.
func TestNewWrong(t *testing.T) {
	cases := []struct {
		name string
		l    []api.Op
		want error
	}{
		{"none", nil, api.ErrShape},
		{"a head", []api.Op{head}, api.ErrShape},
		{"no head", []api.Op{wait(1), end}, api.ErrShape},
		{"no end", []api.Op{head, wait(1)}, api.ErrShape},
		{"two heads", ops(head), api.ErrShape},
		{"too many", ops(slices.Repeat([]api.Op{wait(1)}, 59)...), api.ErrMany},
		{"a next alone", ops(next), api.ErrShape},
		{"an open loop", ops(loop(1)), api.ErrShape},
		{"four deep", ops(loop(1), loop(1), loop(1), loop(1), next, next, next, next), api.ErrMany},
		{"an op that may not be", ops(wait(100)), api.ErrBound},
		{"a head that may not be", []api.Op{{Kind: api.Head, A: 9, B: 1}, end}, api.ErrBound},
		{"a picture that may not be", ops(pict(1, pic(1, 1))), api.ErrShape},
		{"an op that may not be behind one that can't be done", ops(drop(1), wait(-1)), api.ErrBound},
	}
	for _, c := range cases {
		if m, err := machine.New(c.l); err != c.want || m != nil {
			t.Errorf("%s: New = %v, %v, want %v", c.name, m, err, c.want)
		}
		for _, fuel := range []int{-1, 0, 400} {
			if l, err := machine.Play(c.l, fuel); err != c.want || len(l) > 0 {
				t.Errorf("%s: Play = %v, %v, want %v", c.name, l, err, c.want)
			}
		}
	}
}

// TestAt: I1, I2: at which ops a machine is, one behind the other, till it is done.
func TestAt(t *testing.T) {
	cases := []struct {
		name string
		l    []api.Op
		want []int
	}{
		{"nothing", ops(), []int{0, 1}},
		{"no loop", ops(back(1, 2), wait(1), save, seek), []int{0, 1, 2, 3, 4, 5}},
		{"of no times", ops(save, loop(0), save, next, seek), []int{0, 1, 2, 5, 6}},
		{"once", ops(loop(1), save, next), []int{0, 1, 2, 3, 4}},
		{"twice", ops(loop(2), save, next), []int{0, 1, 2, 3, 2, 3, 4}},
		{"of nothing, thrice", ops(loop(3), next), []int{0, 1, 2, 2, 2, 3}},
		{"of nothing, of no times", ops(loop(0), next), []int{0, 1, 3}},
		{"one behind the other", ops(loop(2), next, loop(1), next), []int{0, 1, 2, 2, 3, 4, 5}},
		{"the inner one is entered anew", ops(loop(2), loop(2), save, next, next),
			[]int{0, 1, 2, 3, 4, 3, 4, 5, 2, 3, 4, 3, 4, 5, 6}},
		{"the inner one of no times", ops(loop(2), loop(0), save, next, next), []int{0, 1, 2, 5, 2, 5, 6}},
		{"others in one of no times", ops(loop(0), loop(2), save, next, loop(3), next, next), []int{0, 1, 8}},
		{"three deep", ops(loop(1), loop(2), loop(1), next, next, next), []int{0, 1, 2, 3, 4, 5, 3, 4, 5, 6, 7}},
		{"two in one", ops(loop(2), loop(1), next, loop(2), next, next),
			[]int{0, 1, 2, 3, 4, 5, 5, 6, 2, 3, 4, 5, 5, 6, 7}},
	}
	for _, c := range cases {
		m := must(t, c.l)
		var got []int
		for range 50 {
			got = append(got, m.At())
			if m.Done() != (m.At() == len(c.l)-1) {
				t.Errorf("%s: Done at %d = %v", c.name, m.At(), m.Done())
			}
			if m.Done() {
				break
			}
			steps(t, m, 1)
		}
		if !slices.Equal(got, c.want) {
			t.Errorf("%s: at %v, want %v", c.name, got, c.want)
		}
		was := stateOf(m)
		steps(t, m, 3)
		if !reflect.DeepEqual(stateOf(m), was) {
			t.Errorf("%s: it doesn't stay at the End: %v", c.name, stateOf(m))
		}
	}
}

// TestTimes: I2: as often as the loop says, up to MaxTimes, and to three deep.
func TestTimes(t *testing.T) {
	for times := range api.MaxTimes + 1 {
		m := toEnd(t, ops(loop(times), wait(1), next))
		if len(m.Frames()) != times {
			t.Errorf("%d times: %d frames", times, len(m.Frames()))
		}
	}
	m := toEnd(t, ops(loop(2), loop(3), loop(4), wait(1), next, wait(2), next, wait(3), next))
	count := map[int]int{}
	for _, f := range m.Frames() {
		count[f.Delay]++
	}
	if want := map[int]int{1: 24, 2: 6, 3: 2}; !reflect.DeepEqual(count, want) {
		t.Errorf("three deep: %v, want %v", count, want)
	}
}

// TestObjects: I2: what an op of an object does is Do (F2), and no other op does anything to objects.
func TestObjects(t *testing.T) {
	p := pic(2, 2, 1, 255, 2, 128, 3, 0, 4, 9)
	l := ops(
		pict(3, p), move(3, -2, 1), copyTo(3, 1), clip(1, -1, 0, 2, 20), show(3, 0), add(3, 1, 0, dot(9)), back(7, 7),
		wait(4), put(1, -1, -1, p), loop(1), pict(6, dot(5)), next, drop(3), show(1, 1), copyTo(6, 1), pict(1, p),
	)
	m := must(t, l)
	var want []api.Object
	for _, o := range l[:len(l)-1] {
		if o.ID > 0 {
			var err error
			if want, err = objects.Do(want, o); err != nil {
				t.Fatal(err)
			}
		}
		steps(t, m, 1)
		if !same(m.Objects(), want) {
			t.Errorf("behind %v: %v, want %v", o, m.Objects(), want)
		}
	}
}

// TestFrames: I2: Back and Wait, on the Head's columns and rows.
func TestFrames(t *testing.T) {
	l := []api.Op{
		{Kind: api.Head, A: 2, B: 1},
		wait(0), back(10, 255), wait(99), pict(2, dot(7)), wait(1), move(2, 1, 0), wait(2), show(2, 0), wait(3),
		back(20, 30), wait(3), wait(3), drop(2), wait(5), end,
	}
	want := []api.Frame{
		{Pic: pic(2, 1, 0, 0, 0, 0)},
		{Pic: pic(2, 1, 10, 255, 10, 255), Delay: 99},
		{Pic: pic(2, 1, 7, 255, 10, 255), Delay: 1},
		{Pic: pic(2, 1, 10, 255, 7, 255), Delay: 2},
		{Pic: pic(2, 1, 10, 255, 10, 255), Delay: 3},
		{Pic: pic(2, 1, 20, 30, 20, 30), Delay: 3},
		{Pic: pic(2, 1, 20, 30, 20, 30), Delay: 3},
		{Pic: pic(2, 1, 20, 30, 20, 30), Delay: 5},
	}
	if got := toEnd(t, l).Frames(); !same(got, want) {
		t.Errorf("Frames = %v, want %v", got, want)
	}
	if got, err := machine.Play(l, 400); err != nil || !same(got, want) {
		t.Errorf("Play = %v, %v, want %v", got, err, want)
	}
	for _, sides := range [][2]int{{1, 1}, {1, 8}, {8, 1}, {8, 8}, {5, 3}} {
		w, h := sides[0], sides[1]
		l := []api.Op{{Kind: api.Head, A: w, B: h}, back(4, 5), wait(6), end}
		want := []api.Frame{{Pic: blend.Plain(w, h, api.Pixel{V: 4, A: 5}), Delay: 6}}
		if got := toEnd(t, l).Frames(); !same(got, want) {
			t.Errorf("%d columns, %d rows: %v", w, h, got)
		}
	}
}

// TestFull: I2: MaxFrames frames, and none more.
func TestFull(t *testing.T) {
	forty := ops(loop(5), loop(8), wait(1), next, next)
	if l, err := machine.Play(forty, 400); err != nil || len(l) != 40 {
		t.Errorf("40 frames: %d, %v", len(l), err)
	}
	more := ops(loop(5), loop(8), wait(1), next, next, wait(1))
	if l, err := machine.Play(more, 400); err != api.ErrFull || len(l) > 0 {
		t.Errorf("41 frames: Play = %v, %v", l, err)
	}
	m := must(t, more)
	for m.At() != 6 {
		steps(t, m, 1)
	}
	stays(t, m, api.ErrFull)
	if len(m.Frames()) != 40 {
		t.Errorf("%d frames", len(m.Frames()))
	}
}

// stays: an error, again and again, and nothing is changed by it.
func stays(t *testing.T, m *machine.Machine, want error) {
	t.Helper()
	was := stateOf(m)
	for range 3 {
		if err := m.Step(); err != want {
			t.Errorf("Step at %d = %v, want %v", m.At(), err, want)
		}
		if got := stateOf(m); !reflect.DeepEqual(got, was) {
			t.Errorf("behind an error: %v, was %v", got, was)
		}
	}
}

// TestStepErrors: I2, Z1: Do's error, at each kind of op that asks for an object; it is still at that op.
func TestStepErrors(t *testing.T) {
	wrong := []api.Op{
		move(2, 1, 1), clip(2, 0, 0, 1, 1), show(2, 1), copyTo(2, 1), copyTo(2, 2), drop(2), add(2, 0, 0, dot(1)), put(2, 0, 0, dot(1)),
	}
	for _, o := range wrong {
		l := ops(pict(1, dot(1)), back(1, 1), wait(1), loop(2), wait(2), o, wait(3), next)
		m := must(t, l)
		steps(t, m, 6)
		stays(t, m, api.ErrNone)
		if m.At() != 6 || len(m.Objects()) != 1 || len(m.Frames()) != 2 {
			t.Errorf("%v: at %d, %v, %v", o, m.At(), m.Objects(), m.Frames())
		}
		if f, err := machine.Play(l, 400); err != api.ErrNone || len(f) > 0 {
			t.Errorf("%v: Play = %v, %v", o, f, err)
		}
	}
	// The second time round there is no such object any more.
	m := must(t, ops(pict(1, dot(1)), loop(2), drop(1), next))
	steps(t, m, 5)
	stays(t, m, api.ErrNone)
}

// TestKept: I2, W3: what was kept comes back, whatever was done since.
func TestKept(t *testing.T) {
	a, b := pict(1, pic(2, 1, 1, 255, 2, 255)), pict(4, dot(3))
	between := [][]api.Op{
		{}, {move(1, 5, 5)}, {clip(1, 1, 1, 1, 1)}, {show(1, 0)}, {copyTo(1, 4)}, {copyTo(4, 1)}, {copyTo(1, 2)}, {drop(1)},
		{drop(1), drop(4)}, {add(1, 0, 0, dot(50))}, {put(1, 1, 0, dot(50))}, {pict(1, dot(60))}, {pict(6, dot(60))},
		{wait(3)}, {back(1, 1)}, {loop(3), add(1, 0, 0, dot(1)), next}, {seek}, {seek, move(4, 2, 2), add(4, 0, 0, dot(8))},
	}
	want := toEnd(t, ops(a, b)).Objects()
	for _, l := range between {
		m := toEnd(t, ops(slices.Concat([]api.Op{a, b, save}, l, []api.Op{seek})...))
		if got := m.Objects(); !same(got, want) {
			t.Errorf("%v: %v came back, want %v", l, got, want)
		}
		// It is still kept when it came back once.
		m = toEnd(t, ops(slices.Concat([]api.Op{a, b, save}, l, []api.Op{seek}, l, []api.Op{seek})...))
		if got := m.Objects(); !same(got, want) {
			t.Errorf("%v: %v came back again, want %v", l, got, want)
		}
	}
	// What was kept last comes back, and keeping changes nothing.
	last := toEnd(t, ops(a, save, b, move(4, 1, 1), save, drop(1), drop(4), seek)).Objects()
	if want := toEnd(t, ops(a, b, move(4, 1, 1))).Objects(); !same(last, want) {
		t.Errorf("%v was kept last, want %v", last, want)
	}
	none := toEnd(t, ops(a, save, drop(1), save, b, seek)).Objects()
	if len(none) > 0 {
		t.Errorf("none was kept last, %v came back", none)
	}
	// Frames, and what is behind all, aren't kept.
	m := toEnd(t, ops(save, back(9, 255), wait(1), seek, wait(2)))
	front := blend.Plain(3, 2, api.Pixel{V: 9, A: 255})
	if want := []api.Frame{{Pic: front, Delay: 1}, {Pic: front, Delay: 2}}; !same(m.Frames(), want) {
		t.Errorf("Frames = %v, want %v", m.Frames(), want)
	}
}

// long book: it is done behind so many steps, from 379 to 426 of them.
func long(n int) []api.Op {
	l := []api.Op{loop(8), loop(9), save, save, save, save, next, next}
	return ops(append(l, slices.Repeat([]api.Op{save}, n-378)...)...)
}

// TestFuel: I3: at its edges, those of MaxFuel too.
func TestFuel(t *testing.T) {
	short := ops(wait(1), loop(2), wait(2), next)
	cases := []struct {
		name string
		l    []api.Op
		fuel int
		want error
	}{
		{"just as many", short, 7, nil},
		{"one too few", short, 6, api.ErrFuel},
		{"one too many", short, 8, nil},
		{"none", short, 0, api.ErrFuel},
		{"below 0", short, -1, api.ErrFuel},
		{"the least", short, math.MinInt, api.ErrFuel},
		{"the greatest", short, math.MaxInt, nil},
		{"a head and an end", ops(), 1, nil},
		{"a head and an end, none", ops(), 0, api.ErrFuel},
		{"400", long(400), 400, nil},
		{"400, one too few", long(400), 399, api.ErrFuel},
		{"400, the greatest", long(400), math.MaxInt, nil},
		{"401", long(401), 400, api.ErrFuel},
		{"401, more than there is", long(401), 401, api.ErrFuel},
		{"401, the greatest", long(401), math.MaxInt, api.ErrFuel},
		{"passed over", ops(loop(0), loop(9), loop(9), save, next, next, next), 2, nil},
		{"an error that isn't reached", ops(save, drop(1)), 2, api.ErrFuel},
		{"an error that is reached last", ops(save, drop(1)), 3, api.ErrNone},
		{"an error ahead of what is too long", ops(drop(1), loop(9), loop(9), loop(9), next, next, next), 400, api.ErrNone},
		{"full ahead of what is too long", ops(loop(9), loop(9), loop(9), wait(1), next, next, next), 400, api.ErrFull},
		{"too long", ops(loop(9), loop(9), loop(9), save, next, next, next), 400, api.ErrFuel},
	}
	for _, c := range cases {
		l, err := machine.Play(c.l, c.fuel)
		if err != c.want || err != nil && len(l) > 0 {
			t.Errorf("%s: Play = %v, %v, want %v", c.name, l, err, c.want)
		}
	}
	if l, err := machine.Play(short, 7); err != nil || len(l) != 3 {
		t.Errorf("Play = %v, %v", l, err)
	}
	// A machine alone knows no fuel.
	m := toEnd(t, long(401))
	if !m.Done() {
		t.Errorf("at %d", m.At())
	}
}

// TestDocument: the document's session.
func TestDocument(t *testing.T) {
	l := ops(
		back(10, 255), pict(1, pic(2, 1, 200, 255, 100, 128)), wait(3), pict(2, pic(1, 2, 50, 255, 60, 0)), move(2, 1, 0), save,
		loop(2), move(1, 0, 1), wait(2), add(1, 0, 0, pic(1, 1, 60, 1)), wait(0), next, clip(1, 0, 0, 1, 2), wait(2), wait(4),
		copyTo(1, 4), move(4, 2, 0), clip(4, 0, 0, 9, 9), put(4, 0, 0, pic(1, 1, 7, 255)), wait(1), show(2, 0), wait(1),
		drop(4), seek, wait(5), loop(0), wait(9), next,
	)
	got, err := machine.Play(l, 400)
	if err != nil || len(got) != 10 {
		t.Fatalf("Play = %v, %v", got, err)
	}
	frames := map[int]api.Frame{
		0: {Delay: 3, Pic: pic(3, 2, 200, 255, 55, 255, 10, 255, 10, 255, 10, 255, 10, 255)},
		1: {Delay: 2, Pic: pic(3, 2, 10, 255, 50, 255, 10, 255, 200, 255, 55, 255, 10, 255)},
		3: {Delay: 2, Pic: pic(3, 2, 10, 255, 50, 255, 10, 255, 10, 255, 55, 255, 10, 255)},
		6: {Delay: 4, Pic: pic(3, 2, 10, 255, 50, 255, 10, 255, 10, 255, 10, 255, 10, 255)},
		7: {Delay: 1, Pic: pic(3, 2, 10, 255, 50, 255, 7, 255, 10, 255, 10, 255, 10, 255)},
		8: {Delay: 1, Pic: pic(3, 2, 10, 255, 10, 255, 7, 255, 10, 255, 10, 255, 10, 255)},
		9: {Delay: 5, Pic: pic(3, 2, 200, 255, 50, 255, 10, 255, 10, 255, 10, 255, 10, 255)},
	}
	for i, want := range frames {
		if !reflect.DeepEqual(got[i], want) {
			t.Errorf("frame %d = %v, want %v", i, got[i], want)
		}
	}
	if l, err := machine.Play(l, 5); err != api.ErrFuel || len(l) > 0 {
		t.Errorf("Play with 5 = %v, %v", l, err)
	}
}

// somePicture that may be.
func somePicture(d *rand.Rand) api.Picture {
	p := api.Picture{W: 1 + d.Intn(3), H: 1 + d.Intn(3)}
	for range p.W * p.H {
		p.P = append(p.P, api.Pixel{V: d.Intn(256), A: []int{0, 255, d.Intn(256)}[d.Intn(3)]})
	}
	return p
}

// someOp that may be, of one of the first few objects, but no head, end, loop or next.
func someOp(d *rand.Rand, ids int) api.Op {
	id := 1 + d.Intn(ids)
	place := func() int { return d.Intn(7) - 3 }
	return []api.Op{
		pict(id, somePicture(d)), move(id, place(), place()), clip(id, place(), place(), d.Intn(6), d.Intn(6)),
		show(id, d.Intn(2)), copyTo(id, 1+d.Intn(ids)), add(id, place(), place(), somePicture(d)),
		put(id, place(), place(), somePicture(d)), back(d.Intn(256), d.Intn(256)), save, seek,
		wait(d.Intn(4)), wait(d.Intn(4)), wait(d.Intn(4)), drop(id),
	}[d.Intn(14)]
}

// someBook that may be, and what it tells in ops without loops.
func someBook(d *rand.Rand) (l, told []api.Op) {
	var begin []api.Op
	for id := range 4 {
		begin = append(begin, pict(1+id, somePicture(d)))
	}
	var fill func(deep int) (l, told []api.Op)
	fill = func(deep int) (l, told []api.Op) {
		for range 1 + d.Intn(3) {
			if deep == 3 || d.Intn(2) == 0 {
				o := someOp(d, 4)
				l, told = append(l, o), append(told, o)
				continue
			}
			times := d.Intn(4)
			inner, tells := fill(deep + 1)
			l = slices.Concat(l, []api.Op{loop(times)}, inner, []api.Op{next})
			told = slices.Concat(told, slices.Repeat(tells, times))
		}
		return l, told
	}
	l, told = fill(0)
	return ops(slices.Concat(begin, l)...), ops(slices.Concat(begin, told)...)
}

// plain playing of ops without loops, of as many as there are, by what the layers above do.
func plain(l []api.Op) (objs []api.Object, frames []api.Frame, err error) {
	var kept []api.Object
	var behind api.Pixel
	for _, o := range l {
		switch o.Kind {
		case api.Head, api.End:
		case api.Back:
			behind = api.Pixel{V: o.A, A: o.B}
		case api.Save:
			kept = objs
		case api.Seek:
			objs = kept
		case api.Wait:
			if len(frames) == 40 {
				return objs, frames, api.ErrFull
			}
			frames = append(frames, api.Frame{Pic: objects.Seen(objs, l[0].A, l[0].B, behind), Delay: o.A})
		default:
			done, err := objects.Do(objs, o)
			if err != nil {
				return objs, frames, err
			}
			objs = done
		}
	}
	return objs, frames, nil
}

// TestAsTold: W4: what is done so often is as if it were told so often; I2 of
// books at large, their errors among them.
func TestAsTold(t *testing.T) {
	d := rand.New(rand.NewSource(11))
	looped, wrong := 0, 0
	for range 3000 {
		l, told := someBook(d)
		if len(l) > api.MaxOps {
			continue
		}
		wantObjects, wantFrames, wantErr := plain(told)
		m := must(t, l)
		var err error
		for err == nil && !m.Done() {
			err = m.Step()
		}
		if err != wantErr || !same(m.Objects(), wantObjects) || !same(m.Frames(), wantFrames) {
			t.Fatalf("%v: %v, %v, %v, want %v, %v, %v", l, m.Objects(), m.Frames(), err, wantObjects, wantFrames, wantErr)
		}
		if err != nil {
			wrong++
		}
		if len(told) > api.MaxOps {
			continue
		}
		if len(told) != len(l) {
			looped++
		}
		a, errA := machine.Play(l, 400)
		b, errB := machine.Play(told, 400)
		if errA != errB || !same(a, b) || errA != wantErr || errA == nil && !same(a, wantFrames) {
			t.Fatalf("%v: %v, %v, told so often: %v, %v", l, a, errA, b, errB)
		}
	}
	if looped < 300 || wrong < 300 {
		t.Errorf("only %d books with loops, %d with errors", looped, wrong)
	}
}

// TestMoreFuel: W5: more fuel changes nothing of what was told with less.
func TestMoreFuel(t *testing.T) {
	d := rand.New(rand.NewSource(12))
	fuels := []int{math.MinInt, -1, 0, 1, 2, 5, 10, 20, 30, 50, 100, 399, 400, 401, math.MaxInt}
	for range 500 {
		l, _ := someBook(d)
		if len(l) > api.MaxOps {
			continue
		}
		var told []api.Frame
		var last error = api.ErrFuel
		for _, fuel := range fuels {
			got, err := machine.Play(l, fuel)
			if last != api.ErrFuel && (err != last || !same(got, told)) {
				t.Fatalf("%v: with %d: %v, %v, was %v, %v", l, fuel, got, err, told, last)
			}
			told, last = got, err
		}
		// Step by step: what was told stands there still.
		m := must(t, l)
		for range 60 {
			was := m.Frames()
			err := m.Step()
			now := m.Frames()
			if len(now) < len(was) || len(now) > len(was)+1 || !same(now[:len(was)], was) {
				t.Fatalf("%v: %v, was %v", l, now, was)
			}
			if err != nil || m.Done() {
				break
			}
		}
	}
}

// TestHidden: W2 of what is played: what is hidden is as if it weren't there, and so is what covers nothing.
func TestHidden(t *testing.T) {
	d := rand.New(rand.NewSource(13))
	for range 500 {
		// The object 6 is changed all along, but never shown, or covers nothing.
		with := []api.Op{pict(6, somePicture(d)), show(6, 0)}
		glassy := []api.Op{pict(6, blend.Plain(3, 3, api.Pixel{V: 99}))}
		var without []api.Op
		for id := range 3 {
			o := pict(1+id, somePicture(d))
			with, without, glassy = append(with, o), append(without, o), append(glassy, o)
		}
		with, without, glassy = append(with, save), append(without, save), append(glassy, save)
		for range d.Intn(20) {
			o := someOp(d, 3)
			if o.Kind == api.Drop {
				o = wait(7)
			}
			with, without, glassy = append(with, o), append(without, o), append(glassy, o)
			if d.Intn(2) == 0 {
				place := func() int { return d.Intn(5) - 2 }
				with = append(with, []api.Op{
					move(6, place(), place()), put(6, place(), place(), somePicture(d)),
					add(6, place(), place(), somePicture(d)), clip(6, place(), place(), 5, 5), show(6, 0),
				}[d.Intn(5)])
				glassy = append(glassy, move(6, place(), place()))
			}
		}
		a, errA := machine.Play(ops(with...), 400)
		b, errB := machine.Play(ops(without...), 400)
		if errA != nil || errB != nil || !same(a, b) {
			t.Fatalf("%v: %v, %v, without what is hidden: %v, %v", with, a, errA, b, errB)
		}
		// Where nothing is behind it, its shade isn't told either: then V is 0 (E1).
		c, errC := machine.Play(ops(append([]api.Op{back(8, 255)}, glassy...)...), 400)
		b, errB = machine.Play(ops(append([]api.Op{back(8, 255)}, without...)...), 400)
		if errC != nil || errB != nil || !sameSeen(c, b) {
			t.Fatalf("%v: %v, %v, without what covers nothing: %v, %v", glassy, c, errC, b, errB)
		}
	}
}

// sameSeen frames? A pixel that covers nothing has no shade that is seen.
func sameSeen(a, b []api.Frame) bool {
	return slices.EqualFunc(a, b, func(a, b api.Frame) bool {
		return a.Delay == b.Delay && slices.EqualFunc(a.Pic.P, b.Pic.P, func(x, y api.Pixel) bool {
			return x == y || x.A == 0 && y.A == 0
		})
	})
}

// TestStandsAlone: W3 of what is played: a copy stands on its own, and no other object is changed.
func TestStandsAlone(t *testing.T) {
	a := pict(1, pic(2, 1, 1, 255, 2, 255))
	changes := []api.Op{
		move(3, 1, 1), clip(3, 0, 0, 1, 1), show(3, 0), add(3, 0, 0, dot(9)), put(3, 1, 0, dot(9)), pict(3, dot(9)), drop(3),
	}
	for _, o := range changes {
		for _, l := range [][]api.Op{{a, copyTo(1, 3), o}, {a, copyTo(1, 3), save, o, seek, o}} {
			got, found := objects.Get(toEnd(t, ops(l...)).Objects(), 1)
			if want := objects.Fresh(1, a.Pic); !found || !reflect.DeepEqual(got, want) {
				t.Errorf("%v: %v, want %v", l, got, want)
			}
		}
		o.ID = 1
		got, found := objects.Get(toEnd(t, ops(a, copyTo(1, 3), o)).Objects(), 3)
		if want := objects.Fresh(3, a.Pic); !found || !reflect.DeepEqual(got, want) {
			t.Errorf("%v: the copy is %v, want %v", o, got, want)
		}
	}
}

// TestKeepsNoList: Z2: what is handed in isn't written into, kept, or read behind its end.
func TestKeepsNoList(t *testing.T) {
	fresh := func() []api.Op {
		return ops(pict(1, dot(5)), loop(2), wait(1), add(1, 0, 0, dot(5)), save, put(1, 0, 0, dot(6)), seek, next)
	}
	behind := []api.Op{{Kind: 99}, wait(1)}
	room := append(fresh(), behind...)
	l := room[:len(room)-2]
	want := toEnd(t, fresh()).Frames()
	if got, err := machine.Play(l, 400); err != nil || !same(got, want) {
		t.Errorf("Play = %v, %v, want %v", got, err, want)
	}
	toEnd(t, l)
	if !same(room, append(fresh(), behind...)) {
		t.Errorf("the list is changed: %v", room)
	}
	for n := range 15 {
		l := fresh()
		m := must(t, l)
		steps(t, m, n)
		for i := range l {
			for j := range l[i].Pic.P {
				l[i].Pic.P[j] = api.Pixel{V: 77, A: 77}
			}
			l[i] = api.Op{Kind: 99}
		}
		for !m.Done() {
			steps(t, m, 1)
		}
		if !same(m.Frames(), want) {
			t.Errorf("the list is kept: %v, want %v", m.Frames(), want)
		}
	}
}

// spoil what was told, as far as it goes.
func spoil(m *machine.Machine) {
	objs, frames := m.Objects(), m.Frames()
	for i := range objs {
		for j := range objs[i].Pic.P {
			objs[i].Pic.P[j] = api.Pixel{V: 88, A: 88}
		}
		objs[i] = api.Object{ID: 99}
	}
	for i := range frames {
		for j := range frames[i].Pic.P {
			frames[i].Pic.P[j] = api.Pixel{V: 88, A: 88}
		}
		frames[i] = api.Frame{Delay: -1}
	}
	_, _ = append(objs, api.Object{ID: 98}), append(frames, api.Frame{Delay: -2})
}

// TestAnswersAreFresh: Z2: what comes out is the caller's.
func TestAnswersAreFresh(t *testing.T) {
	l := ops(pict(1, dot(5)), save, copyTo(1, 2), loop(2), wait(1), add(1, 0, 0, dot(5)), wait(2), seek, copyTo(1, 2), next)
	a, b := must(t, l), must(t, l)
	for range 30 {
		steps(t, a, 1)
		steps(t, b, 1)
		spoil(b)
		if x, y := stateOf(a), stateOf(b); !reflect.DeepEqual(x, y) {
			t.Fatalf("it hangs on what was told: %v, want %v", y, x)
		}
	}
	first, err := machine.Play(l, 400)
	want, _ := machine.Play(l, 400)
	if err != nil || !same(first, want) {
		t.Fatalf("Play = %v, %v", first, err)
	}
	// No two pictures of one answer share pixels.
	for i := range first {
		for j := range first[i].Pic.P {
			first[i].Pic.P[j].V = 88
		}
		if !same(first[i+1:], want[i+1:]) {
			t.Fatalf("frames share pixels: %v", first)
		}
	}
	if again, _ := machine.Play(l, 400); !same(again, want) {
		t.Errorf("Play again = %v, want %v", again, want)
	}
}

// TestMachinesStandAlone: Z2: what a machine answers hangs on no other one.
func TestMachinesStandAlone(t *testing.T) {
	l := ops(pict(1, dot(5)), save, loop(3), add(1, 0, 0, dot(1)), wait(1), next, seek)
	a, b := must(t, l), must(t, l)
	steps(t, a, 6)
	if b.At() != 0 || len(b.Objects()) > 0 || len(b.Frames()) > 0 {
		t.Errorf("the other one: %v", stateOf(b))
	}
	steps(t, b, 4)
	for !a.Done() {
		steps(t, a, 1)
	}
	for !b.Done() {
		steps(t, b, 1)
	}
	if x, y := stateOf(a), stateOf(b); !reflect.DeepEqual(x, y) {
		t.Errorf("%v, the other one: %v", x, y)
	}
}

// TestWild: Z1, Z3: nothing panics at lists of any ops; an error is a bare number, and stands alone.
func TestWild(t *testing.T) {
	d := rand.New(rand.NewSource(14))
	odd := []int{0, 1, 2, -1, 7, 17, 21, 100, 256, math.MinInt, math.MaxInt}
	n := func() int { return odd[d.Intn(len(odd))] }
	for range 5000 {
		var l []api.Op
		for range d.Intn(6) {
			switch d.Intn(3) {
			case 0:
				l = append(l, api.Op{Kind: d.Intn(18), ID: n(), A: n(), B: n(), C: n(), D: n(),
					Pic: api.Picture{W: n(), H: n(), P: make([]api.Pixel, d.Intn(3))}})
			case 1:
				l = append(l, []api.Op{loop(d.Intn(3)), next, head, end}[d.Intn(4)])
			default:
				l = append(l, someOp(d, 6))
			}
		}
		if d.Intn(4) > 0 {
			l = ops(l...)
		}
		fuel := n()
		f, err := machine.Play(l, fuel)
		if _, bare := err.(api.Errno); err != nil && (!bare || len(f) > 0) {
			t.Fatalf("Play(%v, %d) = %v, %v", l, fuel, f, err)
		}
		m, err := machine.New(l)
		if err != book.Check(l) || (err == nil) != (m != nil) {
			t.Fatalf("New(%v) = %v, %v", l, m, err)
		}
		for range 20 {
			if m == nil {
				break
			}
			was := stateOf(m)
			err := m.Step()
			if _, bare := err.(api.Errno); err != nil && (!bare || !reflect.DeepEqual(stateOf(m), was)) {
				t.Fatalf("%v: Step = %v: %v, was %v", l, err, stateOf(m), was)
			}
		}
	}
}
