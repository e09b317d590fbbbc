package op_test

import (
	"math"
	"math/rand"
	"reflect"
	"slices"
	"strings"
	"testing"

	"flickerbook/api"
	"flickerbook/chunk"
	"flickerbook/op"
)

// span: from which number to which.
type span struct{ low, high int }

// row of the document's table.
type row struct {
	kind    int
	name    string
	id      bool
	numbers []span
	pic     bool
}

func table() []row {
	side, place, length := span{1, 8}, span{-20, 20}, span{0, 20}
	return []row{
		{1, "HEAD", false, []span{side, side}, false},
		{2, "PICT", true, nil, true},
		{3, "MOVE", true, []span{place, place}, false},
		{4, "CLIP", true, []span{place, place, length, length}, false},
		{5, "SHOW", true, []span{{0, 1}}, false},
		{6, "COPY", true, []span{{1, 6}}, false},
		{7, "DROP", true, nil, false},
		{8, "PADD", true, []span{place, place}, true},
		{9, "PPUT", true, []span{place, place}, true},
		{10, "BACK", false, []span{{0, 255}, {0, 255}}, false},
		{11, "WAIT", false, []span{{0, 99}}, false},
		{12, "LOOP", false, []span{{0, 9}}, false},
		{13, "NEXT", false, nil, false},
		{14, "SAVE", false, nil, false},
		{15, "SEEK", false, nil, false},
		{16, "ENDS", false, nil, false},
	}
}

// pair of pixels, as a picture.
func pair() api.Picture {
	return api.Picture{W: 2, H: 1, P: []api.Pixel{{V: 7, A: 255}, {V: 9, A: 0}}}
}

// pairBytes: told as it is, that is 7 255 9 0, it is shortest.
const pairBytes = "\x02\x01\x01\x00\x01\x07\x01\xff\x01\x09\x01\x00"

// number of an op, by its place: A, B, C, D.
func number(o *api.Op, i int) *int {
	return []*int{&o.A, &o.B, &o.C, &o.D}[i]
}

// least op of a row: each number as low as it may be.
func least(r row) api.Op {
	o := api.Op{Kind: r.kind}
	if r.id {
		o.ID = 1
	}
	for i, s := range r.numbers {
		*number(&o, i) = s.low
	}
	if r.pic {
		o.Pic = pair()
	}
	return o
}

// some op of a row that may be.
func some(r row, d *rand.Rand) api.Op {
	o := least(r)
	if r.id {
		o.ID = 1 + d.Intn(6)
	}
	for i, s := range r.numbers {
		*number(&o, i) = s.low + d.Intn(s.high-s.low+1)
	}
	if r.pic {
		o.Pic = api.Picture{W: 1 + d.Intn(8), H: 1 + d.Intn(8)}
		for range o.Pic.W * o.Pic.H {
			o.Pic.P = append(o.Pic.P, api.Pixel{V: d.Intn(256), A: d.Intn(256)})
		}
	}
	return o
}

// faulty op: one that some row of the table is changed to.
func faulty(d *rand.Rand) api.Op {
	rows := table()
	o := some(rows[d.Intn(len(rows))], d)
	odd := []int{-129, -21, -20, -1, 0, 1, 2, 6, 7, 8, 9, 10, 20, 21, 99, 100, 255, 256, 65535, math.MinInt, math.MaxInt}
	for range d.Intn(3) {
		n := odd[d.Intn(len(odd))]
		switch k := d.Intn(9); k {
		case 0:
			o.Kind = n
		case 1:
			o.ID = n
		case 2, 3, 4, 5:
			*number(&o, k-2) = n
		case 6:
			o.Pic.W = n
		case 7:
			o.Pic.H = n
		case 8:
			o.Pic.P = []api.Pixel{{V: n, A: 3}}
		}
	}
	return o
}

// judge an op by the document's words.
func judge(o api.Op) error {
	i := slices.IndexFunc(table(), func(r row) bool { return r.kind == o.Kind })
	if i < 0 {
		return api.ErrShape
	}
	r := table()[i]
	if !r.id && o.ID != 0 || !r.pic && (o.Pic.W != 0 || o.Pic.H != 0 || len(o.Pic.P) != 0) {
		return api.ErrShape
	}
	for i := len(r.numbers); i < 4; i++ {
		if *number(&o, i) != 0 {
			return api.ErrShape
		}
	}
	if r.id && (o.ID < 1 || o.ID > 6) {
		return api.ErrBound
	}
	for i, s := range r.numbers {
		if n := *number(&o, i); n < s.low || n > s.high {
			return api.ErrBound
		}
	}
	if r.pic {
		return judgePicture(o.Pic)
	}
	return nil
}

func judgePicture(p api.Picture) error {
	if p.W < 1 || p.W > 8 || p.H < 1 || p.H > 8 {
		return api.ErrBound
	}
	if len(p.P) != p.W*p.H {
		return api.ErrShape
	}
	for _, x := range p.P {
		if x.V < 0 || x.V > 255 || x.A < 0 || x.A > 255 {
			return api.ErrBound
		}
	}
	return nil
}

// sameOp: an empty list of pixels is as good as none.
func sameOp(a, b api.Op) bool {
	if len(a.Pic.P) == 0 && len(b.Pic.P) == 0 {
		a.Pic.P, b.Pic.P = nil, nil
	}
	return reflect.DeepEqual(a, b)
}

// TestKinds: G1: the numbers of the kinds are those of package api.
func TestKinds(t *testing.T) {
	kinds := []int{api.Head, api.Pict, api.Move, api.Clip, api.Show, api.Copy, api.Drop, api.Add, api.Put,
		api.Back, api.Wait, api.Loop, api.Next, api.Save, api.Seek, api.End}
	for i, r := range table() {
		if kinds[i] != r.kind {
			t.Errorf("%s: kind %d, want %d", r.name, kinds[i], r.kind)
		}
	}
}

// TestCheckBounds: G1: an ID, and each number, at its edges and beyond them.
func TestCheckBounds(t *testing.T) {
	check := func(r row, o api.Op, want error) {
		t.Helper()
		if err := op.Check(o); err != want {
			t.Errorf("%s: Check(%v) = %v, want %v", r.name, o, err, want)
		}
	}
	for _, r := range table() {
		check(r, least(r), nil)
		for i, s := range r.numbers {
			o := least(r)
			n := number(&o, i)
			for *n = s.low; *n <= s.high; *n++ {
				check(r, o, nil)
			}
			for _, *n = range []int{s.low - 1, s.high + 1, s.low - 256, s.high + 256, s.low + 65536, math.MinInt, math.MaxInt} {
				check(r, o, api.ErrBound)
			}
		}
		if !r.id {
			continue
		}
		o := least(r)
		for o.ID = 1; o.ID <= 6; o.ID++ {
			check(r, o, nil)
		}
		for _, o.ID = range []int{0, 7, -1, 257, math.MinInt, math.MaxInt} {
			check(r, o, api.ErrBound)
		}
	}
}

// TestCheckForeign: G1: what a kind hasn't is 0, or not there.
func TestCheckForeign(t *testing.T) {
	for _, r := range table() {
		refuse := func(what string, o api.Op) {
			if err := op.Check(o); err != api.ErrShape {
				t.Errorf("%s with %s: Check = %v, want ErrShape", r.name, what, err)
			}
		}
		for _, n := range []int{1, -1, 2, 256, math.MinInt, math.MaxInt} {
			for i := len(r.numbers); i < 4; i++ {
				o := least(r)
				*number(&o, i) = n
				refuse("a number", o)
			}
			if !r.id {
				o := least(r)
				o.ID = n
				refuse("an ID", o)
			}
			if !r.pic {
				o := least(r)
				o.Pic.W = n
				refuse("columns", o)
				o = least(r)
				o.Pic.H = n
				refuse("rows", o)
			}
		}
		if !r.pic {
			o := least(r)
			o.Pic.P = make([]api.Pixel, 1)
			refuse("a pixel", o)
			o.Pic = pair()
			refuse("a picture", o)
			o.Pic = api.Picture{P: []api.Pixel{}}
			if err := op.Check(o); err != nil {
				t.Errorf("%s with an empty list of pixels: %v", r.name, err)
			}
		}
	}
	for _, kind := range []int{0, -1, 17, 18, 257, math.MinInt, math.MaxInt} {
		if err := op.Check(api.Op{Kind: kind}); err != api.ErrShape {
			t.Errorf("kind %d: Check = %v, want ErrShape", kind, err)
		}
	}
}

// TestCheckPicture: G1: Check's error of a picture (C1).
func TestCheckPicture(t *testing.T) {
	for _, r := range table() {
		if !r.pic {
			continue
		}
		cases := []struct {
			name   string
			change func(o *api.Op)
			want   error
		}{
			{"no picture", func(o *api.Op) { o.Pic = api.Picture{} }, api.ErrBound},
			{"nine columns", func(o *api.Op) { o.Pic = api.Picture{W: 9, H: 1, P: make([]api.Pixel, 9)} }, api.ErrBound},
			{"no rows", func(o *api.Op) { o.Pic.H = 0 }, api.ErrBound},
			{"a pixel too few", func(o *api.Op) { o.Pic.P = o.Pic.P[:1] }, api.ErrShape},
			{"a pixel too many", func(o *api.Op) { o.Pic.P = make([]api.Pixel, 3) }, api.ErrShape},
			{"too bright", func(o *api.Op) { o.Pic.P[1].V = 256 }, api.ErrBound},
			{"covers too little", func(o *api.Op) { o.Pic.P[0].A = -1 }, api.ErrBound},
		}
		for _, c := range cases {
			o := least(r)
			c.change(&o)
			if err := op.Check(o); err != c.want {
				t.Errorf("%s, %s: Check = %v, want %v", r.name, c.name, err, c.want)
			}
		}
	}
}

// TestCheckOrder: G1, Z3: the error that is named first is told.
func TestCheckOrder(t *testing.T) {
	cases := []struct {
		name string
		o    api.Op
		want error
	}{
		{"foreign ahead of the ID", api.Op{Kind: api.Drop, A: 1}, api.ErrShape},
		{"foreign ahead of a number", api.Op{Kind: api.Wait, A: 100, B: 1}, api.ErrShape},
		{"a foreign ID ahead of a number", api.Op{Kind: api.Head, ID: 1}, api.ErrShape},
		{"a foreign picture ahead of the ID", api.Op{Kind: api.Move, Pic: pair()}, api.ErrShape},
		{"foreign ahead of the picture", api.Op{Kind: api.Pict, ID: 1, A: 1}, api.ErrShape},
		{"the ID ahead of the picture", api.Op{Kind: api.Pict, Pic: api.Picture{W: 2, H: 1}}, api.ErrBound},
		{"a number ahead of the picture", api.Op{Kind: api.Add, ID: 1, A: 21, Pic: api.Picture{W: 2, H: 1}}, api.ErrBound},
		{"the picture behind all", api.Op{Kind: api.Add, ID: 1, A: 20, Pic: api.Picture{W: 2, H: 1}}, api.ErrShape},
	}
	for _, c := range cases {
		if err := op.Check(c.o); err != c.want {
			t.Errorf("%s: Check = %v, want %v", c.name, err, c.want)
		}
	}
}

// written: ops, and the chunks that the document has of them, byte by byte.
func written() []struct {
	o api.Op
	c chunk.Chunk
} {
	return []struct {
		o api.Op
		c chunk.Chunk
	}{
		{api.Op{Kind: api.Head, A: 3, B: 8}, chunk.Chunk{Name: "HEAD", Data: "\x83\x00\x88\x00"}},
		{api.Op{Kind: api.Pict, ID: 6, Pic: pair()}, chunk.Chunk{Name: "PICT", Data: "\x06" + pairBytes}},
		{api.Op{Kind: api.Move, ID: 2, A: -20, B: 20}, chunk.Chunk{Name: "MOVE", Data: "\x02\x6c\x00\x94\x00"}},
		{api.Op{Kind: api.Clip, ID: 1, A: -1, B: 2, C: 0, D: 20},
			chunk.Chunk{Name: "CLIP", Data: "\x01\x7f\x00\x82\x00\x80\x00\x94\x00"}},
		{api.Op{Kind: api.Show, ID: 3, A: 1}, chunk.Chunk{Name: "SHOW", Data: "\x03\x81\x00"}},
		{api.Op{Kind: api.Copy, ID: 4, A: 5}, chunk.Chunk{Name: "COPY", Data: "\x04\x85\x00"}},
		{api.Op{Kind: api.Drop, ID: 5}, chunk.Chunk{Name: "DROP", Data: "\x05"}},
		{api.Op{Kind: api.Add, ID: 1, A: 1, B: -2, Pic: pair()},
			chunk.Chunk{Name: "PADD", Data: "\x01\x81\x00\x7e\x00" + pairBytes}},
		{api.Op{Kind: api.Put, ID: 1, A: 0, B: 3, Pic: pair()},
			chunk.Chunk{Name: "PPUT", Data: "\x01\x80\x00\x83\x00" + pairBytes}},
		{api.Op{Kind: api.Back, A: 255, B: 127}, chunk.Chunk{Name: "BACK", Data: "\x7f\x01\xff\x00"}},
		{api.Op{Kind: api.Back, A: 128, B: 129}, chunk.Chunk{Name: "BACK", Data: "\x00\x01\x01\x01"}},
		{api.Op{Kind: api.Wait, A: 99}, chunk.Chunk{Name: "WAIT", Data: "\xe3\x00"}},
		{api.Op{Kind: api.Loop, A: 9}, chunk.Chunk{Name: "LOOP", Data: "\x89\x00"}},
		{api.Op{Kind: api.Next}, chunk.Chunk{Name: "NEXT"}},
		{api.Op{Kind: api.Save}, chunk.Chunk{Name: "SAVE"}},
		{api.Op{Kind: api.Seek}, chunk.Chunk{Name: "SEEK"}},
		{api.Op{Kind: api.End}, chunk.Chunk{Name: "ENDS"}},
	}
}

// TestChunk: G2.
func TestChunk(t *testing.T) {
	for _, x := range written() {
		if c, err := op.Chunk(x.o); err != nil || c != x.c {
			t.Errorf("Chunk(%v) = %q, %v, want %q", x.o, c, err, x.c)
		}
	}
}

// TestParse: G3, W1.
func TestParse(t *testing.T) {
	for _, x := range written() {
		if o, err := op.Parse(x.c); err != nil || !sameOp(o, x.o) {
			t.Errorf("Parse(%q) = %v, %v, want %v", x.c, o, err, x.o)
		}
	}
	// Also a picture in a way that Bytes wouldn't take.
	want := api.Op{Kind: api.Pict, ID: 1, Pic: api.Picture{W: 1, H: 1, P: make([]api.Pixel, 1)}}
	if o, err := op.Parse(chunk.Chunk{Name: "PICT", Data: "\x01\x01\x01\x01\x03\x02\x00"}); err != nil || !sameOp(o, want) {
		t.Errorf("a picture in another way: %v, %v", o, err)
	}
}

// TestParseWrong: G3, and the order of its errors (Z3); zero values beside them (Z1).
func TestParseWrong(t *testing.T) {
	cases := []struct {
		what, name, data string
		want             error
	}{
		{"no name", "", "", api.ErrNone},
		{"another name", "XTRA", "y", api.ErrNone},
		{"small letters", "next", "", api.ErrNone},
		{"a word of a line", "PUT", "", api.ErrNone},
		{"a name, and more", "NEXTS", "", api.ErrNone},
		{"half of a name", "NEX", "", api.ErrNone},
		{"the kind's name in package api", "END", "", api.ErrNone},
		{"the name ahead of the bytes", "ABCD", "\xff\xff", api.ErrNone},
		{"no sides", "PICT", "\x01", api.ErrText},
		{"one side", "PICT", "\x01\x01", api.ErrText},
		{"a side of 9", "PICT", "\x01\x09\x01\x01\x00\x02\x00", api.ErrBound},
		{"a side of 0", "PADD", "\x01\x80\x00\x80\x00\x01\x00", api.ErrBound},
		{"an odd number of bytes", "PICT", "\x01\x01\x01\x03", api.ErrText},
		{"too few bytes of a picture", "PICT", "\x01\x01\x01\x02\x00", api.ErrText},
		{"too many bytes of a picture", "PPUT", "\x01\x80\x00\x80\x00\x01\x01\x04\x00", api.ErrMany},
		{"a way of 4", "PICT", "\x01\x01\x01\x01\x04\x02\x00", api.ErrText},
		{"an ID of 0", "DROP", "\x00", api.ErrBound},
		{"an ID of 7", "DROP", "\x07", api.ErrBound},
		{"an ID of 129", "DROP", "\x81", api.ErrBound},
		{"an ID of 9", "DROP", "\x09", api.ErrBound},
		{"an ID of 255", "PICT", "\xff" + pairBytes, api.ErrBound},
		{"a number too great", "WAIT", "\xe4\x00", api.ErrBound},
		{"a number below 0", "WAIT", "\x7f\x00", api.ErrBound},
		{"the least number", "LOOP", "\x00\x00", api.ErrBound},
		{"the greatest number", "BACK", "\x80\x00\xff\xff", api.ErrBound},
		{"a higher byte", "LOOP", "\x80\x01", api.ErrBound},
		{"a rect that may not be", "CLIP", "\x01\x80\x00\x80\x00\x7f\x00\x80\x00", api.ErrBound},
		{"bytes ahead of an ID", "DROP", "\x07\x00", api.ErrText},
		{"the picture ahead of an ID", "PICT", "\x07\x01\x01\x01\x04\x02\x00", api.ErrText},
		{"the picture ahead of a number", "PADD", "\x01\xff\xff\x80\x00\x01\x01\x04\x00", api.ErrMany},
	}
	for _, c := range cases {
		o, err := op.Parse(chunk.Chunk{Name: c.name, Data: c.data})
		if err != c.want || !reflect.DeepEqual(o, api.Op{}) {
			t.Errorf("%s: Parse(%s, %q) = %v, %v, want %v", c.what, c.name, c.data, o, err, c.want)
		}
	}
}

// TestParseLength: G3: fewer bytes, and, without a picture, more.
func TestParseLength(t *testing.T) {
	for _, x := range written() {
		head := strings.TrimSuffix(x.c.Data, pairBytes)
		for n := range head {
			if o, err := op.Parse(chunk.Chunk{Name: x.c.Name, Data: head[:n]}); err != api.ErrText || !sameOp(o, api.Op{}) {
				t.Errorf("%s of %d bytes: %v, %v, want ErrText", x.c.Name, n, o, err)
			}
		}
		if len(head) < len(x.c.Data) {
			continue
		}
		for _, more := range []string{"\x00", "\x80\x00", pairBytes} {
			if o, err := op.Parse(chunk.Chunk{Name: x.c.Name, Data: head + more}); err != api.ErrText || !sameOp(o, api.Op{}) {
				t.Errorf("%s and %d bytes: %v, %v, want ErrText", x.c.Name, len(more), o, err)
			}
		}
	}
}

// TestAll: W1 of ops that may be, and judged errors of all others (G1, G2, Z1, Z3).
func TestAll(t *testing.T) {
	d := rand.New(rand.NewSource(7))
	for range 6000 {
		o := faulty(d)
		want := judge(o)
		if err := op.Check(o); err != want {
			t.Fatalf("Check(%v) = %v, want %v", o, err, want)
		}
		c, err := op.Chunk(o)
		if err != want || err != nil && c != (chunk.Chunk{}) {
			t.Fatalf("Chunk(%v) = %q, %v, want %v", o, c, err, want)
		}
		if err != nil {
			continue
		}
		if p, err := op.Parse(c); err != nil || !sameOp(p, o) {
			t.Fatalf("Parse(%q) = %v, %v, want %v", c, p, err, o)
		}
	}
}

// TestSpoilt: Z1: any bytes under any name are read without a panic; what is
// read may be, and an error stands alone, a bare number (Z3).
func TestSpoilt(t *testing.T) {
	d := rand.New(rand.NewSource(8))
	for range 6000 {
		x := written()[d.Intn(len(written()))].c
		data := []byte(x.Data)
		for range d.Intn(3) {
			data = slices.Insert(data, d.Intn(len(data)+1), byte(d.Intn(256)))
			k := d.Intn(len(data))
			data = slices.Delete(data, k, k+d.Intn(2))
		}
		c := chunk.Chunk{Name: x.Name, Data: string(data)}
		o, err := op.Parse(c)
		if err == nil && judge(o) != nil || err != nil && !reflect.DeepEqual(o, api.Op{}) {
			t.Fatalf("Parse(%q) = %v, %v", c, o, err)
		}
		if _, bare := err.(api.Errno); err != nil && !bare {
			t.Fatalf("Parse(%q): %T", c, err)
		}
	}
}

// TestLists: Z2: pixels that are handed in are neither changed nor kept, what
// stands behind them isn't read, and what is answered is new.
func TestLists(t *testing.T) {
	room := []api.Pixel{{V: 7, A: 255}, {V: 9, A: 0}, {V: 999, A: -1}}
	o := api.Op{Kind: api.Put, ID: 1, Pic: api.Picture{W: 2, H: 1, P: room[:2]}}
	c, err := op.Chunk(o)
	if err != nil || op.Check(o) != nil {
		t.Fatalf("Chunk(%v) = %q, %v", o, c, err)
	}
	if !slices.Equal(room, []api.Pixel{{V: 7, A: 255}, {V: 9, A: 0}, {V: 999, A: -1}}) {
		t.Errorf("the list was changed: %v", room)
	}
	p, _ := op.Parse(c)
	p.Pic.P[0].V = 100
	if q, _ := op.Parse(c); !sameOp(q, o) {
		t.Errorf("read again: %v, want %v", q, o)
	}
}

// TestParts: G1: what each kind has, and nothing of no kind.
func TestParts(t *testing.T) {
	for _, r := range table() {
		if id, numbers, pic := op.Parts(r.kind); id != r.id || numbers != len(r.numbers) || pic != r.pic {
			t.Errorf("Parts of %s = %v, %d, %v", r.name, id, numbers, pic)
		}
	}
	for _, kind := range []int{math.MinInt, -1, 0, 17, math.MaxInt} {
		if id, numbers, pic := op.Parts(kind); id || numbers != 0 || pic {
			t.Errorf("Parts of %d = %v, %d, %v", kind, id, numbers, pic)
		}
	}
}
