package console_test

import (
	"math/rand"
	"slices"
	"strconv"
	"strings"
	"testing"

	"flickerbook/api"
	"flickerbook/book"
	"flickerbook/console"
	"flickerbook/script"
)

// mustRun lines.
func mustRun(t *testing.T, lines []string) []string {
	t.Helper()
	got, err := console.Run(lines)
	if err != nil || len(got) != len(lines) {
		t.Fatalf("%.90q: %q, %v", lines, got, err)
	}
	return got
}

// talk: lines, and what each of them is to be answered, behind " => ".
func talk(t *testing.T, name, told string) {
	t.Helper()
	var lines, want []string
	for _, s := range strings.Split(strings.Trim(told, "\n"), "\n") {
		line, answer, _ := strings.Cut(s, " => ")
		lines, want = append(lines, line), append(want, answer)
	}
	got := mustRun(t, lines)
	for i := range got {
		if got[i] != want[i] {
			t.Errorf("%s: line %d, %.90s: %s, want %s", name, i, lines[i], got[i], want[i])
		}
	}
}

// last answer to lines.
func last(t *testing.T, lines ...string) string {
	t.Helper()
	return mustRun(t, lines)[len(lines)-1]
}

// TestExample: L1, L2: the document's session.
func TestExample(t *testing.T) {
	talk(t, "the example", `
head 3 2 => ok
back 10 255 => ok
pict 1 2 1 200 255 100 128 => ok
wait 3 => ok
pict 2 1 2 50 255 60 0 => ok
move 2 1 0 => ok
save => ok
loop 2 => ok
move 1 0 1 => ok
wait 2 => ok
add 1 0 0 1 1 60 1 => ok
wait 0 => ok
next => ok
clip 1 0 0 1 2 => ok
wait 2 => ok
wait 4 => ok
copy 1 4 => ok
move 4 2 0 => ok
clip 4 0 0 9 9 => ok
put 4 0 0 1 1 7 255 => ok
wait 1 => ok
show 2 0 => ok
wait 1 => ok
drop 4 => ok
seek => ok
wait 5 => ok
loop 0 => ok
wait 9 => ok
next => ok
end => ok
play 400 => 10 20 7
frame 0 => 3 3 2 200 255 55 255 10 255 10 255 10 255 10 255
frame 1 => 2 3 2 10 255 50 255 10 255 200 255 55 255 10 255
frame 3 => 2 3 2 10 255 50 255 10 255 10 255 55 255 10 255
frame 6 => 4 3 2 10 255 50 255 10 255 10 255 10 255 10 255
frame 7 => 1 3 2 10 255 50 255 7 255 10 255 10 255 10 255
frame 8 => 1 3 2 10 255 10 255 7 255 10 255 10 255 10 255
frame 9 => 5 3 2 200 255 50 255 10 255 10 255 10 255 10 255
at 0 => 0
at 9 => 6
at 99 => -1
bytes => 364
play 400 => 10 20 7
play 5 => error 8
pict 7 1 1 0 0 => error 1
pict 1 1 1 256 0 => error 1
move 1 -0 0 => error 4
drop 9 => error 1
play 400 => 10 20 7
clear => ok
play 1 => error 3
head 1 1 => ok
end => ok
play 1 => 0 0 0
frame 0 => error 5
fly high => error 4
`)
}

// TestMany: L1: MaxLines, at its edge; no answers beside the error (Z1).
func TestMany(t *testing.T) {
	for _, n := range []int{0, 1, 59, 60} {
		got, err := console.Run(slices.Repeat([]string{"at 0"}, n))
		if err != nil || !slices.Equal(got, slices.Repeat([]string{"-1"}, n)) {
			t.Errorf("%d lines: %q, %v", n, got, err)
		}
	}
	if got, err := console.Run(nil); err != nil || len(got) > 0 {
		t.Errorf("no lines: %q, %v", got, err)
	}
	for _, n := range []int{61, 62, 100000} {
		if got, err := console.Run(slices.Repeat([]string{"save"}, n)); err != api.ErrMany || len(got) > 0 {
			t.Errorf("%d lines: %q, %v", n, got, err)
		}
	}
}

// TestSixty: L1: a book takes as many ops as there may be.
func TestSixty(t *testing.T) {
	got, err := console.Run(slices.Repeat([]string{"save"}, 60))
	if err != nil || !slices.Equal(got, slices.Repeat([]string{"ok"}, 60)) {
		t.Errorf("%q, %v", got, err)
	}
	lines := append(append([]string{"head 1 1"}, slices.Repeat([]string{"wait 1"}, 40)...), "end", "play 400")
	if got := last(t, lines...); got != "40 40 1" {
		t.Errorf("forty frames: %s", got)
	}
}

// TestBegin: L1: at the beginning there are neither ops nor frames.
func TestBegin(t *testing.T) {
	talk(t, "without ops", `
play 400 => error 3
bytes => error 3
frame 0 => error 5
at 0 => -1
clear => ok
play 0 => error 3
`)
}

// TestFrames: L1: which frames there are: those of the last play that went well, also behind clear.
func TestFrames(t *testing.T) {
	talk(t, "frames stay", `
head 2 1 => ok
back 9 255 => ok
wait 3 => ok
wait 0 => ok
wait 4 => ok
pict 1 1 1 5 255 => ok
wait 2 => ok
end => ok
frame 0 => error 5
play 8 => 4 9 2
frame 0 => 3 2 1 9 255 9 255
frame 1 => 0 2 1 9 255 9 255
frame 3 => 2 2 1 5 255 9 255
frame 4 => error 5
at 2 => 0
at 3 => 2
at 6 => 2
at 7 => 3
at 8 => 3
at 9 => -1
play 1 => error 8
frame 3 => 2 2 1 5 255 9 255
clear => ok
frame 3 => 2 2 1 5 255 9 255
at 7 => 3
play 8 => error 3
at 7 => 3
head 1 1 => ok
wait 1 => ok
at 7 => 3
end => ok
bytes => 30
at 7 => 3
play 8 => 1 1 1
at 7 => -1
frame 0 => 1 1 1 0 0
frame 1 => error 5
`)
}

// TestFuel: L1: play with just so much fuel, MaxFuel at most (I3).
func TestFuel(t *testing.T) {
	talk(t, "just enough", `
head 1 1 => ok
loop 2 => ok
save => ok
next => ok
end => ok
play 0 => error 8
play 5 => error 8
play 6 => 0 0 0
play 7 => 0 0 0
play 999 => 0 0 0
`)
	talk(t, "too long", `
head 1 1 => ok
loop 9 => ok
loop 9 => ok
loop 9 => ok
next => ok
next => ok
next => ok
end => ok
play 400 => error 8
play 999 => error 8
`)
}

// TestBook: L1: an op's line is the last one of the book, also behind play, bytes and errors.
func TestBook(t *testing.T) {
	talk(t, "it goes on", `
wait 1 => ok
play 9 => error 3
clear => ok
head 1 1 => ok
wait 5 => ok
play 9 => error 3
end => ok
play 9 => 1 5 1
end => ok
play 9 => error 3
bytes => error 3
clear => ok
head 1 1 => ok
wait 101 => error 1
wait x => error 4
end => ok
play 9 => 0 0 0
bytes => 20
wait 5 => ok
play 9 => error 3
`)
}

// TestErrors: L2: an error of each number that lines can tell.
func TestErrors(t *testing.T) {
	for want, lines := range map[string][]string{
		"error 1": {"wait 100"},
		"error 2": {"head 1 1", "loop 1", "loop 1", "loop 1", "loop 1", "next", "next", "next", "next", "end", "play 400"},
		"error 3": {"head 1 1", "next", "end", "play 400"},
		"error 4": {"wait 01"},
		"error 5": {"head 1 1", "move 1 0 0", "end", "play 400"},
		"error 7": {"head 1 1", "loop 9", "loop 5", "wait 1", "next", "next", "end", "play 400"},
		"error 8": {"head 1 1", "wait 1", "end", "play 1"},
	} {
		if got := last(t, lines...); got != want {
			t.Errorf("%q: %s, want %s", lines, got, want)
		}
	}
	if got := last(t, "pict 1 2 2 0 0"); got != "error 3" {
		t.Errorf("a picture with too few pixels: %s", got)
	}
	if got := last(t, "frame 0"); got != "error 5" {
		t.Errorf("no frames: %s", got)
	}
	if got := last(t, "head 1 1", "loop 1", "loop 1", "loop 1", "loop 1", "next", "next", "next", "next", "end", "bytes"); got != "error 2" {
		t.Errorf("bytes of loops that are too deep: %s", got)
	}
}

// TestWrong: L2: what is no line.
func TestWrong(t *testing.T) {
	for _, s := range []string{"", " ", "fly", "fly high", "play", "play ", "frame", "frame ", "at", "at ",
		" clear", "clear ", "clear 1", "Clear", "CLEAR", "clears", "clear\n", " bytes", "bytes ", "bytes 1", "bytess", "Bytes",
		"plays 1", "frames 0", "att 0", "Play 1", " play 1", "\tplay 1", "play\t1", "play1", "end ", "save 1", "ok", "error 4", "\xff\x00"} {
		if got := last(t, s); got != "error 4" {
			t.Errorf("%q: %s", s, got)
		}
	}
}

// TestNumbers: L1: what N is.
func TestNumbers(t *testing.T) {
	answers := map[string][]string{
		"play":  {"error 3", "error 4"},
		"frame": {"error 5", "error 4"},
		"at":    {"-1", "error 4"},
	}
	for word, want := range answers {
		for _, n := range []string{"0", "1", "9", "10", "400", "401", "999"} {
			if got := last(t, word+" "+n); got != want[0] {
				t.Errorf("%s %s: %s, want %s", word, n, got, want[0])
			}
		}
		for _, n := range []string{"", "1000", "-1", "-0", "-999", "00", "01", "+1", "1.0", "1e1", "0x1", "1_0", "x", " 1", "1 ", "1 1", "1\n",
			"٣", "18446744073709551616", "9223372036854775808"} {
			if got := last(t, word+" "+n); got != want[1] {
				t.Errorf("%s %q: %s, want %s", word, n, got, want[1])
			}
		}
	}
}

// long line of an op: sixteen pixels that are hard to pack, in so many bytes, from 74 to 106.
func long(size int) string {
	var b strings.Builder
	b.WriteString("pict 1 8 2")
	for i, digit := range "31415926535897932384626433832795" {
		b.WriteString(" ")
		if i < size-74 {
			b.WriteString("1")
		}
		b.WriteRune(digit)
	}
	return b.String()
}

// TestLong: L2: MaxLine, at its edge.
func TestLong(t *testing.T) {
	for size, want := range map[int]string{74: "ok", 79: "ok", 80: "ok", 81: "error 4", 82: "error 4", 100: "error 4"} {
		s := long(size)
		if _, err := script.Parse(s); err != nil || len(s) != size {
			t.Fatalf("%q: %d bytes, %v", s, len(s), err)
		}
		if got := last(t, s); got != want {
			t.Errorf("%d bytes: %s, want %s", size, got, want)
		}
	}
	// Bytes are counted, not letters, and of what has too many nothing else is told.
	tooBright := "pict 1 8 2" + strings.Repeat(" 256", 32)
	for _, s := range []string{strings.Repeat("x", 81), strings.Repeat("é", 41), strings.Repeat(" ", 81), tooBright, strings.Repeat("x", 1e6)} {
		if got := last(t, s); got != "error 4" {
			t.Errorf("%.90q: %s", s, got)
		}
	}
	talk(t, "a long line is in no book", "head 1 1 => ok\n"+long(81)+" => error 4\nend => ok\nbytes => 20")
}

// TestBytes: L1: how many bytes, and the book is as it was (W1).
func TestBytes(t *testing.T) {
	lines := []string{"head 3 2", "pict 2 2 1 7 0 9 255", "loop 3", "move 2 -1 1", "wait 4", "next", "drop 2", "end"}
	var l []api.Op
	for _, s := range lines {
		o, err := script.Parse(s)
		if err != nil {
			t.Fatal(err)
		}
		l = append(l, o)
	}
	s, err := book.Bytes(l)
	if err != nil {
		t.Fatal(err)
	}
	want := strconv.Itoa(len(s))
	got, err := console.Run(append(lines, "play 400", "bytes", "play 400", "bytes", "frame 2"))
	if err != nil || !slices.Equal(got[len(lines):], []string{"3 12 1", want, "3 12 1", want, "4 3 2 0 0 0 0 0 0 9 255 0 0 0 0"}) {
		t.Errorf("%q, %v, want %s bytes", got, err, want)
	}
}

// TestBytesMany: L1: of bytes that Parse doesn't take its error is told, and the book is as it was.
func TestBytesMany(t *testing.T) {
	numbers := strings.TrimPrefix(long(76), "pict 1 ")
	lines := []string{"head 8 2", "pict 1 " + numbers}
	lines = append(lines, slices.Repeat([]string{"put 1 0 0 " + numbers}, 53)...)
	lines = append(lines, "wait 5", "end", "bytes", "play 400", "frame 0")
	got := mustRun(t, lines)
	want := append(slices.Repeat([]string{"ok"}, 57), "error 2", "1 5 1", "5 "+numbers)
	if !slices.Equal(got, want) {
		t.Errorf("%q, want %q", got, want)
	}
}

// some line, most often one that isn't wrong.
func some(d *rand.Rand) string {
	n := func(most int) string { return strconv.Itoa(d.Intn(most)) }
	return []string{
		"head 2 2", "end", "end", "save", "seek", "next", "loop " + n(4), "wait " + n(5), "wait " + n(5), "back " + n(300) + " 255",
		"pict " + n(4) + " 1 1 " + n(256) + " 255", "pict 1 1 2 9 255 " + n(256) + " 128", "move " + n(3) + " " + n(3) + " 1",
		"copy 1 " + n(8), "drop " + n(3), "show 1 " + n(3), "clip 1 0 0 1 " + n(3), "add 1 0 0 1 1 5 5", "put 1 0 1 1 1 5 " + n(256),
		"clear", "bytes", "bytes", "play 400", "play " + n(20), "play 400", "frame " + n(4), "frame " + n(4), "at " + n(9), "at " + n(9),
		"", "fly", "play", "wait 01",
	}[d.Intn(33)]
}

// someLines: a book that most often can be played, and then anything.
func someLines(d *rand.Rand) []string {
	l := []string{"head 2 2", "pict 1 1 1 200 255"}
	for range d.Intn(8) {
		l = append(l, "wait "+strconv.Itoa(d.Intn(3)), "move 1 "+strconv.Itoa(d.Intn(3))+" 0")
	}
	l = append(l, "end")
	for range d.Intn(30) {
		l = append(l, some(d))
	}
	return l
}

// TestSessions: Z1: a line that is answered by an error changes nothing, so all
// others are answered as if it weren't there; nor does one that is asked again.
// Z2: what is answered hangs on what was ahead of it alone.
func TestSessions(t *testing.T) {
	d := rand.New(rand.NewSource(19))
	for range 500 {
		lines := someLines(d)
		got := mustRun(t, lines)
		if again := mustRun(t, lines); !slices.Equal(again, got) {
			t.Fatalf("%q: %q, then %q", lines, got, again)
		}
		k := d.Intn(len(lines))
		if ahead := mustRun(t, lines[:k]); !slices.Equal(ahead, got[:k]) {
			t.Fatalf("%q: %q, the first %d %q", lines, got, k, ahead)
		}
		var good, answers []string
		for i := range lines {
			if !strings.HasPrefix(got[i], "error ") {
				good, answers = append(good, lines[i]), append(answers, got[i])
			}
		}
		if alone := mustRun(t, good); !slices.Equal(alone, answers) {
			t.Fatalf("%q: %q, want %q", good, alone, answers)
		}
	}
}

// TestAnswers: L1, L2: each answer is ok, numbers with one blank between, or an error with its number.
func TestAnswers(t *testing.T) {
	d := rand.New(rand.NewSource(20))
	for range 500 {
		for _, s := range mustRun(t, someLines(d)) {
			if s == "ok" {
				continue
			}
			for _, word := range strings.Split(strings.TrimPrefix(s, "error "), " ") {
				if n, found := script.Number(word, -1, 9999); !found || strings.HasPrefix(s, "error ") && (n < 1 || n > 8) {
					t.Fatalf("the answer %q", s)
				}
			}
		}
	}
}

// TestWild: Z1: nothing panics, at any lines.
func TestWild(t *testing.T) {
	d := rand.New(rand.NewSource(21))
	for range 500 {
		var lines []string
		for range d.Intn(60) {
			s := []byte(some(d))
			for range d.Intn(3) {
				if len(s) > 0 {
					s[d.Intn(len(s))] = byte(d.Intn(256))
				}
			}
			lines = append(lines, string(s))
		}
		mustRun(t, lines)
	}
}

// TestLists: Z2: lines that are handed in aren't changed, nor is what stands behind them read, and what is answered is new.
func TestLists(t *testing.T) {
	room := []string{"head 1 1", "end", "play 9", "clear", "fly"}
	before := slices.Clone(room)
	first := mustRun(t, room[:3])
	if want := []string{"ok", "ok", "0 0 0"}; !slices.Equal(first, want) {
		t.Errorf("%q, want %q", first, want)
	}
	_ = append(first, "x")
	first[0] = "y"
	if !slices.Equal(room, before) {
		t.Errorf("the lines were changed: %q", room)
	}
	if again := mustRun(t, room[:3]); again[0] != "ok" {
		t.Errorf("answered again: %q", again)
	}
}
