package console

import (
	"slices"
	"testing"

	"flickerbook/api"
)

// TestFull: L1: a book that is full takes no op more. No lines that Run takes
// are so many that they tell it, so it is asked of a session.
func TestFull(t *testing.T) {
	s := session{ops: slices.Repeat([]api.Op{{Kind: api.Save}}, api.MaxOps-1)}
	cases := []struct{ line, want string }{
		{"wait 5", "ok"},
		{"wait 6", "error 7"},
		{"end", "error 7"},
		{"wait 100", "error 1"}, // an op's line is first of all one that can be read
		{"wait x", "error 4"},
		{"play 1", "error 3"},
		{"clear", "ok"},
		{"wait 6", "ok"},
	}
	for i, c := range cases {
		if got := s.answer(c.line); got != c.want {
			t.Errorf("line %d, %s: %s, want %s", i, c.line, got, c.want)
		}
	}
	if len(s.ops) != 1 || s.ops[0].A != 6 {
		t.Errorf("the book is %v", s.ops)
	}
}

// TestErrorNumber: L2: each error's number.
func TestErrorNumber(t *testing.T) {
	for n := range 9 {
		if got := errorNumber(api.Errno(n)); got != n {
			t.Errorf("the number of error %d is %d", n, got)
		}
	}
}
