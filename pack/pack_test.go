package pack_test

import (
	"math"
	"strings"
	"testing"

	"flickerbook/api"
	"flickerbook/pack"
)

// rows of a byte each, one behind the other, as Pack must tell them (A1).
func TestPack(t *testing.T) {
	x := func(n int) string { return strings.Repeat("x", n) }
	cases := []struct{ name, in, want string }{
		{"nothing", "", ""},
		{"one", "x", "\x01x"},
		{"two the same", "xx", "\x02x"},
		{"two others", "xy", "\x01x\x01y"},
		{"a byte that comes again", "xxyx", "\x02x\x01y\x01x"},
		{"noughts", "\x00\x00\x00", "\x03\x00"},
		{"a byte like its number", "\x01\x01\x02", "\x02\x01\x01\x02"},
		{"bytes that are no text", "\xff\xff\x80", "\x02\xff\x01\x80"},
		{"runes are bytes", "éé", "\x01\xc3\x01\xa9\x01\xc3\x01\xa9"},
		{"254", x(254), "\xfex"},
		{"255", x(255), "\xffx"},
		{"256", x(256), "\xffx\x01x"},
		{"510", x(510), "\xffx\xffx"},
		{"511 and another", x(511) + "y", "\xffx\xffx\x01x\x01y"},
		{"255 and another", x(255) + "y", "\xffx\x01y"},
	}
	for _, c := range cases {
		if got := pack.Pack(c.in); got != c.want {
			t.Errorf("%s: Pack(%.20q) = %q, want %q", c.name, c.in, got, c.want)
		}
	}
}

// TestUnpack: A2, at ordinary pairs, at the edges of most, and at what can't be read.
func TestUnpack(t *testing.T) {
	cases := []struct {
		name, in string
		most     int
		want     string
		err      error
	}{
		{"nothing", "", 0, "", nil},
		{"nothing, below nothing at most", "", -1, "", nil},
		{"one", "\x01x", 1, "x", nil},
		{"two rows", "\x02x\x01y", 3, "xxy", nil},
		{"noughts", "\x03\x00", 9, "\x00\x00\x00", nil},
		{"as Pack wouldn't", "\x01x\x01x\x02x", 4, "xxxx", nil},
		{"255", "\xffx", 255, strings.Repeat("x", 255), nil},
		{"any number at most", "\x01x\x01y", math.MaxInt, "xy", nil},
		{"odd", "x", 9, "", api.ErrText},
		{"odd behind a pair", "\x01xy", 9, "", api.ErrText},
		{"odd ahead of many", "\x09xy", 1, "", api.ErrText},
		{"a pair of no bytes", "\x00x", 9, "", api.ErrText},
		{"a pair of no bytes, none at most", "\x00x", 0, "", api.ErrText},
		{"a pair of no bytes, below none at most", "\x00x", math.MinInt, "", api.ErrText},
		{"a pair of no bytes behind", "\x01x\x00y", 9, "", api.ErrText},
		{"one too many", "\x02x", 1, "", api.ErrMany},
		{"one too many, together", "\x02x\x02y", 3, "", api.ErrMany},
		{"none at most", "\x01x", 0, "", api.ErrMany},
		{"below none at most", "\x01x", -1, "", api.ErrMany},
		{"far below none at most", "\x01x", math.MinInt, "", api.ErrMany},
		{"many ahead of no bytes", "\x02x\x00y", 1, "", api.ErrMany},
		{"no bytes ahead of many", "\x00y\x02x", 1, "", api.ErrText},
	}
	for _, c := range cases {
		got, err := pack.Unpack(c.in, c.most)
		if got != c.want || err != c.err {
			t.Errorf("%s: Unpack(%q, %d) = %q, %v, want %q, %v", c.name, c.in, c.most, got, err, c.want, c.err)
		}
	}
}

// A fault in the last pair is found, however much those ahead of it would unpack to (Z1).
func TestUnpackFindsLateFaults(t *testing.T) {
	s := strings.Repeat("\xffx", 1<<20)
	for _, c := range []struct {
		end  string
		most int
		err  error
	}{
		{"\x00x", math.MaxInt, api.ErrText},
		{"\x01x", 255 << 20, api.ErrMany},
	} {
		if got, err := pack.Unpack(s+c.end, c.most); got != "" || err != c.err {
			t.Errorf("Unpack(.. %q) = %d bytes, %v, want none, %v", c.end, len(got), err, c.err)
		}
	}
}

// What is packed is unpacked as it was (W1), with just as many bytes at most.
func TestPackAndUnpack(t *testing.T) {
	var texts []string
	for n := range 300 {
		texts = append(texts, strings.Repeat("\x00", n)+strings.Repeat("z", 599-2*n))
	}
	for b := range 256 {
		texts = append(texts, string([]byte{byte(b), byte(b), byte(b + 1), byte(b)}))
	}
	for _, s := range texts {
		p := pack.Pack(s)
		if got, err := pack.Unpack(p, len(s)); got != s || err != nil {
			t.Errorf("Unpack(Pack(%.20q), %d) = %.20q, %v", s, len(s), got, err)
		}
		if got, err := pack.Unpack(p, len(s)-1); got != "" || err != api.ErrMany {
			t.Errorf("Unpack(Pack(%.20q), %d) = %.20q, %v, want ErrMany", s, len(s)-1, got, err)
		}
	}
}
