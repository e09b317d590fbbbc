// Package picture: pictures, and their bytes.
package picture

import (
	"slices"

	"flickerbook/api"
	"flickerbook/pack"
)

const (
	ways       = 4 // in which a byte is guessed
	pixelBytes = 2 // V and A
	sideBytes  = 2 // W and H
)

// Check a picture.
func Check(p api.Picture) error {
	if !isSide(p.W) || !isSide(p.H) {
		return api.ErrBound
	}
	if len(p.P) != p.W*p.H {
		return api.ErrShape
	}
	for _, x := range p.P {
		if !isShade(x.V) || !isShade(x.A) {
			return api.ErrBound
		}
	}
	return nil
}

// Bytes of a picture: its sides, then, packed, row by row: the way that is packed shortest (the first one of several), and what is told.
func Bytes(p api.Picture) (string, error) {
	if err := Check(p); err != nil {
		return "", err
	}
	var rows, above []byte
	for y := range p.H {
		row := flatten(p.P[y*p.W : (y+1)*p.W])
		rows = append(rows, shortest(row, above)...)
		above = row
	}
	return string([]byte{byte(p.W), byte(p.H)}) + pack.Pack(string(rows)), nil
}

// Parse a picture.
func Parse(s string) (api.Picture, error) {
	if len(s) < sideBytes {
		return api.Picture{}, api.ErrText
	}
	w, h := int(s[0]), int(s[1])
	if !isSide(w) || !isSide(h) {
		return api.Picture{}, api.ErrBound
	}
	line := 1 + pixelBytes*w // the way, and the row
	rows, err := pack.Unpack(s[sideBytes:], h*line)
	if err != nil {
		return api.Picture{}, err
	}
	if len(rows) < h*line {
		return api.Picture{}, api.ErrText
	}
	p := api.Picture{W: w, H: h}
	var above []byte
	for y := range h {
		way, told := int(rows[y*line]), rows[y*line+1:(y+1)*line]
		if way >= ways {
			return api.Picture{}, api.ErrText
		}
		row := restore(way, told, above)
		p.P = appendPixels(p.P, row)
		above = row
	}
	return p, nil
}

// Own picture: the same one, its pixels not shared. What an answer holds must
// not change with what it was made of.
func Own(p api.Picture) api.Picture {
	p.P = slices.Clone(p.P)
	return p
}

func isSide(n int) bool { return n >= 1 && n <= api.MaxSide }

func isShade(n int) bool { return n >= 0 && n <= api.Top }

// flatten pixels that may be to the bytes of their row.
func flatten(l []api.Pixel) []byte {
	row := make([]byte, 0, pixelBytes*len(l))
	for i := range len(l) {
		row = append(row, byte(l[i].V), byte(l[i].A))
	}
	return row
}

// appendPixels of a row's bytes.
func appendPixels(l []api.Pixel, row []byte) []api.Pixel {
	for i := range len(row) / pixelBytes {
		l = append(l, api.Pixel{V: int(row[pixelBytes*i]), A: int(row[pixelBytes*i+1])})
	}
	return l
}

// guesser of a row's bytes in a way, place by place. It looks at the row only
// ahead of the place that is asked for, so a row that is just being restored
// is guessed as it was when it was told.
func guesser(way int, row, above []byte) func(i int) byte {
	left := func(i int) byte {
		if i < pixelBytes {
			return 0
		}
		return row[i-pixelBytes]
	}
	up := func(i int) byte {
		if i >= len(above) { // above the first row there is none
			return 0
		}
		return above[i]
	}
	switch way {
	case 1:
		return left
	case 2:
		return up
	case 3:
		// Added up as ints: the bytes would go round.
		return func(i int) byte { return byte((int(left(i)) + int(up(i))) / 2) }
	}
	return func(int) byte { return 0 }
}

// tell the bytes of a row in a way; bytes go round at 256 by themselves.
func tell(way int, row, above []byte) string {
	guess := guesser(way, row, above)
	told := make([]byte, len(row))
	for i := range len(row) {
		told[i] = row[i] - guess(i)
	}
	return string(told)
}

// restore the bytes of a row from what was told in a way.
func restore(way int, told string, above []byte) []byte {
	row := make([]byte, len(told))
	guess := guesser(way, row, above)
	for i := range len(told) {
		row[i] = told[i] + guess(i)
	}
	return row
}

// shortest of all ways to tell a row, the way's byte ahead. The lowest of
// several wins, as only fewer bytes take its place.
func shortest(row, above []byte) string {
	best, fewest := "", 0
	for way := range ways {
		told := tell(way, row, above)
		// The way's byte isn't packed along: it must not sway the choice.
		n := len(pack.Pack(told))
		if best == "" || n < fewest {
			best, fewest = string([]byte{byte(way)})+told, n
		}
	}
	return best
}
