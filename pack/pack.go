// Package pack: bytes that are the same in a row are told once.
package pack

import "flickerbook/api"

// longest row that one pair can tell: how many is a single byte.
const longest = 255

// Pack bytes: how often, and which, pair by pair; 255 at most.
func Pack(s string) string {
	var out []byte
	for i := range len(s) {
		last := len(out) - 2
		if last >= 0 && out[last+1] == s[i] && out[last] < longest {
			out[last]++
		} else {
			out = append(out, 1, s[i])
		}
	}
	return string(out)
}

// Unpack bytes: so many at most.
func Unpack(s string, most int) (string, error) {
	total, err := size(s, most)
	if err != nil {
		return "", err
	}
	out := make([]byte, 0, total)
	for i := range len(s) / 2 {
		for range int(s[2*i]) {
			out = append(out, s[2*i+1])
		}
	}
	return string(out), nil
}

// size of what is packed. All pairs are looked at before any is unpacked, so
// that what can't be answered takes no memory.
func size(s string, most int) (int, error) {
	if len(s)%2 != 0 {
		return 0, api.ErrText
	}
	total := 0
	for i := range len(s) / 2 {
		n := int(s[2*i])
		if n == 0 {
			return 0, api.ErrText
		}
		// Not total+n > most: that sum could go round, this difference can't.
		if n > most-total {
			return 0, api.ErrMany
		}
		total += n
	}
	return total, nil
}
