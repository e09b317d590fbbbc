// Package chunk: named pieces of bytes, with a sum.
package chunk

import (
	"strings"

	"flickerbook/api"
)

const (
	nameBytes = 4
	headBytes = nameBytes + 2 // the name, and how many bytes of data
	sumBytes  = 2
	maxData   = 65535 // what two bytes can tell
	sumRound  = 251
)

// Chunk: a name of four letters, and its bytes.
type Chunk struct{ Name, Data string }

// Sum of bytes: two numbers below 251.
func Sum(s string) (a, b int) {
	a = 1
	for i := range len(s) {
		a = (a + int(s[i])) % sumRound
		b = (b + a) % sumRound
	}
	return a, b
}

// Name: may a chunk be called so? Four capital letters.
func Name(s string) bool {
	if len(s) != nameBytes {
		return false
	}
	for i := range len(s) {
		if s[i] < 'A' || s[i] > 'Z' {
			return false
		}
	}
	return true
}

// Bytes of a chunk: its name, how many bytes, these, and the sum of all.
func Bytes(c Chunk) (string, error) {
	if !Name(c.Name) {
		return "", api.ErrShape
	}
	n := len(c.Data)
	if n > maxData {
		return "", api.ErrMany
	}
	s := c.Name + pair(n%256, n/256) + c.Data
	return s + pair(Sum(s)), nil
}

// First chunk of bytes, and what is behind it.
func First(s string) (c Chunk, rest string, err error) {
	size, err := measure(s)
	if err != nil {
		return Chunk{}, "", err
	}
	return open(s[:size]), strings.Clone(s[size:]), nil
}

// All chunks of bytes, so many at most.
func All(s string, most int) ([]Chunk, error) {
	var l []Chunk
	for len(s) > 0 {
		if len(l) >= most {
			return nil, api.ErrMany
		}
		// Not First: it answers the rest anew, which would be copied once a chunk.
		size, err := measure(s)
		if err != nil {
			return nil, err
		}
		l = append(l, open(s[:size]))
		s = s[size:]
	}
	return l, nil
}

// pair of numbers below 256, a byte each.
func pair(a, b int) string {
	return string([]byte{byte(a), byte(b)})
}

// measure how many bytes the first chunk has in all, if it may be and isn't spoilt.
func measure(s string) (int, error) {
	if len(s) < headBytes+sumBytes || !Name(s[:nameBytes]) {
		return 0, api.ErrText
	}
	end := headBytes + int(s[nameBytes]) + 256*int(s[nameBytes+1])
	if len(s) < end+sumBytes {
		return 0, api.ErrText
	}
	if s[end:end+sumBytes] != pair(Sum(s[:end])) {
		return 0, api.ErrSum
	}
	return end + sumBytes, nil
}

// open the bytes of one chunk that was measured. Its texts are copied: a piece
// of s would share the caller's memory.
func open(s string) Chunk {
	return Chunk{
		Name: strings.Clone(s[:nameBytes]),
		Data: strings.Clone(s[headBytes : len(s)-sumBytes]),
	}
}
