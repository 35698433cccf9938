// Package word is layer 1: words of 16 bits as bytes: see shared/doc/01-word.md.
package word

import (
	"math/bits"

	"bilge/api"
)

// row is the bytes of the words that were put so far.
type row struct{ b []byte }

// put lays a word behind the others, its high byte first.
func (r *row) put(w uint16) { r.b = append(r.b, byte(w>>8), byte(w)) }

// each hands on the words, from the left.
func each(l []uint16, do func(uint16)) {
	for _, w := range l {
		do(w)
	}
}

// join is the word of its two bytes.
func join(high, low byte) uint16 { return uint16(high)<<8 | uint16(low) }

// Put tells words as bytes, the high one first.
func Put(l ...uint16) []byte {
	r := row{b: make([]byte, 0, 2*len(l))}
	each(l, r.put)
	return r.b
}

// Get tells the words that bytes are; ErrShort, where a word lacks its low byte.
func Get(b []byte) ([]uint16, api.Errno) {
	if len(b)%2 != 0 {
		return nil, api.ErrShort
	}
	l := make([]uint16, len(b)/2)
	for i := range l {
		l[i] = join(b[2*i], b[2*i+1])
	}
	return l, api.OK
}

// At tells the word at a place of bytes, if both of its bytes are there.
func At(b []byte, i int) (uint16, bool) {
	// The 1 is taken from the length, since i+1 leaves its type where i is the greatest int.
	if i < 0 || i >= len(b)-1 {
		return 0, false
	}
	return join(b[i], b[i+1]), true
}

// Low tells a word as bytes, the low one first.
func Low(w uint16) []byte { return []byte{byte(w), byte(w >> 8)} }

// Unlow tells the word of two bytes, the low one first; of fewer, or of more, there is none.
func Unlow(b []byte) (uint16, bool) {
	if len(b) != 2 {
		return 0, false
	}
	return join(b[1], b[0]), true
}

// Turn tells a word with its bits in the other order.
func Turn(w uint16) uint16 { return bits.Reverse16(w) }
