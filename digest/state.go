package digest

import "math/bits"

// state has the lane of x and y at the place x + 5y.
type state [25]uint64

var roundNumbers = [24]uint64{
	0x0000000000000001, 0x0000000000008082, 0x800000000000808a,
	0x8000000080008000, 0x000000000000808b, 0x0000000080000001,
	0x8000000080008081, 0x8000000000008009, 0x000000000000008a,
	0x0000000000000088, 0x0000000080008009, 0x000000008000000a,
	0x000000008000808b, 0x800000000000008b, 0x8000000000008089,
	0x8000000000008003, 0x8000000000008002, 0x8000000000000080,
	0x000000000000800a, 0x800000008000000a, 0x8000000080008081,
	0x8000000000008080, 0x0000000080000001, 0x8000000080008008,
}

// laneWalk: where the lanes go, one behind the other. Each goes where the next one stood; the last one goes to the place 1, where the first one stood. The lane 0 stays.
var laneWalk = [24]int{
	10, 7, 11, 17, 18, 3, 5, 16, 8, 21, 24, 4,
	15, 23, 19, 13, 12, 2, 20, 14, 22, 9, 6, 1,
}

// laneTurns: by how much each lane of the walk is turned.
var laneTurns = [24]int{
	1, 3, 6, 10, 15, 21, 28, 36, 45, 55, 2, 14,
	27, 41, 56, 8, 25, 43, 62, 18, 39, 61, 20, 44,
}

func (s *state) take(block []byte) {
	for i := range blockSize / 8 {
		s[i] ^= lane(block[8*i:])
	}
	for i := range roundNumbers {
		s.round(roundNumbers[i])
	}
}

// lane has no loop, and begins with the last byte: so the eight are read at once, where a loop would take a good part of a digest's time.
func lane(b []byte) uint64 {
	return uint64(b[7])<<56 | uint64(b[6])<<48 | uint64(b[5])<<40 | uint64(b[4])<<32 |
		uint64(b[3])<<24 | uint64(b[2])<<16 | uint64(b[1])<<8 | uint64(b[0])
}

func (s *state) round(number uint64) {
	s.mixColumns()
	s.moveLanes()
	s.mixRows()
	s[0] ^= number
}

// mixColumns writes the five places out, as mixRows does: a remainder for each of them would take most of a digest's time.
func (s *state) mixColumns() {
	var c [5]uint64
	for x := range c {
		c[x] = s[x] ^ s[x+5] ^ s[x+10] ^ s[x+15] ^ s[x+20]
	}
	d := [5]uint64{
		c[4] ^ bits.RotateLeft64(c[1], 1),
		c[0] ^ bits.RotateLeft64(c[2], 1),
		c[1] ^ bits.RotateLeft64(c[3], 1),
		c[2] ^ bits.RotateLeft64(c[4], 1),
		c[3] ^ bits.RotateLeft64(c[0], 1),
	}
	for x := range d {
		s[x] ^= d[x]
		s[x+5] ^= d[x]
		s[x+10] ^= d[x]
		s[x+15] ^= d[x]
		s[x+20] ^= d[x]
	}
}

// moveLanes needs no second state: each lane is taken up just ahead of the one that comes to its place.
func (s *state) moveLanes() {
	moved := s[1]
	for i := range laneWalk {
		to := laneWalk[i]
		next := s[to]
		s[to] = bits.RotateLeft64(moved, laneTurns[i])
		moved = next
	}
}

func (s *state) mixRows() {
	for y := 0; y < len(s); y += 5 {
		// What is mixed in are the lanes as they were, so all five are taken up first.
		a, b, c, d, e := s[y], s[y+1], s[y+2], s[y+3], s[y+4]
		s[y] = a ^ c&^b
		s[y+1] = b ^ d&^c
		s[y+2] = c ^ e&^d
		s[y+3] = d ^ a&^e
		s[y+4] = e ^ b&^a
	}
}

func (s *state) digest() []byte {
	out := make([]byte, digestSize)
	for i := range out {
		out[i] = byte(s[i/8] >> (i % 8 * 8))
	}
	return out
}
