package digest

import "testing"

// grid: lanes by x and y, so that a round can be written as the document words it.
type grid [5][5]uint64

func gridOf(s state) grid {
	var g grid
	for i, lane := range s {
		g[i%5][i/5] = lane
	}
	return g
}

func left(lane uint64, by int) uint64 {
	if by == 0 {
		return lane
	}
	return lane<<by | lane>>(64-by)
}

// wordedRound: a round of P1.2, step by step, without the package's tables.
func wordedRound(g grid, number uint64) grid {
	var mixed, moved, out grid
	for x := range 5 {
		for y := range 5 {
			mixed[x][y] = g[x][y]
			for k := range 5 {
				mixed[x][y] ^= g[(x+4)%5][k] ^ left(g[(x+1)%5][k], 1)
			}
		}
	}
	moved[0][0] = mixed[0][0]
	for t, x, y := 0, 1, 0; t < 24; t++ {
		toX, toY := y, (2*x+3*y)%5
		moved[toX][toY] = left(mixed[x][y], (t+1)*(t+2)/2%64)
		x, y = toX, toY
	}
	for x := range 5 {
		for y := range 5 {
			out[x][y] = moved[x][y] ^ (moved[(x+2)%5][y] & ^moved[(x+1)%5][y])
		}
	}
	out[0][0] ^= number
	return out
}

// wordedNumber: a round's number, from the shift register of FIPS 202 (algorithm 5), not from the table.
func wordedNumber(round int) uint64 {
	var number uint64
	for j := range 7 {
		register := 1
		for range (j + 7*round) % 255 {
			register <<= 1
			if register&0x100 != 0 {
				register ^= 0x171
			}
		}
		number |= uint64(register&1) << (1<<j - 1)
	}
	return number
}

// wordedSum: the digest by worded rounds, the bytes mixed in one by one.
func wordedSum(b []byte) []byte {
	padded := append(append([]byte{}, b...), 6)
	for len(padded)%136 != 0 {
		padded = append(padded, 0)
	}
	padded[len(padded)-1] += 128
	var g grid
	for i, c := range padded {
		at := i % 136
		g[at/8%5][at/40] ^= uint64(c) << (at % 8 * 8)
		if at == 135 {
			for r := range 24 {
				g = wordedRound(g, wordedNumber(r))
			}
		}
	}
	var out []byte
	for x := range 4 {
		for shift := 0; shift < 64; shift += 8 {
			out = append(out, byte(g[x][0]>>shift))
		}
	}
	return out
}

func drawnState(seed uint64) state {
	var s state
	for i := range s {
		seed = seed*6364136223846793005 + 1442695040888963407
		s[i] = seed ^ seed>>29
	}
	return s
}

// P1.2: the numbers of the rounds.
func TestRoundNumbers(t *testing.T) {
	for r, number := range roundNumbers {
		if want := wordedNumber(r); number != want {
			t.Errorf("round %d has the number %016x, want %016x", r, number, want)
		}
	}
}

// P1.2: from x 1 and y 0 on, each lane goes to y and 2x + 3y, and is turned by (t + 1)(t + 2) / 2 modulo 64.
func TestWhereLanesGo(t *testing.T) {
	x, y := 1, 0
	for i := range 24 {
		x, y = y, (2*x+3*y)%5
		if laneWalk[i] != x+5*y {
			t.Errorf("the lane %d of the walk goes to %d, want %d", i, laneWalk[i], x+5*y)
		}
		if want := (i + 1) * (i + 2) / 2 % 64; laneTurns[i] != want {
			t.Errorf("the lane %d of the walk is turned by %d, want %d", i, laneTurns[i], want)
		}
	}
}

// P1.2: a round, at states with one bit, with all bits, and at drawn ones.
func TestRound(t *testing.T) {
	states := []state{{}}
	var full state
	for i := range full {
		full[i] = ^uint64(0)
		for _, bit := range []int{0, 1, 31, 62, 63} {
			var one state
			one[i] = 1 << bit
			states = append(states, one)
		}
	}
	states = append(states, full)
	for seed := range uint64(200) {
		states = append(states, drawnState(seed))
	}
	for i, s := range states {
		for r, number := range roundNumbers {
			got := s
			got.round(number)
			if gridOf(got) != wordedRound(gridOf(s), number) {
				t.Fatalf("state %d, round %d: another state than the document asks for", i, r)
			}
		}
	}
}

// P1.2: 24 rounds of the state of noughts, as they are widely told.
func TestRoundsOfNoughts(t *testing.T) {
	var s state
	s.take(make([]byte, 136))
	want := state{
		0xf1258f7940e1dde7, 0x84d5ccf933c0478a, 0xd598261ea65aa9ee, 0xbd1547306f80494d, 0x8b284e056253d057,
		0xff97a42d7f8e6fd4, 0x90fee5a0a44647c4, 0x8c5bda0cd6192e76, 0xad30a6f71b19059c, 0x30935ab7d08ffc64,
		0xeb5aa93f2317d635, 0xa9a6e6260d712103, 0x81a57c16dbcf555f, 0x43b831cd0347c826, 0x01f22f1a11a5569f,
		0x05e5635a21d9ae61, 0x64befef28cc970f2, 0x613670957bc46611, 0xb87c5a554fd00ecb, 0x8c3ee88a1ccf32c8,
		0x940c7922ae3a2614, 0x1841f924a2c509e4, 0x16f53526e70465c2, 0x75f644e97f30a13b, 0xeaf1ff7b5ceca249,
	}
	if s != want {
		t.Errorf("%x, want %x", s, want)
	}
}
