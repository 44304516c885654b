package nat_test

import (
	"encoding/binary"
	"math/big"
	"slices"
)

const top = 1<<64 - 1

// toBig: the number of these limbs, by the library's own reckoning, against which nat is held.
func toBig(a []uint64) *big.Int {
	var bytes []byte
	for _, w := range slices.Backward(a) {
		bytes = binary.BigEndian.AppendUint64(bytes, w)
	}
	return new(big.Int).SetBytes(bytes)
}

// fromBig: the limbs in form of a number that is not below 0.
func fromBig(n *big.Int) []uint64 {
	var a []uint64
	n = new(big.Int).Set(n)
	for n.Sign() != 0 {
		low := new(big.Int).And(n, new(big.Int).SetUint64(top))
		a = append(a, low.Uint64())
		n.Rsh(n, 64)
	}
	return a
}

// numbers makes the same numbers in each run.
type numbers struct{ state uint64 }

func (s *numbers) next() uint64 {
	s.state ^= s.state << 13
	s.state ^= s.state >> 7
	s.state ^= s.state << 17
	return s.state
}

func (s *numbers) below(n int) int { return int(s.next() % uint64(n)) }

// limb: often one of those at which carries, borrows and guessed quotients go wrong.
func (s *numbers) limb() uint64 {
	edges := []uint64{0, 0, 1, 2, 1 << 63, 1<<63 - 1, 1<<63 + 1, top, top, top - 1, 1 << 32, 1<<32 - 1}
	if s.below(2) == 0 {
		return edges[s.below(len(edges))]
	}
	return s.next() >> s.below(64)
}

// list: n limbs, or less where that is the form.
func (s *numbers) list(n int) []uint64 {
	a := make([]uint64, n)
	for i := range a {
		a[i] = s.limb()
	}
	for len(a) > 0 && a[len(a)-1] == 0 {
		a = a[:len(a)-1]
	}
	return a
}

// edgeLists: 0, 1, the neighbours of 2^64 and of 2^128, and the like.
func edgeLists() [][]uint64 {
	return [][]uint64{nil, {}, {1}, {2}, {3}, {10}, {1 << 63}, {1<<63 - 1}, {top - 1}, {top}, {0, 1}, {1, 1}, {top, 1}, {0, 2}, {top, top}, {0, 0, 1}, {1, 0, 1}, {1, 0, 1 << 63}, {0, 0, 1 << 63, 1<<63 - 1}, {3, 0, 1 << 63}, {1, 0, 1 << 61}, {0, top - 1, 1 << 63}, {top, 1 << 63}, {top, top, top}, {0, 0, 0, 1}}
}

// pairs: all pairs of edges, many of short lists, and some of long ones.
func pairs() [][2][]uint64 {
	var out [][2][]uint64
	for _, a := range edgeLists() {
		for _, b := range edgeLists() {
			out = append(out, [2][]uint64{a, b})
		}
	}
	s := &numbers{1}
	for range 6000 {
		out = append(out, [2][]uint64{s.list(s.below(9)), s.list(s.below(6))})
	}
	for range 400 {
		out = append(out, [2][]uint64{s.list(s.below(60)), s.list(s.below(60))})
	}
	for range 60 {
		out = append(out, [2][]uint64{s.list(s.below(500)), s.list(s.below(300))})
	}
	for _, n := range []int{39, 40, 41, 79, 80, 81, 82, 160, 161, 400} {
		for _, k := range []int{39, 40, 41, 80, 81, 199, 200, 201} {
			out = append(out, [2][]uint64{filled(n), filled(k)}, [2][]uint64{s.list(n), s.list(k)})
		}
	}
	return out
}

// filled: n limbs with all bits set.
func filled(n int) []uint64 {
	return slices.Repeat([]uint64{top}, n)
}
