package nat

import (
	"bytes"
	"math/bits"
	"strconv"
)

// A piece is the digits that one limb holds for sure: the greatest number of 19 digits is below 2^64.
const (
	pieceDigits = 19
	pieceBase   = 10_000_000_000_000_000_000
	// 10^19 is above 2^63: so many bits fit a piece.
	pieceBits = 63
)

// levels answers how often one must be doubled to be at least n.
func levels(n int) int {
	if n <= 1 {
		return 0
	}
	return bits.Len(uint(n - 1))
}

// bases answers the bases of 1, 2, 4 .. pieces, so many of them.
func bases(count int) [][]uint64 {
	var list [][]uint64
	base := []uint64{pieceBase}
	for i := range count {
		if i > 0 {
			base = mul(base, base)
		}
		list = append(list, base)
	}
	return list
}

func digits(a []uint64) string {
	if len(a) == 0 {
		return "0"
	}
	count := levels((len(a)*limbBits + pieceBits - 1) / pieceBits)
	text := make([]byte, pieceDigits<<count)
	putDigits(text, a, bases(count))
	return string(bytes.TrimLeft(text, "0"))
}

// putDigits fills text with a's digits, noughts in front. text has room for two numbers below the last base. Cutting numbers in the middle keeps the divisions few and long, which is much faster than taking digits off the end.
func putDigits(text []byte, a []uint64, bases [][]uint64) {
	last := len(bases) - 1
	if last < 0 {
		putPiece(text, limbAt(a, 0))
		return
	}
	high, low := divMod(a, bases[last])
	cut := len(text) / 2
	putDigits(text[:cut], high, bases[:last])
	putDigits(text[cut:], low, bases[:last])
}

func putPiece(text []byte, w uint64) {
	s := strconv.FormatUint(w, 10)
	front := len(text) - len(s)
	for i := range front {
		text[i] = '0'
	}
	copy(text[front:], s)
}

// isNumber: is s the text of a number?
func isNumber(s string) bool {
	for i := range len(s) {
		if s[i] < '0' || s[i] > '9' {
			return false
		}
	}
	return s == "0" || s != "" && s[0] != '0'
}

func fromDigits(s string) []uint64 {
	count := levels((len(s) + pieceDigits - 1) / pieceDigits)
	return joinPieces(s, bases(count))
}

// joinPieces answers the number with the digits s, which is below the last base squared.
func joinPieces(s string, bases [][]uint64) []uint64 {
	last := len(bases) - 1
	if last < 0 {
		return fromWord(readPiece(s))
	}
	cut := max(len(s)-pieceDigits<<last, 0)
	high := joinPieces(s[:cut], bases[:last])
	low := joinPieces(s[cut:], bases[:last])
	return add(mul(high, bases[last]), low)
}

func readPiece(s string) uint64 {
	var w uint64
	for i := range len(s) {
		w = w*10 + uint64(s[i]-'0')
	}
	return w
}
