// Package cash is sums of money: see DOC.md, chapter 1.
package cash

import (
	"math"
	"math/bits"
)

// whole is what a cut is a part of.
const whole = 10000

// Add is a sum.
func Add(a, b int64) (int64, bool) {
	return Sum(a, b)
}

// Sum is the sum of all.
func Sum(l ...int64) (int64, bool) {
	// Two words, as one number of 128 bits: no list is long enough to leave it, so what is too great on the way alone does no harm.
	var high, low uint64
	for _, n := range l {
		var carry uint64
		low, carry = bits.Add64(low, uint64(n), 0)
		high, _ = bits.Add64(high, signWord(n), carry)
	}
	sum := int64(low)
	if high != signWord(sum) {
		return 0, false
	}
	return sum, true
}

// signWord is the word above that of n, where n is written with 128 bits.
func signWord(n int64) uint64 {
	if n < 0 {
		return math.MaxUint64
	}
	return 0
}

// Less is a number, cut.
func Less(n int64, cut int64) (int64, bool) {
	return Worth(n, 1, cut)
}

// Worth is what so many are worth.
func Worth(price, many, cut int64) (int64, bool) {
	if price < 0 || many < 0 || cut < 0 || cut > whole {
		return 0, false
	}
	high, low := bits.Mul64(uint64(price), uint64(many))
	return share(high, low, uint64(whole-cut))
}

// share is the number of the two words, times rate, by whole, rounded down, if an int64 holds it; rate is at most whole.
func share(high, low, rate uint64) (int64, bool) {
	if rate == 0 {
		return 0, true
	}
	// From here on the share is at least the quotient by whole: where two words are needed for that, it is too great.
	if high >= whole {
		return 0, false
	}
	// Divided ahead of being multiplied, because the product may need more than two words.
	times, rest := bits.Div64(high, low, whole)
	over, most := bits.Mul64(times, rate)
	sum, carry := bits.Add64(most, rest*rate/whole, 0)
	if over != 0 || carry != 0 || sum > math.MaxInt64 {
		return 0, false
	}
	return int64(sum), true
}
