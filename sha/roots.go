package sha

import (
	"iter"
	"math/bits"
)

// rootsEnd is above each root that is asked for, in 2^-32: the greatest are those of 19, square, and of 311, cubic.
const rootsEnd = 8 << 32

// primes goes over the first n primes, with their places from 0 on.
func primes(n int) iter.Seq2[int, uint32] {
	return func(yield func(int, uint32) bool) {
		i := 0
		for p := uint32(2); i < n; p++ {
			if !isPrime(p) {
				continue
			}
			if !yield(i, p) {
				return
			}
			i++
		}
	}
}

// isPrime tells whether p, which is 2 or more, is a prime.
func isPrime(p uint32) bool {
	for d := uint32(2); d*d <= p; d++ {
		if p%d == 0 {
			return false
		}
	}
	return true
}

// squareRootBits answers the first 32 bits behind the point of the square root of the prime p.
func squareRootBits(p uint32) uint32 {
	return uint32(lastBelow(func(x uint64) bool {
		// A prime is no square: x is below the root where its square is below p.
		high, _ := bits.Mul64(x, x)
		return high < uint64(p)
	}))
}

// cubicRootBits answers the first 32 bits behind the point of the cubic root of the prime p.
func cubicRootBits(p uint32) uint32 {
	return uint32(lastBelow(func(x uint64) bool {
		// The cube of x is high 2^64 + some more, in 2^-96: x is below rootsEnd, so high does not run over.
		squareHigh, squareLow := bits.Mul64(x, x)
		high, _ := bits.Mul64(squareLow, x)
		high += squareHigh * x
		return high < uint64(p)<<32
	}))
}

// lastBelow answers the last number that is below a root, in 2^-32.
func lastBelow(below func(uint64) bool) uint64 {
	low, high := uint64(0), uint64(rootsEnd)
	halve := func() {
		middle := low + (high-low)/2
		if below(middle) {
			low = middle
		} else {
			high = middle
		}
	}
	for high-low > 1 {
		halve()
	}
	return low
}
