package current

import (
	"cmp"
	"math/bits"

	"tramline/api"
)

// frac returns a quotient as a fraction; the divisor is positive.
func frac(over, under int) api.Frac {
	a, b := max(over, -over), under
	for b != 0 {
		a, b = b, a%b
	}
	return api.Frac{Num: over / a, Den: under / a}
}

// compare compares two quotients that are not negative.
func compare(over, under, over2, under2 int) int {
	high, low := bits.Mul64(uint64(over), uint64(under2))
	high2, low2 := bits.Mul64(uint64(over2), uint64(under))
	return cmp.Or(cmp.Compare(high, high2), cmp.Compare(low, low2))
}
