package impl

// MaxTerm is the largest numerator and denominator of a ratio.
const MaxTerm = 2000000

// MaxAmount is the largest absolute value of an amount.
const MaxAmount = 1000000000

// Ratio is a fraction.
type Ratio struct {
	Num int
	Den int
}

// MakeRatio returns a ratio in lowest terms.
func MakeRatio(num int, den int) (Ratio, bool) {
	r := Ratio{Num: num, Den: den}
	if !r.hasTerms() {
		return Ratio{}, false
	}
	return r.lowest(), true
}

// AddRatio returns the sum of two ratios.
func AddRatio(a Ratio, b Ratio) (Ratio, bool) {
	if !a.valid() || !b.valid() {
		return Ratio{}, false
	}
	return Ratio{Num: a.Num*b.Den + b.Num*a.Den, Den: a.Den * b.Den}.lowestValid()
}

// MulRatio returns the product of two ratios.
func MulRatio(a Ratio, b Ratio) (Ratio, bool) {
	if !a.valid() || !b.valid() {
		return Ratio{}, false
	}
	return Ratio{Num: a.Num * b.Num, Den: a.Den * b.Den}.lowestValid()
}

// CompareRatio compares two ratios.
func CompareRatio(a Ratio, b Ratio) int {
	if !a.valid() || !b.valid() {
		return 2
	}
	left, right := a.Num*b.Den, b.Num*a.Den
	switch {
	case left < right:
		return -1
	case left > right:
		return 1
	}
	return 0
}

// ShareOf returns an amount times a ratio.
func ShareOf(amount int, r Ratio) (int, bool) {
	if !validAmount(amount) || !r.valid() || !between(r.Num, 0, r.Den) {
		return 0, false
	}
	return roundedQuotient(amount*r.Num, r.Den), true
}

// validAmount reports whether a number is an amount.
func validAmount(n int) bool {
	return between(n, -MaxAmount, MaxAmount)
}

// hasTerms reports whether both terms are within their limits.
func (r Ratio) hasTerms() bool {
	return between(r.Num, -MaxTerm, MaxTerm) && between(r.Den, 1, MaxTerm)
}

// valid reports whether both terms are within their limits and have no common divisor.
func (r Ratio) valid() bool {
	return r.hasTerms() && commonDivisor(r.Num, r.Den) == 1
}

// lowest returns a ratio with a positive denominator in lowest terms.
func (r Ratio) lowest() Ratio {
	d := commonDivisor(r.Num, r.Den)
	return Ratio{Num: r.Num / d, Den: r.Den / d}
}

// lowestValid returns a ratio in lowest terms, if these are within their limits.
func (r Ratio) lowestValid() (Ratio, bool) {
	low := r.lowest()
	if !low.hasTerms() {
		return Ratio{}, false
	}
	return low, true
}

// commonDivisor returns the greatest common divisor of a number and a positive one.
func commonDivisor(a int, b int) int {
	a = absolute(a)
	for a > 0 {
		a, b = b%a, a
	}
	return b
}

// absolute returns the distance of a number from 0.
func absolute(n int) int {
	return max(n, -n)
}

// flooredQuotient returns a number divided by a positive one, rounded down.
func flooredQuotient(num int, den int) int {
	q := num / den
	if num%den < 0 {
		q--
	}
	return q
}

// ceiledQuotient returns a number divided by a positive one, rounded up.
func ceiledQuotient(num int, den int) int {
	return -flooredQuotient(-num, den)
}

// roundedQuotient returns a number divided by a positive one, rounded to the nearest number, halves up.
func roundedQuotient(num int, den int) int {
	return flooredQuotient(2*num+den, 2*den)
}
