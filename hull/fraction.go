package hull

type number interface{ int | int64 }

// fraction is one in lowest terms, its den greater than 0, so that equal ones are equal structs.
type fraction struct{ num, den int64 }

// fractionOf is num / den, where den must be greater than 0.
func fractionOf[T number](num, den T) fraction {
	g := gcd(num, den)
	return fraction{int64(num / g), int64(den / g)}
}

func whole(n int) fraction {
	return fraction{int64(n), 1}
}

func (f fraction) plus(g fraction) fraction {
	return fractionOf(f.num*g.den+g.num*f.den, f.den*g.den)
}

func (f fraction) less(g fraction) bool {
	return f.num*g.den < g.num*f.den
}

func (f fraction) within(low, high fraction) bool {
	return !f.less(low) && !high.less(f)
}

// gcd is the greatest number that divides both, which must not both be 0.
func gcd[T number](a, b T) T {
	for b != 0 {
		a, b = b, a%b
	}
	return max(a, -a)
}

func sum[T number](numbers ...T) T {
	var total T
	for _, n := range numbers {
		total += n
	}
	return total
}
