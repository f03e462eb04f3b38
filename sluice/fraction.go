package sluice

// fraction is a fraction in lowest terms.
type fraction struct{ top, under int64 }

// lowest is top / under; top is at least 0, and under greater than 0.
func lowest[T int | int64](top, under T) fraction {
	divisor, rest := top, under
	for rest != 0 {
		divisor, rest = rest, divisor%rest
	}
	return fraction{int64(top / divisor), int64(under / divisor)}
}

func pairs(fractions []fraction) [][2]int64 {
	var list [][2]int64
	for _, f := range fractions {
		list = append(list, [2]int64{f.top, f.under})
	}
	return list
}
