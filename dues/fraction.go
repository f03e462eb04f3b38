package dues

// fraction is a fraction in lowest terms, or one of which this is to be found out.
type fraction struct{ top, under int64 }

// lowest is top / under; under is greater than 0.
func lowest(top, under int64) fraction {
	divisor, rest := under, max(top, -top)
	for rest != 0 {
		divisor, rest = rest, divisor%rest
	}
	return fraction{top / divisor, under / divisor}
}

func (f fraction) pair() [2]int64 {
	return [2]int64{f.top, f.under}
}
