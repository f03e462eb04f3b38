package tide

import "careen/api"

// Slope returns the form of the tide of the hours at which the line p i + r rises over a multiple of q.
func Slope(p, q, r int) (Tide, api.Errno) {
	if q < 1 || q > mostSlope || p < 0 || p > q || r < 0 || r >= q {
		return Tide{}, api.ErrArg
	}
	// q hours later the quotients are greater by p, all of them, so q hours are a round.
	marks := make([]byte, q)
	for i := range marks {
		marks[i] = mark((p*i+r)/q != (p*(i+1)+r)/q)
	}
	return formOf(marks, 0), api.OK
}
