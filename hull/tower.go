package hull

import "careen/api"

const (
	mostPlanks   = 12
	mostLeft     = 1000 // the left end of a plank is from -mostLeft to mostLeft
	mostLength   = 100
	mostHarmonic = 30
)

// CheckTower returns ErrTower if tower is not a tower, whether it stands or not.
func CheckTower(tower [][2]int) api.Errno {
	if len(tower) < 1 || len(tower) > mostPlanks {
		return api.ErrTower
	}
	for _, plank := range tower {
		left, length := plank[0], plank[1]
		if left < -mostLeft || left > mostLeft || length < 1 || length > mostLength {
			return api.ErrTower
		}
	}
	return api.OK
}

// Balance returns the middle of all planks from one on, in lowest terms.
func Balance(tower [][2]int, plank int) ([2]int, api.Errno) {
	if e := CheckTower(tower); e != api.OK {
		return [2]int{}, e
	}
	if plank < 0 || plank >= len(tower) {
		return [2]int{}, api.ErrArg
	}
	at := balance(tower[plank:])
	return [2]int{int(at.num), int(at.den)}, api.OK
}

// Stands returns 0 and true if the tower stands, or the first plank at which it does not.
func Stands(tower [][2]int) (int, bool, api.Errno) {
	if e := CheckTower(tower); e != api.OK {
		return 0, false, e
	}
	for plank := range tower {
		if !isHeld(tower, plank) {
			return plank, false, api.OK
		}
	}
	return 0, true, api.OK
}

// Reach returns the greatest right end of a plank.
func Reach(tower [][2]int) (int, api.Errno) {
	if e := CheckTower(tower); e != api.OK {
		return 0, e
	}
	reach := right(tower[0])
	for _, plank := range tower {
		reach = max(reach, right(plank))
	}
	return reach, api.OK
}

// Harmonic returns 1 + 1/2 + .. + 1/n, in lowest terms.
func Harmonic(n int) ([2]int64, api.Errno) {
	if n < 1 || n > mostHarmonic {
		return [2]int64{}, api.ErrArg
	}
	total := whole(0)
	for i := range n {
		total = total.plus(fractionOf(1, i+1))
	}
	return [2]int64{total.num, total.den}, api.OK
}

func right(plank [2]int) int {
	return plank[0] + plank[1]
}

// balance is the middle of all of the planks.
func balance(planks [][2]int) fraction {
	var weights, moments []int
	for _, plank := range planks {
		length := plank[1]
		weights = append(weights, length)
		moments = append(moments, length*(plank[0]+right(plank)))
	}
	// Both ends of a plank together are its centre twice.
	return fractionOf(sum(moments...), 2*sum(weights...))
}

// isHeld tells whether the balance at a plank is over what is below it.
func isHeld(tower [][2]int, plank int) bool {
	at := balance(tower[plank:])
	if plank == 0 {
		return !whole(0).less(at)
	}
	below := tower[plank-1]
	return at.within(whole(below[0]), whole(right(below)))
}
