package notation

import (
	"quipu/api"
	"quipu/dec"
	"quipu/width"
)

func hasMagnitude(x api.Dec) bool {
	return x.Class == api.Finite && x.Digits != ""
}

// magnitude takes a number that has one.
func magnitude(x api.Dec) int {
	return dec.Place(x) - 1
}

// multipleBelow answers the greatest multiple of by that is not above n, which may be below 0.
func multipleBelow(n, by int) int {
	return n - (n%by+by)%by
}

// showBy shows x by a power. Far from 1 there may be no such number, where a step has rounded a small one up to a great one.
func showBy(x api.Dec, power int, p api.Precision) (api.Shown, api.Errno) {
	scaled, err := dec.Scale(x, -power)
	if err != api.OK {
		return api.Shown{}, err
	}
	return width.Show(scaled, p)
}

// reached answers the magnitude to which rounding has carried x, of which y is shown by a power; that of x, if it has not.
func reached(x api.Dec, y api.Shown, power int) int {
	// What is asked is the number that the digits show: with IntMax it is another one than x was rounded to. Value refuses nothing that Show tells.
	shown, _ := width.Value(y)
	if !hasMagnitude(shown) {
		return magnitude(x)
	}
	return max(magnitude(x), magnitude(shown)+power)
}
