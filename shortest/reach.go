package shortest

import (
	"strconv"

	"quipu/nat"
	"quipu/whole"
)

// reach is a float's amount, how far below and above it the reach goes, and whether the ends belong to it. All three are whole numbers, of one power of ten.
type reach struct {
	amount, below, above []uint64
	closed               bool
}

// reachOf answers a float's reach, and the power of ten of its numbers.
func (w width) reachOf(x, m uint64) (reach, int) {
	number, power := w.amount(x, m)
	// The way to the next float is one step of that power of 2, or half a one; midway is thus a whole number of quarters.
	quarter, exp := powerOfTwo(power - 2)
	half := nat.Mul(quarter, nat.Of(2))
	below := half
	if m == 0 && x > 1 {
		// The next lesser float has the next lesser power of 2, so it is nearer than the next greater one.
		below = quarter
	}
	amount := nat.Mul(quarter, nat.Of(number*4))
	return reach{amount: amount, below: below, above: half, closed: m%2 == 0}, exp
}

// fewest tells the nearest of the decimals in reach that have the fewest digits. Of all decimals with at most so many digits two are next to the amount: its first digits, and these with one more in the last place. If any of them is in reach, one of these two is, and the nearest is.
func (w width) fewest(x, m uint64) (string, int) {
	near, exp := w.reachOf(x, m)
	size := len(whole.Text(near.amount))
	unit, _ := whole.Pow10(size - 1)
	rest := near.amount
	var number uint64
	// This ends, behind the amount's last digit at the latest: then there is no rest, and the amount is in reach.
	for place := size - 1; ; place-- {
		var digit []uint64
		digit, rest, _ = nat.DivMod(rest, unit)
		next, _ := nat.Uint(digit)
		number = number*10 + next
		if picked, ok := near.pick(number, rest, unit); ok {
			return strconv.FormatUint(picked, 10), exp + place
		}
		unit, _, _ = nat.DivMod(unit, nat.Of(10))
	}
}

// pick answers, of the amount's first digits and the next number, the one that is in reach, and the nearer one if both are. The rest is what the amount has behind these digits, the unit what one in their last place counts.
func (r reach) pick(number uint64, rest, unit []uint64) (uint64, bool) {
	gap, _ := nat.Sub(unit, rest)
	down, up := r.holds(rest, r.below), r.holds(gap, r.above)
	if down && up {
		order := nat.Cmp(rest, gap)
		down = order < 0 || order == 0 && number%2 == 0
	}
	switch {
	case down:
		return number, true
	case up:
		return number + 1, true
	}
	return 0, false
}

// holds tells whether what is that far from the amount is in reach, which goes so far on that side.
func (r reach) holds(distance, far []uint64) bool {
	order := nat.Cmp(distance, far)
	return order < 0 || order == 0 && r.closed
}
