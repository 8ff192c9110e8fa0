package round

import (
	"quipu/api"
	"quipu/decform"
	"quipu/nat"
	"quipu/whole"
)

// toMultiple answers d, rounded to the multiples of a unit that is above 0. Both amounts are counted in the lesser power of ten of the two, so the quotient tells the inner neighbour.
func toMultiple(d, unit api.Dec, mode roundingMode) (api.Dec, api.Errno) {
	if d.Digits == "" {
		return d, api.OK
	}
	exp := min(d.Exp, unit.Exp)
	divisor := counted(unit, exp)
	// No unit is 0, so this can't fail.
	count, left, _ := nat.DivMod(counted(d, exp), divisor)
	if len(left) == 0 {
		return d, api.OK
	}
	leaves := mode.leaves()
	if leaves(rest{neg: d.Neg, odd: isOdd(count), half: nat.Cmp(nat.Add(left, left), divisor)}) {
		count = nat.Add(count, nat.Of(1))
	}
	return decform.Finite(d.Neg, whole.Text(nat.Mul(count, digitsOf(unit))), unit.Exp)
}

// counted answers how many times 10^exp d's amount is; exp is not above its own. No number and no unit are so far apart that Pow10 would refuse the power between them.
func counted(d api.Dec, exp int) []uint64 {
	power, _ := whole.Pow10(d.Exp - exp)
	return nat.Mul(digitsOf(d), power)
}

// digitsOf takes what has digits, and no more of them than Parse takes.
func digitsOf(d api.Dec) []uint64 {
	number, _ := whole.Parse(d.Digits)
	return number
}

func isOdd(a []uint64) bool {
	return len(a) > 0 && a[0]%2 == 1
}
