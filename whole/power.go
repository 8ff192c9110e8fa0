package whole

import (
	"math/bits"

	"quipu/api"
	"quipu/nat"
)

// Pow5: 5^n.
func Pow5(n int) ([]uint64, api.Errno) {
	if n < 0 || n > api.MaxPower {
		return nil, api.ErrWholePower
	}
	five := nat.Of(5)
	power := nat.Of(1)
	// Squares, by the bits of n from the highest on, take few products.
	for i := bits.Len(uint(n)) - 1; i >= 0; i-- {
		power = nat.Mul(power, power)
		if n>>i&1 == 1 {
			power = nat.Mul(power, five)
		}
	}
	return power, api.OK
}

// Pow10: 10^n.
func Pow10(n int) ([]uint64, api.Errno) {
	power, err := Pow5(n)
	if err != api.OK {
		return nil, err
	}
	return nat.Shl(power, n)
}
