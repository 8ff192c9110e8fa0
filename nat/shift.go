package nat

import "quipu/api"

// Shl: times 2^n.
func Shl(a []uint64, n int) ([]uint64, api.Errno) {
	if n < 0 || n > api.MaxShift {
		return nil, api.ErrNatShift
	}
	return trim(shiftUp(trim(a), n/limbBits, n%limbBits)), api.OK
}

// Shr: divided by 2^n.
func Shr(a []uint64, n int) ([]uint64, api.Errno) {
	if n < 0 {
		return nil, api.ErrNatShift
	}
	return shiftDown(trim(a), n/limbBits, n%limbBits), api.OK
}

// shiftUp answers one limb more than a and the whole limbs of the shift have, also where it is nought.
func shiftUp(a []uint64, limbs, bits int) []uint64 {
	up := make([]uint64, limbs+len(a)+1)
	for i, x := range a {
		up[limbs+i] |= x << bits
		up[limbs+i+1] = x >> (limbBits - bits)
	}
	return up
}

func shiftDown(a []uint64, limbs, bits int) []uint64 {
	if limbs >= len(a) {
		return nil
	}
	down := make([]uint64, len(a)-limbs)
	for i := range down {
		down[i] = a[limbs+i]>>bits | limb(a, limbs+i+1)<<(limbBits-bits)
	}
	return trim(down)
}
