package nearest

import (
	"quipu/api"
	"quipu/decform"
)

// width is what is unlike for the two widths: how many bits the fields m and x have, and the power of 2 that m counts where x is 0.
type width struct {
	fieldBits, exponentBits int
	least                   int
}

func binary64() width { return width{fieldBits: 52, exponentBits: 11, least: -1074} }

func binary32() width { return width{fieldBits: 23, exponentBits: 8, least: -149} }

// float answers the bits of the float of a Dec, by its class and sign.
func (w width) float(d api.Dec) (uint64, api.Errno) {
	if !decform.May(d) {
		return 0, api.ErrNearestForm
	}
	var bits uint64
	switch {
	case d.Class == api.NaN:
		return w.noNumber(), api.OK
	case d.Class == api.Inf:
		bits = w.infinity()
	case d.Digits != "":
		bits = w.fractionOf(d).nearest()
	}
	if d.Neg {
		bits |= w.sign()
	}
	return bits, api.OK
}

func (w width) sign() uint64 { return 1 << (w.exponentBits + w.fieldBits) }

func (w width) infinity() uint64 { return w.sign() - 1<<w.fieldBits }

// noNumber: of the many NaNs the one whose field m has its highest and its lowest bit set.
func (w width) noNumber() uint64 { return w.infinity() + 1<<(w.fieldBits-1) + 1 }

// join answers the bits of number times 2^power. Unless the power is the least, the number's highest bit is that ahead of the field m, so it counts one more in the field x; thus a number of one bit more, to which rounding may lead, is the next power of 2, or the infinity.
func (w width) join(number uint64, power int) uint64 {
	steps := power - w.least
	if steps >= 1<<w.exponentBits {
		return w.infinity()
	}
	return min(uint64(steps)<<w.fieldBits+number, w.infinity())
}
