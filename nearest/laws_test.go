package nearest_test

import (
	"cmp"
	"math/big"
	"slices"
	"testing"

	"quipu/api"
	"quipu/nearest"
)

// P4.3: a float that is told by its fewest digits, or by all of them, is read back as its bits.
func TestThereAndBack(t *testing.T) {
	for _, k := range kinds() {
		for _, bits := range append(k.floats(500), 0, k.infinity) {
			for _, neg := range []bool{false, true} {
				in := k.signed(bits, neg)
				for i, d := range []api.Dec{k.of(in), k.exact(in)} {
					if got, err := k.to(d); got != in || err != api.OK {
						t.Errorf("To%s of call %d of %x: %x, error %d", k.name, i, in, got, err)
					}
				}
			}
		}
	}
}

func TestNarrowOfWiden(t *testing.T) {
	for _, bits := range append(narrow().floats(3000), 0, 0x7f800000) {
		for _, neg := range []bool{false, true} {
			in := uint32(narrow().signed(bits, neg))
			if got := nearest.Narrow(nearest.Widen(in)); got != in {
				t.Errorf("%x: %x", in, got)
			}
		}
	}
	for _, bits := range []uint32{0x7f800001, 0x7fc00001, 0xffffffff} {
		if got := nearest.Narrow(nearest.Widen(bits)); got != 0x7fc00001 {
			t.Errorf("%x: %x", bits, got)
		}
	}
}

// signedAmount is the number of a finite Dec.
func signedAmount(d api.Dec) *big.Int {
	if d.Neg {
		return new(big.Int).Neg(amountOf(d))
	}
	return amountOf(d)
}

// someDecs: what is at and about floats and between them, at both ends of what may be, zeros, and others, with both signs.
func someDecs(k kind) []api.Dec {
	amounts := []*big.Int{tenTo(shift - api.MaxExp - 1), tenTo(shift), tenTo(shift + api.MaxExp - 1)}
	for _, bits := range few(k.floats(500), 200) {
		midway := k.midway(bits)
		little := nudge(midway)
		amounts = append(amounts, k.amount(bits), midway, new(big.Int).Sub(midway, little), new(big.Int).Add(midway, little))
	}
	var some []api.Dec
	for _, amount := range amounts {
		if d, ok := decOf(amount); ok {
			some = append(some, d)
		}
	}
	others := noise(3)
	for range 300 {
		size := 1 + others.below(api.MaxDigits)
		some = append(some, api.Dec{Digits: others.digits(size), Exp: others.below(2*api.MaxExp+1) - api.MaxExp - size})
	}
	some = append(some, api.Dec{})
	for _, d := range slices.Clone(some) {
		d.Neg = true
		some = append(some, d)
	}
	return some
}

// P4.3: of two Decs the greater one has no lesser float.
func TestOrder(t *testing.T) {
	for _, k := range kinds() {
		type pair struct {
			amount *big.Int
			float  float64
		}
		var row []pair
		for _, d := range someDecs(k) {
			bits, err := k.to(d)
			if err != api.OK {
				t.Fatalf("To%s of %v: error %d", k.name, d, err)
			}
			row = append(row, pair{signedAmount(d), k.float(bits)})
		}
		slices.SortFunc(row, func(a, b pair) int { return a.amount.Cmp(b.amount) })
		for i := range row[1:] {
			if cmp.Compare(row[i].float, row[i+1].float) > 0 {
				t.Errorf("To%s: %g ahead of %g", k.name, row[i].float, row[i+1].float)
			}
		}
	}
}

// P4.3: of all decimals of fewer digits than the float's fewest two are next to it, below and above; both have other floats.
func TestNoFewerDigits(t *testing.T) {
	for _, k := range kinds() {
		for _, bits := range few(k.floats(500), 1500) {
			amount, size := k.amount(bits), len(k.of(bits).Digits)
			if size == 1 {
				continue // without any digit there are zeros alone
			}
			unit := tenTo(len(amount.String()) - (size - 1))
			below := new(big.Int).Quo(amount, unit)
			below.Mul(below, unit)
			for _, other := range []*big.Int{below, new(big.Int).Add(below, unit)} {
				d, _ := decOf(other)
				if got, err := k.to(d); got == bits || err != api.OK {
					t.Errorf("To%s of %v: %x, error %d", k.name, d, got, err)
				}
			}
		}
	}
}
