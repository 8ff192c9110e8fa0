package nearest_test

import (
	"math"
	"math/big"
	"slices"
	"strings"

	"quipu/api"
	"quipu/nearest"
	"quipu/shortest"
)

// kind is a width of floats: its calls, the bits of its infinity and its NaN, the sign's bit, what the exponent field counts by, and how far below 1 the least float is, in powers of 2.
type kind struct {
	name          string
	to            func(api.Dec) (uint64, api.Errno)
	of, exact     func(uint64) api.Dec
	float         func(uint64) float64
	size          int
	infinity, nan uint64
	sign, step    uint64
	least         uint
}

func wide() kind {
	return kind{
		name: "64", to: nearest.To64, of: shortest.Of64, exact: shortest.Exact64, float: math.Float64frombits, size: 64,
		infinity: 0x7ff0000000000000, nan: 0x7ff8000000000001, sign: 1 << 63, step: 1 << 52, least: 1074,
	}
}

func narrow() kind {
	return kind{
		name: "32",
		to: func(d api.Dec) (uint64, api.Errno) {
			bits, err := nearest.To32(d)
			return uint64(bits), err
		},
		of:    func(bits uint64) api.Dec { return shortest.Of32(uint32(bits)) },
		exact: func(bits uint64) api.Dec { return shortest.Exact32(uint32(bits)) },
		float: func(bits uint64) float64 { return float64(math.Float32frombits(uint32(bits))) },
		size:  32,

		infinity: 0x7f800000, nan: 0x7fc00001, sign: 1 << 31, step: 1 << 23, least: 149,
	}
}

func kinds() []kind { return []kind{wide(), narrow()} }

func (k kind) signed(bits uint64, neg bool) uint64 {
	if neg {
		return bits | k.sign
	}
	return bits
}

// noise goes through numbers that have no order, the same at every run.
type noise uint64

func (n *noise) next() uint64 {
	*n = *n*6364136223846793005 + 1442695040888963407
	return uint64(*n ^ *n>>31)
}

func (n *noise) below(end int) int { return int(n.next() % uint64(end)) }

// digits answers so many, neither the first nor the last of which is a 0.
func (n *noise) digits(size int) string {
	row := make([]byte, size)
	for i := range row {
		row[i] = byte('0' + n.below(10))
	}
	row[0], row[size-1] = byte('1'+n.below(9)), byte('1'+n.below(9))
	return string(row)
}

// floats: finite floats above zero, rising: the least and the greatest ones, some of every exponent field, and others.
func (k kind) floats(others int) []uint64 {
	var all []uint64
	for bits := uint64(1); bits < 40; bits++ {
		all = append(all, bits, k.infinity-bits)
	}
	for x := range k.infinity / k.step {
		all = append(all, x*k.step, x*k.step+1, x*k.step+k.step/2, x*k.step+k.step-2, x*k.step+k.step-1)
	}
	other := noise(k.infinity)
	for range others {
		all = append(all, other.next()%k.infinity)
	}
	slices.Sort(all)
	return slices.Compact(all)[1:]
}

// few: so many of some floats, evenly picked, the first and the last ones among them.
func few(all []uint64, many int) []uint64 {
	if len(all) <= 2*many {
		return all
	}
	picked := slices.Clone(all[:many/4])
	for i := range many / 2 {
		picked = append(picked, all[i*len(all)/(many/2)])
	}
	return append(picked, all[len(all)-many/4:]...)
}

// shift makes whole numbers of the amounts of all floats and all Decs: they are told times 10^shift.
const shift = 3000

func tenTo(n int) *big.Int {
	return new(big.Int).Exp(big.NewInt(10), big.NewInt(int64(n)), nil)
}

// amount goes by the fields; the infinity's is what would come behind the greatest float.
func (k kind) amount(bits uint64) *big.Int {
	x, m := bits/k.step, bits%k.step
	if x > 0 {
		x, m = x-1, k.step+m
	}
	number := new(big.Int).SetUint64(m)
	number.Lsh(number, uint(x)).Mul(number, tenTo(shift))
	return number.Rsh(number, k.least)
}

func amountOf(d api.Dec) *big.Int {
	number, _ := new(big.Int).SetString("0"+d.Digits, 10)
	return number.Mul(number, tenTo(d.Exp+shift))
}

// decOf answers the Dec of an amount, if it has no more digits than may be.
func decOf(amount *big.Int) (api.Dec, bool) {
	digits := amount.String()
	short := strings.TrimRight(digits, "0")
	d := api.Dec{Digits: short, Exp: len(digits) - len(short) - shift}
	return d, short != "" && len(short) <= api.MaxDigits
}

// midway answers what is midway between a float and the next one.
func (k kind) midway(bits uint64) *big.Int {
	sum := new(big.Int).Add(k.amount(bits), k.amount(bits+1))
	return sum.Rsh(sum, 1)
}

// nearest answers, by the words of the chapter, the bits of what is nearest to an amount: it halves the row of all floats till two are left, and holds both against the amount.
func (k kind) nearest(amount *big.Int) uint64 {
	low, high := uint64(0), k.infinity
	if amount.Cmp(k.amount(high)) >= 0 {
		return k.infinity
	}
	for high-low > 1 {
		half := (low + high) / 2
		if k.amount(half).Cmp(amount) <= 0 {
			low = half
		} else {
			high = half
		}
	}
	up, down := new(big.Int).Sub(k.amount(high), amount), new(big.Int).Sub(amount, k.amount(low))
	switch order := up.Cmp(down); {
	case order < 0, order == 0 && high == k.infinity, order == 0 && high%2 == 0:
		return high
	}
	return low
}
