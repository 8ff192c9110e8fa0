package shortest_test

import (
	"math"
	"math/big"
	"strings"

	"quipu/api"
	"quipu/shortest"
)

// kind is a width of floats: its two calls, the bits of its infinity, the sign's bit, and what the exponent field counts by.
type kind struct {
	name           string
	of, exact      func(uint64) api.Dec
	float          func(uint64) float64
	infinity       uint64
	sign, step     uint64
	longOf, longEx int
}

func kinds() []kind {
	return []kind{
		{
			name: "64", of: shortest.Of64, exact: shortest.Exact64, float: math.Float64frombits,
			infinity: 0x7ff0000000000000, sign: 1 << 63, step: 1 << 52, longOf: 17, longEx: 767,
		},
		{
			name:  "32",
			of:    func(bits uint64) api.Dec { return shortest.Of32(uint32(bits)) },
			exact: func(bits uint64) api.Dec { return shortest.Exact32(uint32(bits)) },
			float: func(bits uint64) float64 { return float64(math.Float32frombits(uint32(bits))) },

			infinity: 0x7f800000, sign: 1 << 31, step: 1 << 23, longOf: 9, longEx: 112,
		},
	}
}

func (k kind) signed(bits uint64, neg bool) uint64 {
	if neg {
		return bits | k.sign
	}
	return bits
}

// fields: some values of the field m, its ends among them.
func (k kind) fields() []uint64 {
	last := k.step - 1
	return []uint64{0, 1, 2, 3, k.step/2 - 1, k.step / 2, k.step/2 + 1, last / 3, last - 1, last}
}

// floats: finite floats above zero, rising, the same at every run: with every exponent field, with every sort of field m, the least and the greatest ones, and others.
func (k kind) floats(others int) []uint64 {
	var all []uint64
	for bits := uint64(1); bits < 300; bits++ {
		all = append(all, bits, k.infinity-bits)
	}
	exponents := k.infinity / k.step
	for x := range exponents {
		all = append(all, x*k.step, x*k.step+1, x*k.step+k.step-1)
		if x < 4 || x%37 == 0 || x > exponents-4 {
			for _, m := range k.fields() {
				all = append(all, x*k.step+m)
			}
		}
	}
	state := k.infinity
	for range others {
		state = state*6364136223846793005 + 1442695040888963407
		all = append(all, (state^state>>31)%k.infinity)
	}
	return rising(all)
}

// shift makes whole numbers of all amounts, and of what is midway between two: they are told times 10^shift.
const shift = 1100

func tenTo(n int) *big.Int {
	return new(big.Int).Exp(big.NewInt(10), big.NewInt(int64(n)), nil)
}

// amount goes by the float itself; the infinity's is what would come behind the greatest float.
func (k kind) amount(bits uint64) *big.Int {
	if bits == k.infinity {
		return new(big.Int).Lsh(k.amount(bits-k.step), 1)
	}
	exact := new(big.Rat).SetFloat64(k.float(bits))
	number := new(big.Int).Mul(exact.Num(), tenTo(shift))
	return number.Quo(number, exact.Denom())
}

// decade answers n for what is 10^n at least, and below 10^(n+1).
func decade(amount *big.Int) int {
	return len(amount.String()) - 1 - shift
}

func amountOf(d api.Dec) *big.Int {
	number, _ := new(big.Int).SetString("0"+d.Digits, 10)
	return number.Mul(number, tenTo(d.Exp+shift))
}

// reach is a float's reach by the words of the chapter: its ends, its amount between them, and whether the ends belong to it.
type reach struct {
	low, amount, high *big.Int
	closed            bool
}

func (k kind) reach(bits uint64) reach {
	amount := k.amount(bits)
	midway := func(next uint64) *big.Int {
		sum := new(big.Int).Add(amount, k.amount(next))
		return sum.Rsh(sum, 1)
	}
	return reach{midway(bits - 1), amount, midway(bits + 1), bits%2 == 0}
}

func (r reach) holds(amount *big.Int) bool {
	low, high := amount.Cmp(r.low), amount.Cmp(r.high)
	return low > 0 && high < 0 || r.closed && (low == 0 || high == 0)
}

// shortestOnes answers all decimals in reach that have the fewest digits: it looks at every decimal of one digit there, then of two, and so on.
func (r reach) shortestOnes() []api.Dec {
	first, last := decade(r.low), decade(r.high)
	for size := 1; ; size++ {
		var found []api.Dec
		for ten := first; ten <= last; ten++ {
			found = append(found, r.decimals(size, ten-size+1)...)
		}
		if len(found) > 0 {
			return found
		}
	}
}

// decimals answers those in reach that have so many digits and that exponent.
func (r reach) decimals(size, exp int) []api.Dec {
	var found []api.Dec
	unit := tenTo(exp + shift)
	number, last := new(big.Int).Quo(r.low, unit), new(big.Int).Quo(r.high, unit)
	for ; number.Cmp(last) <= 0; number.Add(number, big.NewInt(1)) {
		digits := number.String()
		if len(digits) == size && digits[size-1] != '0' && r.holds(new(big.Int).Mul(number, unit)) {
			found = append(found, api.Dec{Digits: digits, Exp: exp})
		}
	}
	return found
}

// nearest answers those that are nearest to the amount, of which there are two at most.
func (r reach) nearest(some []api.Dec) []api.Dec {
	var best []api.Dec
	var least *big.Int
	for _, d := range some {
		distance := amountOf(d)
		distance.Sub(distance, r.amount).Abs(distance)
		if least == nil || distance.Cmp(least) < 0 {
			best, least = nil, distance
		}
		if distance.Cmp(least) == 0 {
			best = append(best, d)
		}
	}
	return best
}

// fewest answers what P3.3 asks of a float above zero.
func (k kind) fewest(bits uint64) api.Dec {
	near := k.reach(bits)
	best := near.nearest(near.shortestOnes())
	for _, d := range best {
		if strings.ContainsAny(d.Digits[len(d.Digits)-1:], "02468") {
			return d
		}
	}
	return best[0]
}

// exactly answers the Dec of a float above zero by another arithmetic.
func (k kind) exactly(bits uint64) api.Dec {
	digits := k.amount(bits).String()
	short := strings.TrimRight(digits, "0")
	return api.Dec{Digits: short, Exp: len(digits) - len(short) - shift}
}
