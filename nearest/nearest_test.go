package nearest_test

import (
	"math"
	"math/big"
	"strconv"
	"strings"
	"testing"

	"quipu/api"
)

// row is a finite Dec, and the bits that are asked of it.
type row struct {
	digits string
	exp    int
	bits   uint64
}

// check holds a width's call against rows, each with both signs.
func (k kind) check(t *testing.T, rows ...row) {
	t.Helper()
	for _, r := range rows {
		for _, neg := range []bool{false, true} {
			d := api.Dec{Class: api.Finite, Neg: neg, Digits: r.digits, Exp: r.exp}
			want := k.signed(r.bits, neg)
			if got, err := k.to(d); got != want || err != api.OK {
				t.Errorf("To%s of %v: %x, error %d, not %x", k.name, d, got, err, want)
			}
		}
	}
}

// checkAmount holds it against an amount of which there is a Dec.
func (k kind) checkAmount(t *testing.T, amount *big.Int, bits uint64) {
	t.Helper()
	d, ok := decOf(amount)
	if !ok {
		t.Fatalf("no Dec of %s", amount)
	}
	k.check(t, row{d.Digits, d.Exp, bits})
}

func of64(f float64) uint64 { return math.Float64bits(f) }

func of32(f float32) uint64 { return uint64(math.Float32bits(f)) }

// P4.1: the chapter's examples, and others of few digits.

func TestNearestOf64(t *testing.T) {
	wide().check(t,
		row{"1", 0, 0x3ff0000000000000},
		row{"1", -1, 0x3fb999999999999a},
		row{"1", 23, 0x44b52d02c7e14af6},
		row{"5", -324, 1},
		row{"2", -324, 0},
		row{"3", -324, 1},
		row{"17976931348623157", 292, 0x7fefffffffffffff},
		row{"17976931348623159", 292, 0x7ff0000000000000},
		row{"1", 400, 0x7ff0000000000000},
		row{"1", -400, 0},
		row{"9007199254740993", 0, 0x4340000000000000},
		row{"9007199254740993" + strings.Repeat("0", 20) + "1", -21, 0x4340000000000001},
		row{"15", -1, 0x3ff8000000000000},
		row{"3", -1, 0x3fd3333333333333},
		row{"1", 2, of64(100)},
		row{"1", 22, of64(1e22)},
		row{"9007199254740992", 0, 0x4340000000000000},
		row{"9007199254740994", 0, 0x4340000000000001},
		row{"9007199254740995", 0, 0x4340000000000002},
		row{"3141592653589793", -15, of64(math.Pi)},
		row{"314159265358979323846264338327950288419716939937510582097494459", -62, of64(math.Pi)},
		row{"22250738585072011", -324, 0x000fffffffffffff},
		row{"22250738585072012", -324, 0x0010000000000000},
	)
}

func TestNearestOf32(t *testing.T) {
	narrow().check(t,
		row{"1", -1, 0x3dcccccd},
		row{"16777217", 0, 0x4b800000},
		row{"16777219", 0, 0x4b800002},
		row{"7", -46, 0},
		row{"71", -47, 1},
		row{"1", 0, 0x3f800000},
		row{"15", -1, 0x3fc00000},
		row{"3", -1, of32(0.3)},
		row{"1", 2, of32(100)},
		row{"16777216", 0, 0x4b800000},
		row{"16777218", 0, 0x4b800001},
		row{"16777217" + strings.Repeat("0", 20) + "1", -21, 0x4b800001},
		row{"31415927", -7, of32(math.Pi)},
		row{"34028235", 31, 0x7f7fffff},
		row{"34028236", 31, 0x7f800000},
		row{"1", 39, 0x7f800000},
		row{"1", -46, 0},
		row{"1", -45, 1},
		row{"11754943", -45, 0x00800000},
		row{"11754942", -45, 0x007fffff},
	)
}

func TestOtherClasses(t *testing.T) {
	for _, k := range kinds() {
		for _, r := range []struct {
			d    api.Dec
			bits uint64
		}{
			{api.Dec{Class: api.Finite}, 0},
			{api.Dec{Class: api.Finite, Neg: true}, k.sign},
			{api.Dec{Class: api.Inf}, k.infinity},
			{api.Dec{Class: api.Inf, Neg: true}, k.sign | k.infinity},
			{api.Dec{Class: api.NaN}, k.nan},
		} {
			if got, err := k.to(r.d); got != r.bits || err != api.OK {
				t.Errorf("To%s of %v: %x, error %d, not %x", k.name, r.d, got, err, r.bits)
			}
		}
	}
}

// One in the last place of as many digits as may be, which is less than the way from any float to what is midway.
func nudge(amount *big.Int) *big.Int {
	return tenTo(max(len(amount.String())-api.MaxDigits, 0))
}

// checkMidway looks just below, at and just above what is midway between a float and the next one.
func (k kind) checkMidway(t *testing.T, bits uint64) {
	t.Helper()
	midway := k.midway(bits)
	little := nudge(midway)
	even := bits
	if bits%2 == 1 {
		even = bits + 1
	}
	k.checkAmount(t, new(big.Int).Sub(midway, little), bits)
	k.checkAmount(t, midway, even)
	k.checkAmount(t, new(big.Int).Add(midway, little), bits+1)
}

func TestMidway(t *testing.T) {
	for _, k := range kinds() {
		for _, bits := range few(k.floats(500), 1500) {
			k.checkMidway(t, bits)
		}
	}
}

// What is midway between zero and the least float is a zero, of its sign; what is just above is the least one.
func TestMidwayToZero(t *testing.T) {
	for _, k := range kinds() {
		k.checkMidway(t, 0)
		half := new(big.Int).Rsh(k.amount(1), 1)
		k.checkAmount(t, half, 0)
		k.checkAmount(t, new(big.Int).Rsh(half, 1), 0)
		k.checkAmount(t, tenTo(shift-api.MaxExp-1), 0)
	}
}

// From midway behind the greatest float on all is an infinity.
func TestMidwayBehindTheGreatest(t *testing.T) {
	for _, k := range kinds() {
		greatest := k.infinity - 1
		k.checkMidway(t, greatest)
		k.checkAmount(t, k.midway(greatest), k.infinity)
		k.checkAmount(t, k.amount(k.infinity), k.infinity)
		for power := range 3000 {
			beyond := new(big.Int).Lsh(k.amount(k.infinity), uint(power))
			if d, ok := decOf(beyond); ok && len(d.Digits)+d.Exp <= api.MaxExp {
				k.checkAmount(t, beyond, k.infinity)
			}
		}
	}
}

// A power of 2 is nearer to the float below it than to that above it.
func TestPowersOfTwo(t *testing.T) {
	for _, k := range kinds() {
		for x := uint64(1); x < k.infinity/k.step; x++ {
			bits := x * k.step
			k.checkAmount(t, k.amount(bits), bits)
			k.checkMidway(t, bits-1)
			k.checkMidway(t, bits)
		}
	}
}

// Exponents up to both ends of what may be, of few digits and of as many as may be.
func TestEndsOfTheExponents(t *testing.T) {
	most := strings.Repeat("9", api.MaxDigits)
	for _, k := range kinds() {
		k.check(t,
			row{"1", api.MaxExp - 1, k.infinity},
			row{"1", -api.MaxExp - 1, 0},
			row{"15", api.MaxExp - 2, k.infinity},
			row{"15", -api.MaxExp - 2, 0},
			row{most, api.MaxExp - api.MaxDigits, k.infinity},
			row{most, -api.MaxExp - api.MaxDigits, 0},
			row{most, -api.MaxDigits, k.nearest(tenTo(shift))},
			row{"1" + strings.Repeat("0", api.MaxDigits-2) + "1", 1 - api.MaxDigits, k.nearest(tenTo(shift))},
		)
	}
}

// Digits of every length, with every place, as another arithmetic rounds them.
func TestNearestAgrees(t *testing.T) {
	for _, k := range kinds() {
		rows := noise(1)
		for _, size := range []int{1, 2, 3, 8, 9, 10, 16, 17, 18, 19, 20, 21, 38, 100, 400, 767, 768, 999, 1000} {
			for range 40 {
				d := api.Dec{Digits: rows.digits(size), Exp: rows.below(700) - 350 - size}
				k.check(t, row{d.Digits, d.Exp, k.nearest(amountOf(d))})
			}
		}
	}
}

func TestEveryPlace(t *testing.T) {
	for _, k := range kinds() {
		rows := noise(2)
		for place := -api.MaxExp; place <= api.MaxExp; place++ {
			digits := rows.digits(1 + rows.below(30))
			want, _ := strconv.ParseFloat("0."+digits+"e"+strconv.Itoa(place), k.size)
			bits := of64(want)
			if k.size == 32 {
				bits = of32(float32(want))
			}
			k.check(t, row{digits, place - len(digits), bits})
		}
	}
}

// Every row of few digits, at all places where the floats' classes meet.
func TestFewDigits(t *testing.T) {
	for i, places := range [][]int{{-325, -324, -323, -308, -307, 0, 308, 309}, {-46, -45, -44, -38, -37, 0, 38, 39}} {
		k := kinds()[i]
		for number := 1; number < 100; number++ {
			for _, place := range places {
				digits := strings.TrimRight(strconv.Itoa(number), "0")
				d := api.Dec{Digits: digits, Exp: place - len(digits)}
				k.check(t, row{d.Digits, d.Exp, k.nearest(amountOf(d))})
			}
		}
	}
}
