package whole_test

import (
	"math"
	"slices"
	"strings"
	"testing"

	"quipu/api"
	"quipu/whole"
)

// m is the greatest limb, h the highest bit of one.
const (
	m = math.MaxUint64
	h = 1 << 63
)

func l(limbs ...uint64) []uint64 { return limbs }

func up(limbs ...uint64) whole.Int { return whole.Int{Mag: limbs} }

func down(limbs ...uint64) whole.Int { return whole.Int{Neg: true, Mag: limbs} }

// of reads a number whose digits may have a sign ahead.
func of(t *testing.T, s string) whole.Int {
	t.Helper()
	digits, neg := strings.CutPrefix(s, "-")
	mag, err := whole.Parse(digits)
	if err != api.OK {
		t.Fatalf("Parse of %q: error %d", digits, err)
	}
	return whole.Int{Neg: neg, Mag: mag}
}

func same(t *testing.T, what string, got, want whole.Int) {
	t.Helper()
	if got.Neg != want.Neg || !slices.Equal(got.Mag, want.Mag) {
		t.Errorf("%s: %v, not %v", what, got, want)
	}
}

func sameLimbs(t *testing.T, what string, got, want []uint64) {
	t.Helper()
	if !slices.Equal(got, want) {
		t.Errorf("%s: %x, not %x", what, got, want)
	}
}

// P2.1

func TestMake(t *testing.T) {
	for _, x := range []struct {
		neg  bool
		mag  []uint64
		want whole.Int
	}{
		{false, nil, up()},
		{true, nil, up()},
		{false, l(0), up()},
		{true, l(0), up()},
		{true, l(0, 0), up()},
		{false, l(5), up(5)},
		{true, l(5), down(5)},
		{true, l(5, 0, 0), down(5)},
		{false, l(0, 1, 0), up(0, 1)},
		{true, l(0, m, 3), down(0, m, 3)},
	} {
		same(t, "Make", whole.Make(x.neg, x.mag), x.want)
	}
}

func TestCmp(t *testing.T) {
	// Each is below the next; those of one row are the same number.
	rows := [][]whole.Int{
		{down(0, 0, 1), down(0, 0, 1, 0)},
		{down(m, m)},
		{down(0, 1)},
		{down(m), down(m, 0)},
		{down(5)},
		{down(1), down(1, 0, 0)},
		{up(), down(), up(0), down(0), down(0, 0)},
		{up(1)},
		{up(3), up(3, 0)},
		{up(m)},
		{up(0, 1)},
		{up(m, 1)},
		{up(0, 2)},
	}
	for i, row := range rows {
		for j, other := range rows {
			for _, a := range row {
				for _, b := range other {
					want := min(max(i-j, -1), 1)
					if got := whole.Cmp(a, b); got != want {
						t.Errorf("Cmp(%v, %v): %d, not %d", a, b, got, want)
					}
				}
			}
		}
	}
}

func TestNeg(t *testing.T) {
	for _, x := range []struct{ a, want whole.Int }{
		{up(), up()},
		{down(), up()},
		{up(0, 0), up()},
		{down(0), up()},
		{up(5), down(5)},
		{down(5), up(5)},
		{up(5, 0), down(5)},
		{down(0, 1, 0), up(0, 1)},
	} {
		same(t, "Neg", whole.Neg(x.a), x.want)
	}
}

// P2.2

func TestAdd(t *testing.T) {
	for _, x := range []struct{ a, b, want whole.Int }{
		{up(), up(), up()},
		{down(), up(), up()},
		{up(), down(), up()},
		{down(), down(), up()},
		{down(0), down(0, 0), up()},
		{down(5), up(3), down(2)},
		{up(5), down(3), up(2)},
		{up(3), down(5), down(2)},
		{down(3), up(5), up(2)},
		{down(5), up(5), up()},
		{up(5), down(5), up()},
		{down(5), down(5), down(10)},
		{down(0, 1), up(0, 1, 0), up()},
		{down(), up(7), up(7)},
		{down(), down(7), down(7)},
		{up(), down(7, 0), down(7)},
		{up(7, 0), down(), up(7)},
		{up(m), up(1), up(0, 1)},
		{down(m), down(1), down(0, 1)},
		{down(0, 1), up(1), down(m)},
		{up(0, 1), down(1), up(m)},
		{up(1), down(0, 0, 1), down(m, m)},
		{up(m, m, 4), down(0, 0, 4), up(m, m)},
	} {
		same(t, "Add", whole.Add(x.a, x.b), x.want)
	}
}

func TestSub(t *testing.T) {
	for _, x := range []struct{ a, b, want whole.Int }{
		{up(), up(), up()},
		{down(), up(), up()},
		{up(), down(), up()},
		{down(), down(), up()},
		{down(5), down(5), up()},
		{up(5), up(5), up()},
		{up(5), up(3), up(2)},
		{up(3), up(5), down(2)},
		{down(5), down(3), down(2)},
		{down(3), down(5), up(2)},
		{up(3), down(5), up(8)},
		{down(3), up(5), down(8)},
		{up(), up(7), down(7)},
		{up(), down(7), up(7)},
		{up(0, 1), up(1), up(m)},
		{up(1), up(0, 1), down(m)},
		{down(m), up(1, 0), down(0, 1)},
		{up(m, m, 1), up(m, m, 1, 0), up()},
	} {
		same(t, "Sub", whole.Sub(x.a, x.b), x.want)
	}
}

func TestMul(t *testing.T) {
	for _, x := range []struct{ a, b, want whole.Int }{
		{up(), up(), up()},
		{down(), up(7), up()},
		{down(7), up(), up()},
		{down(7), up(0, 0), up()},
		{down(5), down(3), up(15)},
		{down(5), up(3), down(15)},
		{up(5), down(3), down(15)},
		{up(5), up(3), up(15)},
		{up(m), down(m), down(1, m-1)},
		{down(0, 1), down(0, 0, 1), up(0, 0, 0, 1)},
		{down(3, 0), up(1, 2, 3, 0), down(3, 6, 9)},
	} {
		same(t, "Mul", whole.Mul(x.a, x.b), x.want)
	}
}

func TestDivMod(t *testing.T) {
	for _, x := range []struct{ a, b, quotient, rest whole.Int }{
		{up(7), up(2), up(3), up(1)},
		{down(7), up(2), down(4), up(1)},
		{up(7), down(2), down(3), up(1)},
		{down(7), down(2), up(4), up(1)},
		{up(8), up(2), up(4), up()},
		{down(8), up(2), down(4), up()},
		{up(8), down(2), down(4), up()},
		{down(8), down(2), up(4), up()},
		{up(1), up(5), up(), up(1)},
		{down(1), up(5), down(1), up(4)},
		{up(1), down(5), up(), up(1)},
		{down(1), down(5), up(1), up(4)},
		{up(), up(5), up(), up()},
		{down(), up(5), up(), up()},
		{down(0), down(5), up(), up()},
		{up(7, 0), up(2, 0), up(3), up(1)},
		{down(7), down(2, 0, 0), up(4), up(1)},
		{down(0, 1), up(0, 1), down(1), up()},
		{down(0, 0, 1), up(0, 1), down(0, 1), up()},
		{down(1, 0, 1), up(0, 1), down(1, 1), up(m)},
		{down(1, 0, 1), down(0, 1), up(1, 1), up(m)},
		{down(1), up(0, 0, 1), down(1), up(m, m)},
		{down(m, m), up(m), down(1, 1), up()},
		{down(1, m), up(m), down(1, 1), up(m - 1)},
	} {
		quotient, rest, err := whole.DivMod(x.a, x.b)
		same(t, "quotient", quotient, x.quotient)
		same(t, "rest", rest, x.rest)
		if err != api.OK {
			t.Errorf("DivMod(%v, %v): error %d", x.a, x.b, err)
		}
	}
}

func TestDivModByZero(t *testing.T) {
	for _, b := range []whole.Int{up(), down(), up(0), down(0, 0)} {
		for _, a := range []whole.Int{up(), down(), up(1), down(1), down(1, 2, 3)} {
			quotient, rest, err := whole.DivMod(a, b)
			if err != api.ErrWholeZero || len(quotient.Mag) != 0 || quotient.Neg || len(rest.Mag) != 0 || rest.Neg {
				t.Errorf("DivMod(%v, %v): %v, %v, error %d", a, b, quotient, rest, err)
			}
		}
	}
}

// The chapter's examples, by their digits.
func TestExamples(t *testing.T) {
	n := func(s string) whole.Int { return of(t, s) }
	same(t, "Make(true, 0 0)", whole.Make(true, l(0, 0)), n("0"))
	same(t, "Neg(0)", whole.Neg(n("0")), n("0"))
	same(t, "Add(-5, 3)", whole.Add(n("-5"), n("3")), n("-2"))
	same(t, "Sub(-5, -5)", whole.Sub(n("-5"), n("-5")), n("0"))
	same(t, "Mul(-5, -3)", whole.Mul(n("-5"), n("-3")), n("15"))
	same(t, "Add(-5, 5)", whole.Add(n("-5"), n("5")), n("0"))
	if whole.Cmp(n("-5"), n("3")) != -1 || whole.Cmp(n("-0"), n("0")) != 0 {
		t.Error("Cmp(-5, 3), Cmp(-0, 0)")
	}
}
