package nat_test

import (
	"math"
	"slices"
	"testing"

	"quipu/api"
	"quipu/nat"
)

// m is the greatest limb, h the highest bit of one.
const (
	m = math.MaxUint64
	h = 1 << 63
)

func l(limbs ...uint64) []uint64 { return limbs }

func same(t *testing.T, what string, got, want []uint64) {
	t.Helper()
	if !slices.Equal(got, want) {
		t.Errorf("%s: %x, not %x", what, got, want)
	}
}

func fails(t *testing.T, what string, got []uint64, err, want api.Errno) {
	t.Helper()
	if err != want || len(got) != 0 {
		t.Errorf("%s: %x and error %d, not none and error %d", what, got, err, want)
	}
}

// P1.1

func TestNorm(t *testing.T) {
	for _, x := range []struct{ a, want []uint64 }{
		{nil, nil},
		{l(), nil},
		{l(0), nil},
		{l(0, 0), nil},
		{l(1, 0), l(1)},
		{l(0, 1), l(0, 1)},
		{l(0, 7, 0, 0), l(0, 7)},
		{l(1, 0, 2, m), l(1, 0, 2, m)},
	} {
		same(t, "Norm", nat.Norm(x.a), x.want)
	}
}

func TestOf(t *testing.T) {
	same(t, "Of(0)", nat.Of(0), nil)
	for _, n := range []uint64{1, 2, h, m} {
		same(t, "Of", nat.Of(n), l(n))
	}
}

func TestUint(t *testing.T) {
	for _, x := range []struct {
		a    []uint64
		want uint64
		is   bool
	}{
		{nil, 0, true},
		{l(0, 0, 0), 0, true},
		{l(5), 5, true},
		{l(5, 0), 5, true},
		{l(m, 0, 0), m, true},
		{l(0, 1), 0, false},
		{l(5, 0, 1), 0, false},
		{l(5, 1, 0), 0, false},
	} {
		if n, is := nat.Uint(x.a); n != x.want || is != x.is {
			t.Errorf("Uint(%x): %x, %v", x.a, n, is)
		}
	}
}

// P1.2

func TestCmp(t *testing.T) {
	// By rising numbers, each in several forms.
	rising := [][][]uint64{
		{nil, l(0), l(0, 0, 0)},
		{l(1), l(1, 0)},
		{l(5), l(5, 0)},
		{l(m)},
		{l(0, 1), l(0, 1, 0, 0)},
		{l(m, 1)},
		{l(1, 5)},
		{l(2, 5), l(2, 5, 0)},
		{l(m, m)},
		{l(0, 0, 1)},
		{l(0, 1, 1)},
		{l(m, 0, h)},
	}
	for i, left := range rising {
		for j, right := range rising {
			for _, a := range left {
				for _, b := range right {
					want := 0
					if i < j {
						want = -1
					} else if i > j {
						want = 1
					}
					if got := nat.Cmp(a, b); got != want {
						t.Errorf("Cmp(%x, %x): %d, not %d", a, b, got, want)
					}
				}
			}
		}
	}
}

func TestBits(t *testing.T) {
	for _, x := range []struct {
		a    []uint64
		want int
	}{
		{nil, 0},
		{l(0, 0), 0},
		{l(1), 1},
		{l(2), 2},
		{l(3), 2},
		{l(h), 64},
		{l(m), 64},
		{l(0, 1), 65},
		{l(m, 1, 0), 65},
		{l(0, 0, h), 192},
	} {
		if got := nat.Bits(x.a); got != x.want {
			t.Errorf("Bits(%x): %d, not %d", x.a, got, x.want)
		}
	}
}

// P1.3

func TestAdd(t *testing.T) {
	for _, x := range []struct{ a, b, want []uint64 }{
		{nil, nil, nil},
		{l(0, 0), l(0), nil},
		{l(3), nil, l(3)},
		{l(3, 0), l(4, 0, 0), l(7)},
		{l(m), l(1), l(0, 1)},
		{l(m, m, m), l(1), l(0, 0, 0, 1)},
		{l(m, m, m), l(m, m, m), l(m-1, m, m, 1)},
		{l(m, m, 3), l(1), l(0, 0, 4)},
		{l(1, 2, 3), l(10, 20), l(11, 22, 3)},
	} {
		same(t, "Add", nat.Add(x.a, x.b), x.want)
		same(t, "Add, the other way", nat.Add(x.b, x.a), x.want)
	}
}

func TestSub(t *testing.T) {
	for _, x := range []struct{ a, b, want []uint64 }{
		{nil, nil, nil},
		{l(0), l(0, 0), nil},
		{l(9, 0), l(4, 0, 0), l(5)},
		{l(0, 1), l(1), l(m)},
		{l(0, 0, 0, 1), l(1), l(m, m, m)},
		{l(0, 0, 4), l(1), l(m, m, 3)},
		{l(7, 5), l(7, 5, 0), nil},
		{l(7, 5), l(6, 5), l(1)},
		{l(11, 22, 3), l(10, 20), l(1, 2, 3)},
	} {
		got, err := nat.Sub(x.a, x.b)
		same(t, "Sub", got, x.want)
		if err != api.OK {
			t.Errorf("Sub(%x, %x): error %d", x.a, x.b, err)
		}
	}
}

func TestSubBelow(t *testing.T) {
	for _, x := range []struct{ a, b []uint64 }{
		{l(1), l(2)},
		{nil, l(1)},
		{l(0, 0, 0), l(1)},
		{l(m), l(0, 1)},
		{l(m, 5), l(0, 6)},
		{l(0, 5), l(1, 5)},
		{l(m, m), l(0, 0, 1)},
	} {
		got, err := nat.Sub(x.a, x.b)
		fails(t, "Sub", got, err, api.ErrNatBelow)
	}
}

func TestMul(t *testing.T) {
	for _, x := range []struct{ a, b, want []uint64 }{
		{nil, nil, nil},
		{nil, l(5, 5), nil},
		{l(0, 0), l(m), nil},
		{l(6, 0), l(7, 0, 0), l(42)},
		{l(m), l(m), l(1, m-1)},
		{l(0, 1), l(0, 0, 1), l(0, 0, 0, 1)},
		{l(m, m), l(m, m), l(1, 0, m-1, m)},
		{l(m, m, m), l(m), l(1, m, m, m-1)},
		{l(1, 2, 3), l(10, 100), l(10, 120, 230, 300)},
	} {
		same(t, "Mul", nat.Mul(x.a, x.b), x.want)
		same(t, "Mul, the other way", nat.Mul(x.b, x.a), x.want)
	}
}

func TestDivMod(t *testing.T) {
	for _, x := range []struct{ a, b, quotient, rest []uint64 }{
		{nil, l(1), nil, nil},
		{l(0, 0), l(3, 4), nil, nil},
		{l(7), l(2), l(3), l(1)},
		{l(7, 0), l(7, 0, 0), l(1), nil},
		{l(0, 1), l(16), l(1 << 60), nil},
		{l(m, m, m), l(m), l(1, 1, 1), nil},
		{l(5), l(0, 1), nil, l(5)},
		{l(1, 5), l(2, 5), nil, l(1, 5)},
		{l(2, 5), l(2, 5, 0), l(1), nil},
		{l(0, 0, 1), l(m, 1), l(h), l(h)},
		{l(m, m, m), l(m, m), l(0, 1), l(m)},
		// The topmost limbs alone tell too much here.
		{l(0, 0, h, h-1), l(1, 0, h), l(m - 1), l(2, m, h-1)},
		// The topmost limbs are the same.
		{l(0, m-1, h), l(m, h), l(m), l(m, h-1)},
		{l(0, 0, h), l(m, h), l(m - 1), l(m-1, 2)},
	} {
		quotient, rest, err := nat.DivMod(x.a, x.b)
		same(t, "quotient", quotient, x.quotient)
		same(t, "rest", rest, x.rest)
		if err != api.OK {
			t.Errorf("DivMod(%x, %x): error %d", x.a, x.b, err)
		}
	}
}

func TestDivModZero(t *testing.T) {
	for _, a := range [][]uint64{nil, l(0), l(1), l(m, m)} {
		for _, b := range [][]uint64{nil, l(), l(0), l(0, 0)} {
			quotient, rest, err := nat.DivMod(a, b)
			fails(t, "DivMod, quotient", quotient, err, api.ErrNatZero)
			fails(t, "DivMod, rest", rest, err, api.ErrNatZero)
		}
	}
}

// P1.4

func TestShl(t *testing.T) {
	for _, x := range []struct {
		a    []uint64
		n    int
		want []uint64
	}{
		{nil, 0, nil},
		{nil, api.MaxShift, nil},
		{l(0, 0), 65, nil},
		{l(5, 0), 0, l(5)},
		{l(5, 7), 0, l(5, 7)},
		{l(m), 1, l(m-1, 1)},
		{l(3), 63, l(h, 1)},
		{l(1), 64, l(0, 1)},
		{l(3), 65, l(0, 6)},
		{l(m, m), 63, l(h, m, h-1)},
		{l(m, m), 65, l(0, m-1, m, 1)},
		{l(1, 2), 128, l(0, 0, 1, 2)},
	} {
		got, err := nat.Shl(x.a, x.n)
		same(t, "Shl", got, x.want)
		if err != api.OK {
			t.Errorf("Shl(%x, %d): error %d", x.a, x.n, err)
		}
	}
}

func TestShlFar(t *testing.T) {
	limbs := api.MaxShift / 64
	got, err := nat.Shl(l(5, h), api.MaxShift)
	same(t, "Shl by MaxShift", got, append(make([]uint64, limbs), 5, h))
	if err != api.OK {
		t.Error(err)
	}
	got, err = nat.Shl(l(5, h), api.MaxShift-1)
	same(t, "Shl by one less", got, append(make([]uint64, limbs-1), h, 2, h>>1))
	if err != api.OK {
		t.Error(err)
	}
}

func TestShlRefused(t *testing.T) {
	for _, a := range [][]uint64{nil, l(1), l(m, m)} {
		for _, n := range []int{-1, -64, math.MinInt, api.MaxShift + 1, math.MaxInt} {
			got, err := nat.Shl(a, n)
			fails(t, "Shl", got, err, api.ErrNatShift)
		}
	}
}

func TestShr(t *testing.T) {
	for _, x := range []struct {
		a    []uint64
		n    int
		want []uint64
	}{
		{nil, 0, nil},
		{nil, math.MaxInt, nil},
		{l(5, 0), 0, l(5)},
		{l(5, 7), 0, l(5, 7)},
		{l(5), 1, l(2)},
		{l(5), 3, nil},
		{l(m), 63, l(1)},
		{l(m), 64, nil},
		{l(0, 1), 1, l(h)},
		{l(m, m), 63, l(m, 1)},
		{l(5, 7), 64, l(7)},
		{l(5, 7), 65, l(3)},
		{l(5, 7, 0, 0), 128, nil},
		{l(m, 6, m), 65, l(h|3, h-1)},
		{l(5), 99999, nil},
		{l(m, m), api.MaxShift, nil},
		{l(m, m), api.MaxShift + 1, nil},
		{l(m, m), math.MaxInt, nil},
	} {
		got, err := nat.Shr(x.a, x.n)
		same(t, "Shr", got, x.want)
		if err != api.OK {
			t.Errorf("Shr(%x, %d): error %d", x.a, x.n, err)
		}
	}
}

func TestShrRefused(t *testing.T) {
	for _, a := range [][]uint64{nil, l(1), l(m, m)} {
		for _, n := range []int{-1, -64, math.MinInt} {
			got, err := nat.Shr(a, n)
			fails(t, "Shr", got, err, api.ErrNatShift)
		}
	}
}
