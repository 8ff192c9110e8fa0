package nat_test

import (
	"fmt"
	"math/big"
	"slices"
	"testing"

	"quipu/api"
	"quipu/nat"
)

// toBig and fromBig lead to another arithmetic, which the answers are held against.
func toBig(a []uint64) *big.Int {
	sum := new(big.Int)
	for _, x := range slices.Backward(a) {
		sum.Lsh(sum, 64).Or(sum, new(big.Int).SetUint64(x))
	}
	return sum
}

func fromBig(n *big.Int) []uint64 {
	var a []uint64
	low := new(big.Int).SetUint64(m)
	for rest := new(big.Int).Set(n); rest.Sign() != 0; rest.Rsh(rest, 64) {
		a = append(a, new(big.Int).And(rest, low).Uint64())
	}
	return a
}

// edges: every list of at most so many limbs whose limbs are at an edge, noughts on top too.
func edges(limbs int) [][]uint64 {
	lists := [][]uint64{nil}
	for from := 0; limbs > 0; limbs-- {
		to := len(lists)
		for _, a := range lists[from:to] {
			for _, x := range []uint64{0, 1, h - 1, h, m - 1, m} {
				lists = append(lists, append(slices.Clone(a), x))
			}
		}
		from = to
	}
	return lists
}

// someLists: the same lists at every run, of up to so many limbs, each limb of any size or at an edge.
func someLists(many, limbs int) [][]uint64 {
	state := uint64(many)
	next := func() uint64 {
		state = state*6364136223846793005 + 1442695040888963407
		return (state ^ state>>29) * 0xbf58476d1ce4e5b9 >> 3
	}
	lists := make([][]uint64, many)
	for i := range lists {
		for range next() % uint64(limbs+1) {
			x := next()<<7 ^ next()
			switch next() % 8 {
			case 0:
				x = 0
			case 1:
				x = m
			case 2:
				x = h
			case 3:
				x >>= next() % 64
			}
			lists[i] = append(lists[i], x)
		}
	}
	return lists
}

// agree holds what two lists do against the other arithmetic (P1.1 to P1.3).
func agree(t *testing.T, a, b []uint64) {
	t.Helper()
	x, y := toBig(a), toBig(b)
	where := fmt.Sprintf(" of %x, %x", a, b)
	same(t, "Norm"+where, nat.Norm(a), fromBig(x))
	if got := nat.Cmp(a, b); got != x.Cmp(y) {
		t.Errorf("Cmp%s: %d", where, got)
	}
	if got := nat.Bits(a); got != x.BitLen() {
		t.Errorf("Bits%s: %d", where, got)
	}
	same(t, "Add"+where, nat.Add(a, b), fromBig(new(big.Int).Add(x, y)))
	same(t, "Mul"+where, nat.Mul(a, b), fromBig(new(big.Int).Mul(x, y)))
	agreeSub(t, where, a, b, new(big.Int).Sub(x, y))
	if y.Sign() == 0 {
		return
	}
	q, r := new(big.Int).QuoRem(x, y, new(big.Int))
	quotient, rest, err := nat.DivMod(a, b)
	same(t, "quotient"+where, quotient, fromBig(q))
	same(t, "rest"+where, rest, fromBig(r))
	if err != api.OK {
		t.Errorf("DivMod%s: error %d", where, err)
	}
}

func agreeSub(t *testing.T, where string, a, b []uint64, want *big.Int) {
	t.Helper()
	got, err := nat.Sub(a, b)
	if want.Sign() < 0 {
		fails(t, "Sub"+where, got, err, api.ErrNatBelow)
		return
	}
	same(t, "Sub"+where, got, fromBig(want))
	if err != api.OK {
		t.Errorf("Sub%s: error %d", where, err)
	}
}

func TestAgreesAtEdges(t *testing.T) {
	divisors := edges(3)
	for i, a := range edges(4) {
		// All short lists, and some of the others: all of them would take too long.
		if len(a) > 2 && i%7 != 0 {
			continue
		}
		for _, b := range divisors {
			agree(t, a, b)
		}
	}
}

func TestAgreesWithSome(t *testing.T) {
	lists := someLists(300, 12)
	for _, a := range lists {
		for _, b := range lists {
			agree(t, a, b)
		}
	}
}

func TestAgreesAtLength(t *testing.T) {
	long, short := someLists(6, 900), someLists(6, 300)
	for _, a := range long {
		for _, b := range short {
			agree(t, a, b)
		}
	}
}

func TestShiftsAgree(t *testing.T) {
	for _, a := range append(edges(2), someLists(50, 9)...) {
		for _, n := range []int{0, 1, 31, 63, 64, 65, 127, 128, 129, 1000, api.MaxShift - 1, api.MaxShift} {
			where := fmt.Sprintf(" of %x by %d", a, n)
			up, err := nat.Shl(a, n)
			same(t, "Shl"+where, up, fromBig(new(big.Int).Lsh(toBig(a), uint(n))))
			down, err2 := nat.Shr(a, n)
			same(t, "Shr"+where, down, fromBig(new(big.Int).Rsh(toBig(a), uint(n))))
			if err != api.OK || err2 != api.OK {
				t.Errorf("errors %d, %d%s", err, err2, where)
			}
		}
	}
}

// P1.5

func TestSumsAndProductsGoTogether(t *testing.T) {
	lists := append(edges(1), someLists(20, 6)...)
	for _, a := range lists {
		for _, b := range lists {
			same(t, "a + b", nat.Add(a, b), nat.Add(b, a))
			same(t, "a b", nat.Mul(a, b), nat.Mul(b, a))
			for _, c := range lists {
				same(t, "a + b + c", nat.Add(nat.Add(a, b), c), nat.Add(a, nat.Add(b, c)))
				same(t, "a b c", nat.Mul(nat.Mul(a, b), c), nat.Mul(a, nat.Mul(b, c)))
				same(t, "a (b + c)", nat.Mul(a, nat.Add(b, c)), nat.Add(nat.Mul(a, b), nat.Mul(a, c)))
			}
		}
	}
}

func TestThereAndBack(t *testing.T) {
	lists := append(edges(2), someLists(60, 10)...)
	for _, a := range lists {
		for _, b := range lists {
			back, err := nat.Sub(nat.Add(a, b), b)
			same(t, "Sub of Add", back, nat.Norm(a))
			if err != api.OK {
				t.Errorf("Sub of Add: error %d", err)
			}
			if len(nat.Norm(b)) == 0 {
				continue
			}
			quotient, rest, err := nat.DivMod(a, b)
			same(t, "quotient times b, and the rest", nat.Add(nat.Mul(quotient, b), rest), nat.Norm(a))
			if err != api.OK || nat.Cmp(rest, b) >= 0 {
				t.Errorf("DivMod(%x, %x): error %d, or a rest that is not below", a, b, err)
			}
		}
	}
}

func TestShiftsArePowers(t *testing.T) {
	for _, a := range append(edges(2), someLists(30, 8)...) {
		power := nat.Of(1)
		for n := range 200 {
			up, err := nat.Shl(a, n)
			same(t, "Shl", up, nat.Mul(a, power))
			back, err2 := nat.Shr(up, n)
			same(t, "Shr of Shl", back, nat.Norm(a))
			if err != api.OK || err2 != api.OK {
				t.Errorf("errors %d, %d", err, err2)
			}
			power = nat.Add(power, power)
		}
	}
}
