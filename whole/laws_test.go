package whole_test

import (
	"fmt"
	"math/big"
	"slices"
	"testing"

	"quipu/api"
	"quipu/whole"
)

// toBig, fromBig and bigOf lead to another arithmetic, which the answers are held against.
func toBig(a whole.Int) *big.Int {
	sum := new(big.Int)
	for _, x := range slices.Backward(a.Mag) {
		sum.Lsh(sum, 64).Or(sum, new(big.Int).SetUint64(x))
	}
	if a.Neg {
		sum.Neg(sum)
	}
	return sum
}

func fromBig(n *big.Int) whole.Int {
	a := whole.Int{Neg: n.Sign() < 0}
	low := new(big.Int).SetUint64(m)
	for rest := new(big.Int).Abs(n); rest.Sign() != 0; rest.Rsh(rest, 64) {
		a.Mag = append(a.Mag, new(big.Int).And(rest, low).Uint64())
	}
	return a
}

func bigOf(s string) *big.Int {
	n, _ := new(big.Int).SetString(s, 10)
	return n
}

// someLists: the same lists at every run, of up to so many limbs, each limb of any size or at an edge.
func someLists(many, limbs int) [][]uint64 {
	state := uint64(many)
	next := func() uint64 {
		state = state*6364136223846793005 + 1442695040888963407
		return (state ^ state>>29) * 0xbf58476d1ce4e5b9 >> 3
	}
	lists := make([][]uint64, many)
	for i := range lists {
		for range next() % uint64(limbs+1) {
			x := next()<<7 ^ next()
			switch next() % 6 {
			case 0:
				x = 0
			case 1:
				x = m
			}
			lists[i] = append(lists[i], x)
		}
	}
	return lists
}

// numbers: edges and others, each with both signs, some with noughts on top.
func numbers() []whole.Int {
	lists := [][]uint64{
		nil, l(0), l(0, 0), l(1), l(1, 0), l(2), l(3), l(5), l(10), l(h), l(m), l(m, 0),
		l(0, 1), l(1, 1), l(m, m), l(0, h), l(0, 0, 1), l(m, 0, 1), l(m, m, m), l(1, 2, 3, 4, 0),
	}
	var all []whole.Int
	for _, a := range append(lists, someLists(20, 6)...) {
		all = append(all, whole.Int{Mag: a}, whole.Int{Neg: true, Mag: a})
	}
	return all
}

// P2.1, P2.2: what two numbers do is what they do in the other arithmetic.
func TestAgree(t *testing.T) {
	for _, a := range numbers() {
		x := toBig(a)
		same(t, fmt.Sprintf("Make of %v", a), whole.Make(a.Neg, a.Mag), fromBig(x))
		same(t, fmt.Sprintf("Neg of %v", a), whole.Neg(a), fromBig(new(big.Int).Neg(x)))
		for _, b := range numbers() {
			y := toBig(b)
			where := fmt.Sprintf(" of %v, %v", a, b)
			if got := whole.Cmp(a, b); got != x.Cmp(y) {
				t.Errorf("Cmp%s: %d", where, got)
			}
			same(t, "Add"+where, whole.Add(a, b), fromBig(new(big.Int).Add(x, y)))
			same(t, "Sub"+where, whole.Sub(a, b), fromBig(new(big.Int).Sub(x, y)))
			same(t, "Mul"+where, whole.Mul(a, b), fromBig(new(big.Int).Mul(x, y)))
			if y.Sign() == 0 {
				continue
			}
			quotient, rest, err := whole.DivMod(a, b)
			wantQuotient, wantRest := new(big.Int).DivMod(x, y, new(big.Int))
			same(t, "quotient"+where, quotient, fromBig(wantQuotient))
			same(t, "rest"+where, rest, fromBig(wantRest))
			if err != api.OK {
				t.Errorf("DivMod%s: error %d", where, err)
			}
		}
	}
}

// P2.2: a is q times b and r, and r is 0 or above, and below the amount of b.
func TestQuotientAndRest(t *testing.T) {
	for _, a := range numbers() {
		for _, b := range numbers() {
			quotient, rest, err := whole.DivMod(a, b)
			if err != api.OK {
				continue
			}
			same(t, "q times b and r", whole.Add(whole.Mul(quotient, b), rest), whole.Make(a.Neg, a.Mag))
			if whole.Cmp(rest, whole.Int{}) < 0 || whole.Cmp(rest, whole.Make(false, b.Mag)) >= 0 {
				t.Errorf("rest of %v, %v: %v", a, b, rest)
			}
		}
	}
}

// P2.5: the whole numbers are a ring.
func TestRing(t *testing.T) {
	some := numbers()
	for i := range some {
		a, b, c := some[i], some[(i*7+3)%len(some)], some[(i*11+5)%len(some)]
		same(t, "a+b", whole.Add(a, b), whole.Add(b, a))
		same(t, "ab", whole.Mul(a, b), whole.Mul(b, a))
		same(t, "a+(b+c)", whole.Add(a, whole.Add(b, c)), whole.Add(whole.Add(a, b), c))
		same(t, "a(bc)", whole.Mul(a, whole.Mul(b, c)), whole.Mul(whole.Mul(a, b), c))
		same(t, "a(b+c)", whole.Mul(a, whole.Add(b, c)), whole.Add(whole.Mul(a, b), whole.Mul(a, c)))
		same(t, "a-b", whole.Sub(a, b), whole.Add(a, whole.Neg(b)))
		same(t, "a-a", whole.Sub(a, a), whole.Int{})
		same(t, "(-a)b", whole.Mul(whole.Neg(a), b), whole.Neg(whole.Mul(a, b)))
		same(t, "-(a+b)", whole.Neg(whole.Add(a, b)), whole.Add(whole.Neg(a), whole.Neg(b)))
		same(t, "--a", whole.Neg(whole.Neg(a)), whole.Make(a.Neg, a.Mag))
		if whole.Cmp(a, b) != -whole.Cmp(b, a) || whole.Cmp(a, b) != whole.Cmp(whole.Sub(a, b), whole.Int{}) {
			t.Errorf("Cmp of %v, %v: %d", a, b, whole.Cmp(a, b))
		}
	}
}
