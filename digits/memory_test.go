package digits_test

import (
	"slices"
	"sync"
	"testing"

	"quipu/api"
	"quipu/digits"
)

// R4, R5

// scribble writes over a list and the room behind it.
func scribble(l []api.Piece) {
	l = l[:cap(l)]
	for i := range l {
		l[i] = api.Piece{Text: "scribble", Field: 77}
	}
}

// What is handed in has no list: it is a value, which the caller's own stays.
func TestWhatIsHandedInStays(t *testing.T) {
	r := source()
	for range 2000 {
		x, s := someShown(r, 12), someSymbols(r)
		wasX, wasS := x, s
		scribble(pieces(x, s, someSizing(r)))
		scribble(digits.Exponent(r.IntN(200)-100, r.IntN(5), true, s))
		if x != wasX || s != wasS {
			t.Fatalf("%s has become %s, or its symbols have changed", short(wasX), short(x))
		}
	}
}

func TestWhatIsAnsweredIsItsOwners(t *testing.T) {
	r := source()
	for range 5000 {
		x, s, g := someShown(r, 12), someSymbols(r), someSizing(r)
		first, second := pieces(x, s, g), pieces(x, s, g)
		scribble(first)
		if !slices.Equal(second, piecesByWords(x, s, g)) {
			t.Fatalf("%s by %+v: both answers share memory", short(x), g)
		}
		exp, least := r.IntN(200)-100, r.IntN(5)
		former, latter := digits.Exponent(exp, least, true, s), digits.Exponent(exp, least, true, s)
		scribble(former)
		if !slices.Equal(latter, exponentByWords(exp, least, true, s)) {
			t.Fatalf("Exponent(%d, %d): both answers share memory", exp, least)
		}
	}
}

// What comes before a call changes nothing in it: what may not be, other symbols, other sizes.
func TestCallsKeepNothing(t *testing.T) {
	r := source()
	for range 3000 {
		x, s, g := someShown(r, 12), someSymbols(r), someSizing(r)
		pieces(api.Shown{Int: "x"}, s, g)
		pieces(plain("123456789", "5"), someSymbols(r), someSizing(r))
		digits.Exponent(5, 7, true, someSymbols(r))
		expectByWords(t, x, s, g)
		expectExponentByWords(t, x.Exp, g.least, g.always, s)
	}
}

func TestCallsSideBySide(t *testing.T) {
	var wait sync.WaitGroup
	for i := range 8 {
		wait.Go(func() {
			for n := range 200 {
				g := sizes(1+i%4, n%4, i)
				expectByWords(t, plain(counting(1+n%30), counting(n%7)), arabic(), g)
				expectExponentByWords(t, n*i-300, i, true, latin())
			}
		})
	}
	wait.Wait()
}
