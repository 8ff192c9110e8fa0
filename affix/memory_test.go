package affix_test

import (
	"slices"
	"sync"
	"testing"

	"quipu/affix"
	"quipu/api"
)

// R3, R4, R5

// roomy: the same tokens, in a list with room behind it, which has been written on.
func roomy(l []api.Token) []api.Token {
	return append(slices.Clone(l), text("room"), coin(9), text("behind"))[:len(l)]
}

// scribble writes over a list and the room behind it.
func scribble(l []api.Token) {
	l = l[:cap(l)]
	for i := range l {
		l[i] = api.Token{Kind: 77, Many: 77, Text: "scribble"}
	}
}

func TestWhatIsHandedInStays(t *testing.T) {
	r := source()
	for range 3000 {
		l := someTokens(r, r.IntN(70))
		if r.IntN(3) == 0 && len(l) > 0 {
			l[r.IntN(len(l))] = oddToken(r)
		}
		l = roomy(l)
		was := slices.Clone(l[:cap(l)])
		affix.Check(l)
		affix.Print(l)
		affix.Has(l, r.IntN(7))
		scribble(affix.Turn(l, r.IntN(7), r.IntN(7)))
		if !slices.Equal(l[:cap(l)], was) {
			t.Fatalf("%s has become %s", short(was), short(l[:cap(l)]))
		}
	}
}

func TestWhatIsAnsweredIsItsOwners(t *testing.T) {
	r := source()
	for range 3000 {
		l := someTokens(r, r.IntN(10))
		s, err := affix.Print(l)
		if err != api.OK {
			continue
		}
		first, _ := affix.Parse(s)
		second, _ := affix.Parse(s)
		scribble(first)
		if !slices.Equal(second, l) {
			t.Fatalf("Parse(%q): both answers share memory", s)
		}
		expectTurned(t, l)
	}
}

// expectTurned: what Turn answers is new, also where nothing is turned.
func expectTurned(t *testing.T, l []api.Token) {
	t.Helper()
	l = roomy(l)
	was := slices.Clone(l[:cap(l)])
	for _, from := range []int{api.TokMinus, 42} {
		first, second := affix.Turn(l, from, api.TokPlus), affix.Turn(l, from, api.TokPlus)
		want := slices.Clone(second)
		scribble(first)
		if !slices.Equal(second, want) || !slices.Equal(l[:cap(l)], was) {
			t.Fatalf("Turn(%s, %d, ..): its answer is not its owner's", short(l), from)
		}
	}
	kept := affix.Turn(l, 42, api.TokPlus)
	scribble(l)
	if !slices.Equal(kept, was[:len(l)]) {
		t.Fatalf("Turn(%s, ..): the answer has changed with the tokens", short(was))
	}
}

// Beside an error nothing is told, and what comes before a call changes nothing in it.
func TestCallsKeepNothing(t *testing.T) {
	r := source()
	texts := []string{"", "a", "-", "'", "'a", "0", "\u00a4\u00a4\u00a4", "\u00a4\u00a4\u00a4\u00a4", "\u00a4", "''", "a-'b'", repeat("a", 65), repeat("-", 65), "\xff"}
	for range 2000 {
		s := oneOf(r, texts...)
		want, wantErr := parseByWords(s)
		l, err := affix.Parse(s)
		if err != wantErr || !slices.Equal(l, want) || err != api.OK && len(l) != 0 {
			t.Fatalf("Parse(%q): %s, %d", s, short(l), err)
		}
	}
}

func TestCallsSideBySide(t *testing.T) {
	var wait sync.WaitGroup
	for i := range 8 {
		wait.Go(func() {
			for n := range 64 {
				s := repeat("-", n) + "'0'" + repeat("\u00a4", i%4)
				want, wantErr := parseByWords(s)
				if l, err := affix.Parse(s); err != wantErr || !slices.Equal(l, want) {
					t.Errorf("Parse(%q): %s, %d", s, short(l), err)
				}
			}
		})
	}
	wait.Wait()
}
