package pattern_test

import (
	"slices"
	"sync"
	"testing"

	"quipu/api"
	"quipu/pattern"
)

// R3, R4, R5

// roomy: the same tokens, in a list with room behind it, which has been written on.
func roomy(l []api.Token) []api.Token {
	return append(slices.Clone(l), text("room"), coin(9), text("behind"))[:len(l)]
}

// lists: the four lists within a pattern.
func lists(p *api.Pattern) []*[]api.Token {
	return []*[]api.Token{&p.Pos.Prefix, &p.Pos.Suffix, &p.Neg.Prefix, &p.Neg.Suffix}
}

// scribble writes over a list and the room behind it.
func scribble(l []api.Token) {
	l = l[:cap(l)]
	for i := range l {
		l[i] = api.Token{Kind: 77, Many: 77, Text: "scribble"}
	}
}

func TestWhatIsHandedInStays(t *testing.T) {
	r := source()
	for range 5000 {
		p := somePattern(r)
		var was [][]api.Token
		for _, l := range lists(&p) {
			*l = roomy(*l)
			was = append(was, slices.Clone((*l)[:cap(*l)]))
		}
		pattern.Check(p)
		pattern.Print(p)
		for i, l := range lists(&p) {
			if !slices.Equal((*l)[:cap(*l)], was[i]) {
				t.Fatalf("%s has become %s", short(was[i]), short((*l)[:cap(*l)]))
			}
		}
	}
}

func TestWhatIsAnsweredIsItsOwners(t *testing.T) {
	r := source()
	taken := 0
	for range 5000 {
		s := somePatternText(r)
		want, err := parseByWords(s)
		if err != api.OK {
			continue
		}
		taken++
		first, _ := pattern.Parse(s)
		second, _ := pattern.Parse(s)
		for _, l := range lists(&first) {
			scribble(*l)
		}
		if !same(second, want) {
			t.Fatalf("Parse(%q): both answers share memory", s)
		}
		for i, l := range lists(&second) {
			scribble(*l)
			*l = slices.Clone(*lists(&want)[i])
			if !same(second, want) {
				t.Fatalf("Parse(%q): two lists of the answer share memory", s)
			}
		}
	}
	if taken < 1000 {
		t.Error("too few are taken:", taken)
	}
}

// A nil list and an empty one are the same, also within a half that must be the zero one.
func TestEmptyLists(t *testing.T) {
	none, empty := api.Pattern{}, api.Pattern{Pos: api.Sub{Prefix: tokens(), Suffix: tokens()}, Neg: api.Sub{Prefix: roomy(nil), Suffix: tokens()}}
	empty.Pos.Prefix = roomy(nil)
	for _, p := range []api.Pattern{none, empty} {
		expectPrint(t, "#", p)
		p.HasNeg = true
		expectPrint(t, "#;#", p)
		p.Pos.Pad, p.Pos.Width = "x", 2
		expectPrint(t, "*x##;#", p)
		p.Pos.PadAt = api.PadAfterPrefix
		expectPrintError(t, api.ErrPatternForm, p)
	}
}

// Beside an error nothing is told, and what comes before a call changes nothing in it.
func TestCallsKeepNothing(t *testing.T) {
	r := source()
	texts := []string{"", "0", "#,##0.00", "*x0", "0*", "a", "0;0", "-0;", "#,##0E0", "0E0", "'", "¤0", repeat("#", 129), "\xff", "*x#,##0*y", "a*x0;b"}
	for range 3000 {
		s := oneOf(r, texts...)
		want, wantErr := parseByWords(s)
		p, err := pattern.Parse(s)
		if err != wantErr || !same(p, want) || err != api.OK && !same(p, api.Pattern{}) {
			t.Fatalf("Parse(%q): %s, %d", s, short(p), err)
		}
	}
}

func TestCallsSideBySide(t *testing.T) {
	var wait sync.WaitGroup
	for i := range 8 {
		wait.Go(func() {
			for n := range 64 {
				s := repeat("-", n) + "*x" + repeat("#", i) + ",##0.00;" + repeat("¤", i%4) + "0"
				want, wantErr := parseByWords(s)
				p, err := pattern.Parse(s)
				if err != wantErr || !same(p, want) {
					t.Errorf("Parse(%q): %s, %d", s, short(p), err)
				}
				if printed, _ := pattern.Print(p); err == api.OK && printed != s {
					t.Errorf("Print of Parse(%q): %q", s, printed)
				}
			}
		})
	}
	wait.Wait()
}
