package fields_test

import (
	"iter"
	"slices"
	"testing"

	"quipu/api"
	"quipu/fields"
)

// P17.4: All

func TestAllOfEachSpan(t *testing.T) {
	want := []item{{spans("S0-1")[0], "-"}, {spans("I1-6")[0], "1,234"}, {spans("G2-3")[0], ","}, {spans("D6-7")[0], "."}, {spans("F7-8")[0], "5"}}
	if got := all(number()); !slices.Equal(got, want) {
		t.Error(got)
	}
	expectAllByWords(t, number())
	expectAllByWords(t, out("aé€", "N0-6 R0-6 S0-1 I1-3 C3-6"))
}

func TestAllOfNoSpans(t *testing.T) {
	for _, o := range []api.Out{{}, {Spans: []api.Span{}}, out("abc", "")} {
		if got := all(o); len(got) != 0 {
			t.Errorf("%s: %v", told(o, 0), got)
		}
	}
}

// The first ones would be fit, if those behind them were.
func TestAllOfWhatMayNotBe(t *testing.T) {
	for _, o := range []api.Out{out("é", "S0-1"), out("abc", "S0-1 I2-3 F1-2"), out("abc", "S0-3 I0-2 F1-3"), out("abc", "S0-1 F1-4"), out("abc", "S0-1 L1-2"), out("abc", "S0-1 I1-1"), out("ab\xff", "S0-1"), {Text: "abc", Spans: []api.Span{{Field: 1, From: 0, To: 1}, {Field: 18, From: 1, To: 2}}}, {Text: "abc", Spans: []api.Span{{Field: 1, From: -1, To: 1}}}} {
		if got := all(o); len(got) != 0 {
			t.Errorf("%s: %v", told(o, 0), got)
		}
		expectAllByWords(t, o)
	}
}

// firstOf ends after so many.
func firstOf(l iter.Seq2[api.Span, string], n int) []item {
	var first []item
	if n == 0 {
		return nil
	}
	for s, text := range l {
		first = append(first, item{s, text})
		if len(first) == n {
			break
		}
	}
	return first
}

func TestAllEndedEarly(t *testing.T) {
	r := source()
	for range 3000 {
		o := someOut(r)
		for n := range len(o.Spans) + 1 {
			if got := firstOf(fields.All(o), n); !slices.Equal(got, allByWords(o)[:n]) {
				t.Fatalf("%s, %d of them: %v", told(o, 0), n, got)
			}
		}
	}
}

// Behind a no from its caller nothing is told any more.
func TestAllAsksNoFurther(t *testing.T) {
	for n := 1; n <= 5; n++ {
		asked := 0
		fields.All(number())(func(api.Span, string) bool {
			asked++
			return asked < n
		})
		if asked != n {
			t.Errorf("asked %d times, not %d", asked, n)
		}
	}
}

// It may be gone through again, also while it is gone through.
func TestAllAgain(t *testing.T) {
	l := fields.All(number())
	firstOf(l, 2)
	for range l {
		if got := firstOf(l, 9); !slices.Equal(got, allByWords(number())) {
			t.Fatal(got)
		}
	}
}

func TestAllOfSome(t *testing.T) {
	r := source()
	for range 40000 {
		expectAllByWords(t, anyOut(r))
	}
	allOuts(4, 3, func(o api.Out) { expectAllByWords(t, o) })
}
