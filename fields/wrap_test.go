package fields_test

import (
	"testing"

	"quipu/api"
)

// P17.3

func number() api.Out { return out("-1,234.5", "S0-1 I1-6 G2-3 D6-7 F7-8") }

func TestWrapExamples(t *testing.T) {
	expectWrap(t, number(), api.Number, 1, 8, "-1,234.5: S0-1 N1-8 I1-6 G2-3 D6-7 F7-8")
	expectWrap(t, number(), api.Number, 2, 7, refused)
	expectWrap(t, number(), api.Number, 0, 8, "-1,234.5: N0-8 S0-1 I1-6 G2-3 D6-7 F7-8")
	expectWrap(t, out("-1,234.5", "N0-8 S0-1 I1-6 G2-3 D6-7 F7-8"), api.RangeStart, 0, 8, "-1,234.5: R0-8 N0-8 S0-1 I1-6 G2-3 D6-7 F7-8")
}

func TestWrapWhereNothingIs(t *testing.T) {
	expectWrap(t, out("abc", ""), api.Currency, 0, 3, "abc: C0-3")
	expectWrap(t, out("abc", ""), api.Currency, 1, 2, "abc: C1-2")
	expectWrap(t, out("abc", ""), api.Currency, 2, 3, "abc: C2-3")
	expectWrap(t, api.Out{}, api.Currency, 0, 0, refused)
	expectWrap(t, api.Out{}, api.Currency, 0, 1, refused)
}

func TestWrapInEveryPlaceOfTheOrder(t *testing.T) {
	o := out("abcdefgh", "S1-3 I3-7 G4-5 D7-8")
	expectWrap(t, o, api.Number, 0, 1, "abcdefgh: N0-1 S1-3 I3-7 G4-5 D7-8")
	expectWrap(t, o, api.Number, 0, 3, "abcdefgh: N0-3 S1-3 I3-7 G4-5 D7-8")
	expectWrap(t, o, api.Number, 1, 2, "abcdefgh: S1-3 N1-2 I3-7 G4-5 D7-8")
	expectWrap(t, o, api.Number, 2, 3, "abcdefgh: S1-3 N2-3 I3-7 G4-5 D7-8")
	expectWrap(t, o, api.Number, 3, 8, "abcdefgh: S1-3 N3-8 I3-7 G4-5 D7-8")
	expectWrap(t, o, api.Number, 3, 5, "abcdefgh: S1-3 I3-7 N3-5 G4-5 D7-8")
	expectWrap(t, o, api.Number, 4, 7, "abcdefgh: S1-3 I3-7 N4-7 G4-5 D7-8")
	expectWrap(t, o, api.Number, 5, 7, "abcdefgh: S1-3 I3-7 G4-5 N5-7 D7-8")
	expectWrap(t, o, api.Number, 6, 7, "abcdefgh: S1-3 I3-7 G4-5 N6-7 D7-8")
}

// The new one stands ahead of those that have its place, which stay as they stood, whatever their fields.
func TestWrapWithASpanThatIsThereAlready(t *testing.T) {
	o := out("abcd", "S0-4 N0-4 I0-4 T1-3 R1-3 S1-3 D1-2 D1-2 F3-4")
	for field := 1; field <= 17; field++ {
		f := letter(field)
		expectWrap(t, o, field, 0, 4, "abcd: "+f+"0-4 S0-4 N0-4 I0-4 T1-3 R1-3 S1-3 D1-2 D1-2 F3-4")
		expectWrap(t, o, field, 1, 3, "abcd: S0-4 N0-4 I0-4 "+f+"1-3 T1-3 R1-3 S1-3 D1-2 D1-2 F3-4")
		expectWrap(t, o, field, 1, 2, "abcd: S0-4 N0-4 I0-4 T1-3 R1-3 S1-3 "+f+"1-2 D1-2 D1-2 F3-4")
		expectWrap(t, o, field, 3, 4, "abcd: S0-4 N0-4 I0-4 T1-3 R1-3 S1-3 D1-2 D1-2 "+f+"3-4 F3-4")
	}
}

func TestWrapWithManyOfOnePlace(t *testing.T) {
	o := out("ab", "")
	want := ""
	for i := range 60 {
		field := 1 + i*7%17
		from, to := i%2*(i/2%2), 1+(i+1)%2
		wrapped, e := wrapByWords(o, field, from, to)
		expectWrapByWords(t, o, field, from, to)
		if e == api.OK {
			o, want = wrapped, told(wrapped, e)
		}
	}
	if len(o.Spans) < 30 {
		t.Error("too few of one place:", want)
	}
}

func TestWrapCrossing(t *testing.T) {
	o := out("abcdef", "I1-4 G2-3")
	for _, x := range [][2]int{{0, 2}, {0, 3}, {2, 5}, {3, 6}, {3, 5}, {0, 2}} {
		expectWrap(t, o, api.Number, x[0], x[1], refused)
	}
	for _, x := range [][2]int{{0, 1}, {0, 4}, {0, 6}, {1, 4}, {1, 2}, {1, 3}, {2, 3}, {2, 4}, {3, 4}, {4, 5}, {4, 6}, {1, 6}} {
		if _, e := wrapByWords(o, api.Number, x[0], x[1]); e != api.OK {
			t.Error("by the words crossing:", x)
		}
		expectWrapByWords(t, o, api.Number, x[0], x[1])
	}
}

func TestWrapFields(t *testing.T) {
	for _, field := range fieldEdges() {
		want := refused
		if field >= 1 && field <= 17 {
			want = "abc: " + letter(field) + "0-2"
		}
		expectWrap(t, out("abc", ""), field, 0, 2, want)
	}
}

func TestWrapPlaces(t *testing.T) {
	for _, from := range edges() {
		for _, to := range edges() {
			expectWrapByWords(t, out("abc", "S0-3 I1-2"), 1, from, to)
			expectWrapByWords(t, out("", ""), 1, from, to)
			if from < 0 || to > 3 || from >= to {
				expectWrap(t, out("abc", ""), 1, from, to, refused)
			}
		}
	}
	const text = "aé€\U0001F600"
	for from := -1; from <= 11; from++ {
		for to := -1; to <= 11; to++ {
			_, e := wrapByWords(out(text, ""), 3, from, to)
			if may := from < to && boundary(from) && boundary(to); may != (e == api.OK) {
				t.Error("by the words", from, to, e)
			}
			expectWrapByWords(t, out(text, ""), 3, from, to)
			expectWrapByWords(t, out(text, "I0-6 G1-3"), 3, from, to)
		}
	}
}

// One that may not be stays so, also where the new span would put it in order.
func TestWrapOfWhatMayNotBe(t *testing.T) {
	for _, o := range []api.Out{out("é", "S0-1"), out("ab", "S1-2 S0-1"), out("abc", "S0-1 I0-2"), out("abc", "S0-2 I1-3"), out("abc", "S0-4"), out("abc", "L0-1"), out("abc", "S1-1"), out("\xff", ""), out("a\xc3", "S0-1")} {
		expectWrap(t, o, api.Number, 0, 1, refused)
		expectWrap(t, o, api.Number, 0, 2, refused)
		expectWrap(t, o, api.Number, 0, 3, refused)
		expectWrap(t, o, 0, 0, 0, refused)
	}
	expectWrap(t, api.Out{Text: "ab", Spans: []api.Span{{Field: 18, From: 0, To: 1}}}, api.Number, 0, 2, refused)
}

func TestWrapAllLists(t *testing.T) {
	allOuts(4, 3, func(o api.Out) {
		for from := -1; from <= 5; from++ {
			for to := -1; to <= 5; to++ {
				if mayByWords(o) || from == 0 {
					expectWrapByWords(t, o, 17, from, to)
				}
			}
		}
	})
}

func TestWrapSome(t *testing.T) {
	r := source()
	for range 40000 {
		o := anyOut(r)
		expectWrapByWords(t, o, someField(r), r.IntN(len(o.Text)+3)-1, r.IntN(len(o.Text)+3)-1)
		places := placesInOrder(someOut(r).Text)
		expectWrapByWords(t, o, 1+r.IntN(17), oneOf(r, places...), oneOf(r, places...))
	}
}
