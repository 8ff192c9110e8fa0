package fields_test

import (
	"testing"

	"quipu/api"
)

// P17.1

func TestCheckExamples(t *testing.T) {
	expectCheck(t, out("é", "S0-1"), false)
	expectCheck(t, out("ab", "S1-2 S0-1"), false)
	expectCheck(t, out("-1,234.5", "S0-1 I1-6 G2-3 D6-7 F7-8"), true)
	expectCheck(t, api.Out{}, true)
	expectCheck(t, out("a", ""), true)
}

func TestCheckTexts(t *testing.T) {
	for _, text := range broken() {
		expectCheck(t, out(text, ""), false)
		expectCheck(t, out("a"+text, "S0-1"), false)
		expectCheck(t, out(text+"a", ""), false)
	}
	for _, text := range []string{"\x00", "\x7f", "\u0080", "\u07ff", "\u0800", "\ud7ff", "\ue000", "\ufffd", "\uffff", "\U00010000", "\U0010ffff"} {
		expectCheck(t, out(text, ""), true)
		expectCheck(t, api.Out{Text: text, Spans: []api.Span{{Field: 1, From: 0, To: len(text)}}}, true)
	}
}

func TestCheckFields(t *testing.T) {
	for _, field := range fieldEdges() {
		expectCheck(t, api.Out{Text: "a", Spans: []api.Span{{Field: field, From: 0, To: 1}}}, field >= 1 && field <= 17)
		expectCheck(t, api.Out{Text: "ab", Spans: []api.Span{{Field: 1, From: 0, To: 1}, {Field: field, From: 1, To: 2}}}, field >= 1 && field <= 17)
	}
	for field := 1; field <= 17; field++ {
		expectCheck(t, api.Out{Text: "a", Spans: []api.Span{{Field: field, From: 0, To: 1}}}, true)
	}
}

func TestCheckPlaces(t *testing.T) {
	for _, from := range edges() {
		for _, to := range edges() {
			may := from >= 0 && from < to && to <= 3
			expectCheck(t, api.Out{Text: "abc", Spans: []api.Span{{Field: 1, From: from, To: to}}}, may)
			expectCheck(t, api.Out{Spans: []api.Span{{Field: 1, From: from, To: to}}}, false)
		}
	}
}

// Of a text with runes of one, two, three, four bytes.
func TestCheckPlacesWithinRunes(t *testing.T) {
	const text = "aé€\U0001F600"
	for from := -1; from <= 11; from++ {
		for to := -1; to <= 11; to++ {
			may := from < to && boundary(from) && boundary(to)
			expectCheck(t, api.Out{Text: text, Spans: []api.Span{{Field: 5, From: from, To: to}}}, may)
		}
	}
}

func boundary(at int) bool { return at == 0 || at == 1 || at == 3 || at == 6 || at == 10 }

func TestCheckFromAtAndAboveTo(t *testing.T) {
	for _, list := range []string{"S0-0", "S1-1", "S3-3", "S1-0", "S3-0", "S3-2", "S0-3 S1-1", "S0-3 S2-1"} {
		expectCheck(t, out("abc", list), false)
	}
}

func TestCheckOrder(t *testing.T) {
	for _, list := range []string{"S0-1 I1-2 D2-3", "S0-3 I0-2 D0-1", "S0-3 I1-3 D2-3", "S0-3 I1-2 D2-3", "S0-2 I0-1 D1-2 F2-3", "S0-3 S0-3"} {
		expectCheck(t, out("abc", list), true)
	}
	for _, list := range []string{"I1-2 S0-1 D2-3", "S0-1 D2-3 I1-2", "S0-2 I0-3", "I0-2 S0-3 D0-1", "S0-3 I0-1 D0-2", "S0-3 D2-3 I1-3", "S1-3 I0-3", "I1-2 S0-3"} {
		expectCheck(t, out("abc", list), false)
	}
}

// Of spans that have the same place each is within the other, whatever their fields.
func TestCheckEqualSpans(t *testing.T) {
	for _, list := range []string{"S0-3 S0-3", "S0-3 I0-3", "I0-3 S0-3", "N1-2 R1-2 N1-2", "S0-3 I1-2 I1-2 F2-3", "I0-2 I0-2 I2-3 I2-3"} {
		expectCheck(t, out("abc", list), true)
	}
	expectCheck(t, out("abc", "I0-2 I0-2 I1-3"), false)
}

func TestCheckNestedAndApart(t *testing.T) {
	for _, list := range []string{"S0-4 I1-3 G2-3", "S0-1 I3-4", "S0-2 I2-4", "S0-1 I1-2 D2-3 F3-4", "S0-4 I0-2 G0-1 D2-4 F3-4", "S1-3 I1-2 G2-3"} {
		expectCheck(t, out("abcd", list), true)
	}
}

func TestCheckCrossing(t *testing.T) {
	for _, list := range []string{"S0-2 I1-3", "S0-3 I1-4", "S0-4 I0-2 G1-3", "S0-3 I1-2 G2-4", "S0-1 I1-3 G2-4", "S0-4 I1-3 G2-4", "S0-3 I0-2 G0-1 D2-4", "S0-3 I1-2 D2-3 F2-4", "S0-4 I0-3 G1-2 D2-4"} {
		expectCheck(t, out("abcd", list), false)
	}
}

func TestCheckAllLists(t *testing.T) {
	allOuts(4, 4, func(o api.Out) { expectCheckByWords(t, o) })
	allOuts(3, 5, func(o api.Out) { expectCheckByWords(t, o) })
}

func TestCheckSome(t *testing.T) {
	r := source()
	may, mayNot := 0, 0
	for range 50000 {
		o := anyOut(r)
		expectCheckByWords(t, o)
		if mayByWords(o) {
			may++
		} else {
			mayNot++
		}
	}
	if may < 5000 || mayNot < 5000 {
		t.Error("too few of one kind:", may, mayNot)
	}
}
