package fields_test

import (
	"testing"

	"quipu/api"
)

// P17.4: Leaves

func TestLeavesExamples(t *testing.T) {
	expectLeaves(t, number(), "S-|I1|G,|I234|D.|F5")
}

func TestLeavesOfNoText(t *testing.T) {
	expectLeaves(t, api.Out{}, "")
	expectLeaves(t, api.Out{Spans: []api.Span{}}, "")
}

func TestLeavesOfNoSpans(t *testing.T) {
	expectLeaves(t, out("a", ""), "La")
	expectLeaves(t, out("aé€", ""), "Laé€")
}

func TestLeavesOfOneSpan(t *testing.T) {
	expectLeaves(t, out("abc", "S0-3"), "Sabc")
	expectLeaves(t, out("abc", "S0-1"), "Sa|Lbc")
	expectLeaves(t, out("abc", "S2-3"), "Lab|Sc")
	expectLeaves(t, out("abc", "S1-2"), "La|Sb|Lc")
	expectLeaves(t, out("aé€", "S1-3"), "La|Sé|L€")
}

func TestLeavesOfNestedSpans(t *testing.T) {
	expectLeaves(t, out("abcde", "N0-5 I1-4 G2-3"), "Na|Ib|Gc|Id|Ne")
	expectLeaves(t, out("abcde", "N0-5 I0-3 G0-1"), "Ga|Ibc|Nde")
	expectLeaves(t, out("abcde", "N0-5 I2-5 G4-5"), "Nab|Icd|Ge")
	expectLeaves(t, out("abcde", "N0-5 I0-2 S0-1 D2-4 F3-4"), "Sa|Ib|Dc|Fd|Ne")
	expectLeaves(t, out("abcdef", "N1-5 I2-3 G3-4"), "La|Nb|Ic|Gd|Ne|Lf")
	expectLeaves(t, out("abcdefg", "R0-6 N1-5 I2-4 G3-4"), "Ra|Nb|Ic|Gd|Ne|Rf|Lg")
}

// What is side by side, or apart, in one field or in two, stays apart.
func TestLeavesOfSpansSideBySide(t *testing.T) {
	expectLeaves(t, out("abcd", "S0-1 I1-2 D2-3 F3-4"), "Sa|Ib|Dc|Fd")
	expectLeaves(t, out("abcd", "I0-2 I2-4"), "Iab|Icd")
	expectLeaves(t, out("abcd", "S0-1 I3-4"), "Sa|Lbc|Id")
	expectLeaves(t, out("abcd", "N0-4 N1-2 N2-3"), "Na|Nb|Nc|Nd")
}

// A boundary is one between leaves also where the field is the same.
func TestLeavesOfTheSameFieldWithin(t *testing.T) {
	expectLeaves(t, out("abcd", "I0-4 I1-3"), "Ia|Ibc|Id")
	expectLeaves(t, out("abcd", "I0-4 I0-2"), "Iab|Icd")
}

// Of spans that have the same place the last one tells the field.
func TestLeavesOfEqualSpans(t *testing.T) {
	expectLeaves(t, out("abc", "R0-3 N0-3"), "Nabc")
	expectLeaves(t, out("abc", "N0-3 R0-3"), "Rabc")
	expectLeaves(t, out("abc", "N0-3 R0-3 S0-1 I0-1 F1-2"), "Ia|Fb|Rc")
	expectLeaves(t, out("abc", "I1-2 I1-2 G1-2 I1-2"), "La|Ib|Lc")
}

func TestLeavesOfWhatMayNotBe(t *testing.T) {
	for _, o := range []api.Out{out("é", "S0-1"), out("ab", "S1-2 S0-1"), out("abc", "S0-2 I1-3"), out("abc", "S0-4"), out("abc", "L0-1"), out("abc", "S1-1"), out("\xff", ""), out("", "S0-1")} {
		expectLeaves(t, o, refused)
	}
}

func TestLeavesOfAllLists(t *testing.T) {
	allOuts(4, 4, func(o api.Out) { expectLeavesByWords(t, o) })
	allOuts(6, 2, func(o api.Out) { expectLeavesByWords(t, o) })
}

func TestLeavesOfSome(t *testing.T) {
	r := source()
	for range 40000 {
		expectLeavesByWords(t, anyOut(r))
	}
}
