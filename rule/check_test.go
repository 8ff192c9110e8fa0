package rule_test

import (
	"fmt"
	"slices"
	"strings"
	"testing"

	"quipu/api"
)

// P9.1: Check, and the errors of a text that Pick tells.

func TestCheckTakes(t *testing.T) {
	for _, text := range []string{
		"", " ", "        ", "one: i = 1 and v = 0", "one:n=1", "  one  :  n  =  1  ",
		"one: n % 10 = 1 and n % 100 != 11; few: n % 10 = 2..4 and n % 100 != 12..14",
		"many: e = 0 and i != 0 and i % 1000000 = 0 and v = 0 or e != 0..5",
		"two: t = 2,5..7", "one: n != 1", "one: n = 1,2,3,4..5,6", "one: n = 1,1,1", "one: n = 5..9,1..3,2", "zero: n%2!=0..0",
		"zero: n = 0; one: n = 1; two: n = 2; few: n = 3; many: n = 4", "many: n = 4; few: n = 3; two: n = 2; one: n = 1; zero: n = 0",
		"one: n=1 and n=1 and n=1 or n=1 or n=1 and n=1", "one:n=1or n=2and i=3",
		"one: n = 0", "one: n = 00", "one: n = 007", "one: n % 1 = 0", "one: n % 007 = 1",
	} {
		expectCheck(t, text, api.OK)
	}
}

func TestCheckRefuses(t *testing.T) {
	for _, text := range []string{
		"other: n = 1", "one n = 1", "one: n = 1;", "one: n % 0 = 1", "one: n = 3..2", "one: n = 1; one: n = 2", "one: n = 1234567890", "one: n=1.", "One: n = 1",
		";", ";;", ":", "%", "=", "!=", ",", "..", "+", ".", "!", "one", "one:", "one: n", "one: n =", "one: n %", "one: n % 10", "one: n % 10 =", "one: n != ", "n = 1", ": n = 1", "1: n = 1", "one: 1 = n", "one: 1", "one: = 1", "one: % 10 = 1", "n", "1", "and", "or",
		"one:: n = 1", "one: one: n = 1", "one: n = 1: n = 2", "one; n = 1", "one: n = 1 n = 2", "one: n = 1 few: n = 2", "one: n = 1 2", "one: n i = 1", "one: n = = 1", "one: n == 1", "one: n !== 1", "one: n =! 1", "one: n ! = 1", "one: n ! 1", "one: n != != 1", "one: n = != 1",
		"one: n % % 10 = 1", "one: n % 10 % 10 = 1", "one: n % n = 1", "one: n % 1..2 = 1", "one: n % 1,2 = 1", "one: n 10 = 1", "one: 10 % n = 1", "one: n = 1 % 2", "one: n = n", "one: n = 1..n", "one: n = i..2",
		"one: n = 1..2..3", "one: n = 1...2", "one: n = 1....2", "one: n = 1.. ..2", "one: n = 1. .2", "one: n = 1.2", "one: n = 1,,2", "one: n = ,1", "one: n = 1;,2",
		"one: n = 1 and and n = 2", "one: n = 1 or or n = 2", "one: n = 1 and or n = 2", "one: n = 1 or and n = 2", "one: and n = 1", "one: or n = 1", "one: n and i = 1", "one: n = 1 and 2", "one: n = 1 or 2",
		"; one: n = 1", "one: n = 1;; few: n = 2", "one: n = 1, few: n = 2",
		"one: n = -1", "one: n = +1", "one: n + 1 = 2", "one + one: one", "one+other: few", "one: n = 1e3", "one: n = 0x1", "one: n = 1_0", "one: not n = 1", "one: n is 1", "one: n in 1..2", "one: n mod 10 = 1", "one: n within 1..2", "one: n = 1 @integer 1", "one: n < 2", "one: (n = 1)", "one: n = 1 && i = 1", "one: n = 1 | i = 1", "one: n = 1 # why", "one:\tn = 1",
	} {
		expectCheck(t, text, api.ErrRuleText)
	}
}

// A text with parts of all kinds, and every two of them that may stand side by side.
func everyPart() []string {
	return strings.Fields("zero : n % 10 = 1 and i != 2 , 3 .. 4 or v = 5 ; few : f % 7 != 0 .. 6 , 8")
}

// Blanks may stand ahead of each part and at the end, and nothing else may.
func TestCheckBlanks(t *testing.T) {
	list := everyPart()
	others := []string{"\t", "\n", "\r", "\v", "\f", "\x00", "\x1f", "\x7f", "\u00a0", "\u2003", "\u3000", "\ufeff", "\xa0", "\x85", "_", "\\", "/*", "--"}
	for i := range len(list) + 1 {
		for _, blanks := range []string{" ", "  ", "     "} {
			expectCheck(t, plainly(slices.Insert(slices.Clone(list), i, blanks)), api.OK)
			expectCheck(t, strings.Join(list[:i], "")+blanks+strings.Join(list[i:], ""), checkByWords(strings.Join(list[:i], "")+blanks+strings.Join(list[i:], "")))
		}
		for _, other := range others {
			expectCheck(t, plainly(slices.Insert(slices.Clone(list), i, other)), api.ErrRuleText)
			expectCheck(t, plainly(list[:i])+other+plainly(list[i:]), api.ErrRuleText)
		}
	}
	r := source()
	for range 300 {
		expectCheck(t, withBlanks(r, list), api.OK)
	}
}

// A blank within a part makes two of it.
func TestCheckBlankWithinPart(t *testing.T) {
	for _, text := range []string{"o ne: n = 1", "one: n ! = 1", "one: n = 1. .2", "one: n = 1 0", "one: n % 1 0 = 1", "one: n = 1 a nd i = 1", "one: n = 1 o r i = 1", "one: n = 1..1 0", "one: n = 1 0..20"} {
		expectCheck(t, text, api.ErrRuleText)
		expectCheck(t, strings.Replace(text, ": n", ":   n", 1), api.ErrRuleText)
	}
}

// Each byte, in each place of a text.
func TestCheckBytes(t *testing.T) {
	text := "one: n % 10 = 1..2 and i != 3; few:v=1or e=2,3"
	const known = "abcdefghijklmnopqrstuvwxyz0123456789:;%=!,.+ "
	for b := range 256 {
		one := string([]byte{byte(b)})
		for at := range len(text) + 1 {
			more := text[:at] + one + text[at:]
			want := checkByWords(more)
			if !strings.Contains(known, one) && want != api.ErrRuleText {
				t.Fatalf("%q would be taken", more)
			}
			expectCheck(t, more, want)
			if at < len(text) {
				instead := text[:at] + one + text[at+1:]
				expectCheck(t, instead, checkByWords(instead))
			}
		}
		if !strings.Contains(known, one) {
			expectCheck(t, one, api.ErrRuleText)
			expectCheck(t, repeat(one, 1024), api.ErrRuleText)
		}
	}
}

// Letters, digits and signs of other scripts are none.
func TestCheckOtherScripts(t *testing.T) {
	for _, text := range []string{"оne: n = 1", "one： n = 1", "one: ｎ = 1", "one: n ＝ 1", "one: n ≠ 1", "one: n = ١", "one: n = １", "one: n = 1‥2", "one: n = 1…2", "one: n ％ 10 = 1", "one: n = 1；", "é: n = 1", "onë: n = 1", "one: n\xcc\x81 = 1", "one: n = 1\xff", "\xffone: n = 1", "one: n = 1\xc2", "\xef\xbb\xbfone: n = 1"} {
		expectCheck(t, text, api.ErrRuleText)
	}
}

func TestCheckNumbers(t *testing.T) {
	for _, form := range []string{"one: n = N", "one: n != N", "one: n = 0..N", "one: n = N..999999999", "one: n = 1,N", "one: n = N,1", "one: n % N = 1", "one: n % N = 1..2 and i = 3", "one: n=N;two:n=1", "one: n=1 or n=N"} {
		for size := range 14 {
			for _, digit := range []string{"1", "9"} {
				want := api.OK
				if size == 0 || size > 9 {
					want = api.ErrRuleText
				}
				expectCheck(t, strings.Replace(form, "N", repeat(digit, size), 1), want)
				if size > 0 {
					expectCheck(t, strings.Replace(form, "N", repeat("0", size-1)+digit, 1), want)
				}
			}
		}
		for _, size := range []int{19, 20, 40, 900} {
			expectCheck(t, strings.Replace(form, "N", repeat("1", size), 1), api.ErrRuleText)
			expectCheck(t, strings.Replace(form, "N", repeat("0", size)+"1", 1), api.ErrRuleText)
		}
	}
}

func TestCheckByZero(t *testing.T) {
	for size := 1; size <= 12; size++ {
		for _, form := range []string{"one: n % N = 1", "one: i%N=0", "one: n % N != 1", "one: n = 1 and v % N = 1", "one: n = 1 or f % N = 1", "one: n = 1; two: e % N = 0..5"} {
			expectCheck(t, strings.Replace(form, "N", repeat("0", size), 1), api.ErrRuleText)
		}
	}
	expectCheck(t, "one: n % 10 = 0", api.OK)
	expectCheck(t, "one: n % 100000000 = 000000000", api.OK)
}

// The second number of a range is held against the first one as a number, not as a text.
func TestCheckRangeOrder(t *testing.T) {
	numbers := []int{0, 1, 2, 8, 9, 10, 11, 19, 20, 99, 100, 101, 123456789, 999999998, 999999999}
	for _, first := range numbers {
		for _, last := range numbers {
			want := api.OK
			if last < first {
				want = api.ErrRuleText
			}
			expectCheck(t, fmt.Sprintf("one: n = %d..%d", first, last), want)
			expectCheck(t, fmt.Sprintf("one: n = %09d..%d", first, last), want)
			expectCheck(t, fmt.Sprintf("one: n != 7 , %d .. %09d , 3..4", first, last), want)
		}
	}
}

func TestCheckCategories(t *testing.T) {
	for _, name := range names() {
		want := api.OK
		if name == "other" {
			want = api.ErrRuleText
		}
		expectCheck(t, name+": n = 1", want)
		for _, wrong := range []string{strings.ToUpper(name), strings.ToUpper(name[:1]) + name[1:], name + "s", "a" + name, name[1:], name[:len(name)-1], name + name, name + " " + name, "", name + "1", "1" + name, "n", "five", "and", "or", "not"} {
			expectCheck(t, wrong+": n = 1", api.ErrRuleText)
			expectCheck(t, "two: n = 2; "+wrong+": n = 1", api.ErrRuleText)
		}
	}
	for _, first := range names() {
		for _, second := range names() {
			for _, third := range names() {
				want := api.OK
				if !differ([]string{first, second, third}) || first == "other" || second == "other" || third == "other" {
					want = api.ErrRuleText
				}
				expectCheck(t, first+": n = 1; "+second+": n = 2; "+third+": n = 3", want)
			}
		}
	}
}

// orders hands over all orders of the list.
func orders(list []string, do func(order []string)) {
	if len(list) == 0 {
		do(nil)
		return
	}
	for i, first := range list {
		orders(slices.Delete(slices.Clone(list), i, i+1), func(order []string) {
			do(append([]string{first}, order...))
		})
	}
}

func TestCheckAllFiveInAnyOrder(t *testing.T) {
	orders(names()[:5], func(order []string) {
		text := strings.Join(order, ": n = 1; ") + ": n = 1"
		expectCheck(t, text, api.OK)
		expectPick(t, text, shown("1"), slices.Index(names(), order[0]))
		for _, again := range names() {
			expectCheck(t, text+"; "+again+": n = 2", api.ErrRuleText)
		}
	})
}

func TestCheckOperandLetters(t *testing.T) {
	for b := range 128 {
		letter := string(rune(b))
		want := api.ErrRuleText
		if strings.Contains("nivwftce", letter) {
			want = api.OK
		}
		for _, form := range []string{"one: X = 1", "one: X % 3 = 1", "one: X != 1", "one: n = 1 and X = 2", "one: n = 1 or X % 2 != 2"} {
			expectCheck(t, strings.Replace(form, "X", letter, 1), want)
			for _, two := range []string{letter + "n", "n" + letter} {
				text := strings.Replace(form, "X", two, 1)
				expectCheck(t, text, checkByWords(text)) // a blank, or a sign that the form has, is no letter more
			}
		}
	}
	for _, word := range []string{"ni", "iv", "vw", "wf", "ft", "tc", "ce", "nivwftce", "nn"} {
		expectCheck(t, "one: "+word+" = 1", api.ErrRuleText)
		expectCheck(t, "one: "+word+" % 2 = 1", api.ErrRuleText)
	}
}

// A number and a word may stand side by side, two words may not.
func TestCheckRunTogether(t *testing.T) {
	for _, text := range []string{"one:n=1and i=2", "one:n=1or i=2", "one:n%10=1and i=2or v=3", "one:n=1..2or i=3", "one:n=1,2and i=3"} {
		expectCheck(t, text, api.OK)
	}
	for _, text := range []string{"one:n=1andi=2", "one:n=1ori=2", "one: n = 1 andi = 2", "one: n = 1 ori = 2", "one: n = 1 orand i = 2", "onen: n = 1", "onefew: n = 1", "one: ni = 1", "one: n10 = 1", "one: 10n = 1", "one: n = 1few: n = 2", "one: n = 1n", "one: n = n1", "one1: n = 1", "1one: n = 1", "one: n = 1and2"} {
		expectCheck(t, text, api.ErrRuleText)
	}
}

// Every sign and word at the end of a text, or at its beginning, with nothing behind or ahead.
func TestCheckNothingBehind(t *testing.T) {
	for _, text := range []string{"one: n = 1", "one: n % 10 = 1 and i != 2", "one: n = 1; few: n = 2..3, 5 or i = 7"} {
		expectCheck(t, text, api.OK)
		for _, more := range []string{";", ",", "..", "and", "or", ":", "%", "=", "!=", "+", "n", "one", "1", ".", "!"} {
			for _, blanks := range []string{"", " ", "   "} {
				want := api.ErrRuleText
				if more == "1" && blanks == "" {
					want = api.OK // it is one more digit
				}
				expectCheck(t, text+blanks+more, want)
				expectCheck(t, text+blanks+more+blanks, want)
				expectCheck(t, more+blanks+text, api.ErrRuleText)
				expectCheck(t, text+blanks+more+blanks+";"+blanks+"two:n=1", want)
			}
		}
	}
}

// Every beginning and every end of a text.
func TestCheckCut(t *testing.T) {
	text := plainly(everyPart())
	taken := 0
	for at := range len(text) + 1 {
		for _, part := range []string{text[:at], text[at:]} {
			want := checkByWords(part)
			if want == api.OK {
				taken++
			}
			expectCheck(t, part, want)
		}
	}
	if taken < 8 {
		t.Error("too few are taken:", taken)
	}
}

func TestCheckLong(t *testing.T) {
	full := "one: n = 1" + repeat(",2", 507)
	for _, x := range []struct {
		text string
		want api.Errno
	}{
		{repeat(" ", 1024), api.OK}, {repeat(" ", 1025), api.ErrRuleLong}, {full, api.OK}, {full + " ", api.ErrRuleLong}, {full + "2", api.ErrRuleLong}, {" " + full, api.ErrRuleLong}, {full[1:], api.ErrRuleText}, {full[:1023], api.ErrRuleText}, {full[:1022], api.OK},
		{"one: n = 1" + repeat(" ", 1014), api.OK}, {repeat(" ", 1014) + "one: n = 1", api.OK}, {repeat(" ", 1015) + "one: n = 1", api.ErrRuleLong}, {"one: n = 1" + repeat(" ", 1015), api.ErrRuleLong},
		{repeat("a", 1024), api.ErrRuleText}, {repeat("a", 1025), api.ErrRuleLong}, {repeat(";", 1024), api.ErrRuleText}, {repeat(";", 1025), api.ErrRuleLong}, {repeat("1", 1024), api.ErrRuleText}, {repeat("\xff", 1024), api.ErrRuleText}, {repeat("\xff", 1025), api.ErrRuleLong}, {repeat("é", 512), api.ErrRuleText}, {repeat("é", 513), api.ErrRuleLong}, {repeat("one: n = 1; ", 1<<17), api.ErrRuleLong}, {repeat(" ", 1<<20), api.ErrRuleLong},
		{"one: n = 1" + repeat(" or n=1", 144) + repeat(" ", 6), api.OK}, {"one: n = 1" + repeat(" and n=1", 126) + repeat(" ", 6), api.OK},
	} {
		expectCheck(t, x.text, x.want)
	}
	if len(full) != 1024 {
		t.Error("not as long as may be:", len(full))
	}
}

// Texts, with a part or a byte more, less or another, are held against the grammar.
func TestCheckByWords(t *testing.T) {
	r := source()
	tally := map[api.Errno]int{}
	for range 30000 {
		text := changed(r, someRules(r, r.IntN(4)), everyPart())
		want := checkByWords(text)
		tally[want]++
		expectCheck(t, text, want)
	}
	if tally[api.OK] < 5000 || tally[api.ErrRuleText] < 5000 {
		t.Error("too few of a kind:", tally)
	}
}
