package rule_test

import (
	"fmt"
	"math/big"
	"strings"
	"sync"
	"testing"

	"quipu/api"
	"quipu/rule"
)

// P9.1: Pick.

const (
	slavic   = "one: n % 10 = 1 and n % 100 != 11; few: n % 10 = 2..4 and n % 100 != 12..14"
	romance  = "many: e = 0 and i != 0 and i % 1000000 = 0 and v = 0 or e != 0..5"
	arabic   = "zero: n = 0; one: n = 1; two: n = 2; few: n % 100 = 3..10; many: n % 100 = 11..99"
	russian  = "one: v = 0 and i % 10 = 1 and i % 100 != 11; few: v = 0 and i % 10 = 2..4 and i % 100 != 12..14; many: v = 0 and i % 10 = 0 or v = 0 and i % 10 = 5..9 or v = 0 and i % 100 = 11..14"
	latvian  = "zero: n % 10 = 0 or n % 100 = 11..19 or v = 2 and f % 100 = 11..19; one: n % 10 = 1 and n % 100 != 11 or v = 2 and f % 10 = 1 and f % 100 != 11 or v != 2 and f % 10 = 1"
	overlaid = "few: n = 1..5; one: n = 1; zero: n = 0..9; two: n = 2; many: n = 7"
)

// picks: a text, and what it picks of numbers, one behind the other.
func picks() []struct {
	text    string
	numbers string
	want    int
} {
	return []struct {
		text    string
		numbers string
		want    int
	}{
		{"", "0 1 2 1.5 1.0 1000000 1.2c6", api.Other}, {"   ", "0 1 2 1.5", api.Other},
		{"one: i = 1 and v = 0", "1 01", api.One}, {"one: i = 1 and v = 0", "1.0 2 0 1.5 10 11", api.Other},
		{slavic, "1 21 101 1.0 001", api.One}, {slavic, "11 111 13 12 14 5 0 10 1.5 3.5 2.1", api.Other}, {slavic, "3 22 2 4 104 1002.00", api.Few},
		{romance, "1000000 2000000 1.2c6 1c7 5c6", api.Many}, {romance, "1 0 1000000.0 1000001 1c5 1.2c3 1c3", api.Other},
		{"two: t = 2,5..7", "1.20 1.6 1.2 3.05 0.7000 .6", api.Two}, {"two: t = 2,5..7", "1.4 1.22 2 1.8 5", api.Other},
		{"one: n != 1", "1.5 0 2 1.01", api.One}, {"one: n != 1", "1 1.0 01.000", api.Other},
		{arabic, "0 0.0", api.Zero}, {arabic, "1 1.0", api.One}, {arabic, "2", api.Two}, {arabic, "3 10 103 110 1003", api.Few}, {arabic, "11 99 111 199", api.Many}, {arabic, "100 101 102 200 0.5 3.5", api.Other},
		{russian, "1 21 101", api.One}, {russian, "2 4 22 104", api.Few}, {russian, "0 5 9 11 14 111 100", api.Many}, {russian, "1.0 2.5 0.0", api.Other},
		{latvian, "0 10 11 19 111 0.0 1.11 5.19", api.Zero}, {latvian, "1 21 1.0 0.1 7.21 7.1 2.001", api.One}, {latvian, "2 9 22 0.2 7.22", api.Other},
		{overlaid, "1 2 3 5 1.0", api.Few}, {overlaid, "0 6 7 9", api.Zero}, {overlaid, "10 1.5 100", api.Other},
		{"one: n = 1 and i = 2 or v = 0", "3 1 2", api.One}, {"one: n = 1 and i = 2 or v = 0", "1.0 2.0", api.Other},
		{"one: v = 0 or n = 1 and i = 2", "3 1 2", api.One}, {"one: v = 0 or n = 1 and i = 2", "1.0 2.0", api.Other},
		{"one: n = 1 and v = 0 or n = 2 and v = 1", "1 2.0", api.One}, {"one: n = 1 and v = 0 or n = 2 and v = 1", "1.0 2 3", api.Other},
		{"one: n = 1 or n = 2 and v = 1 or n = 3", "1 1.0 2.0 3 3.0", api.One}, {"one: n = 1 or n = 2 and v = 1 or n = 3", "2 2.00 4", api.Other},
	}
}

func TestPick(t *testing.T) {
	for _, x := range picks() {
		for _, number := range strings.Fields(x.numbers) {
			expectPick(t, x.text, shown(number), x.want)
		}
	}
}

// Each operand by its letter: with operands whose values all differ, just the one value is found.
func TestPickOperands(t *testing.T) {
	x := ops("31", 6, 4, "12500", "125", 9)
	for letter, value := range map[string]int{"i": 31, "v": 6, "w": 4, "f": 12500, "t": 125, "c": 9, "e": 9} {
		for _, n := range []int{0, 1, 4, 6, 9, 31, 125, 12500, value - 1, value + 1} {
			same := api.Other
			if n == value {
				same = api.One
			}
			expectPick(t, fmt.Sprintf("one: %s = %d", letter, n), x, same)
			expectPick(t, fmt.Sprintf("one: %s != %d", letter, n), x, api.One+api.Other-same)
		}
		for m := 1; m < 150; m++ {
			expectPick(t, fmt.Sprintf("one: %s %% %d = %d", letter, m, value%m), x, api.One)
			expectPick(t, fmt.Sprintf("one: %s %% %d != %d", letter, m, value%m), x, api.Other)
			expectPick(t, fmt.Sprintf("one: %s %% %d = %d", letter, m, value%m+1), x, api.Other)
		}
	}
	for i := range 40 {
		expectPick(t, fmt.Sprintf("one: n = %d", i), shown("31.00"), map[bool]int{true: api.One, false: api.Other}[i == 31])
	}
}

// n with a fraction is = nothing, and != everything; what is left of it has the fraction still.
func TestPickFraction(t *testing.T) {
	for _, number := range []string{"0.5", "1.5", "1.05", "3.999999", "10.1", "11.0001", "1c0", "1.25c1", repeat("9", 4000) + ".1", "0." + repeat("0", 4095) + "1"} {
		x := shown(number)
		equal, unequal := api.Other, api.One
		if number == "1c0" {
			equal, unequal = api.One, api.Other
		}
		for _, expr := range []string{"n", "n % 1", "n % 2", "n % 10", "n % 100", "n % 999999999"} {
			for _, list := range []string{"0..999999999", "0,1", "0..1", "0..1,2..999999999"} {
				expectPick(t, "one: "+expr+" = "+list, x, equal)
				expectPick(t, "one: "+expr+" != "+list, x, unequal)
			}
		}
	}
	expectPick(t, "one: i = 1", shown("1.5"), api.One)
	expectPick(t, "one: n = 1", shown("1.000"), api.One)
	expectPick(t, "one: n % 3 = 1", shown("4.0"), api.One)
	expectPick(t, "one: n = 1", ops("1", 3, 2, "0", "0", 0), api.One)
	expectPick(t, "one: n = 1", ops("1", 3, 2, "300", "30", 0), api.Other)
}

// Lists and ranges, each end and just beyond.
func TestPickLists(t *testing.T) {
	for list, has := range map[string]string{
		"5": "5", "5,7": "5 7", "7,5": "5 7", "5..7": "5 6 7", "5..5": "5", "05..007": "5 6 7", "0": "0", "0..0": "0", "00": "0", "0,9": "0 9", "2..3,5..6": "2 3 5 6", "5..6,2..3,9": "2 3 5 6 9", "1,2,3,4": "1 2 3 4", "4..6,5": "4 5 6", "4..6,5..8": "4 5 6 7 8", "3,3": "3", "000000003": "3", "999999999": "", "9..999999999": "9", "0..999999999": "0 1 2 3 4 5 6 7 8 9",
	} {
		for n := range 10 {
			number := fmt.Sprint(n)
			want := api.Other
			if strings.Contains(" "+has+" ", " "+number+" ") {
				want = api.One
			}
			expectPick(t, "one: n = "+list, shown(number), want)
			expectPick(t, "one: n != "+list, shown(number), api.One+api.Other-want)
			expectPick(t, "one: i % 10 = "+list, shown("777777777777777777777777"+number), want)
			expectPick(t, "one: i = "+list, shown("1000000000000000000000"+number), api.Other)
		}
	}
}

func TestPickGreatNumbers(t *testing.T) {
	for _, x := range []struct {
		text, number string
		want         int
	}{
		{"one: n = 999999999", "999999999", api.One}, {"one: n = 999999999", "1000000000", api.Other}, {"one: n = 999999999", "1999999999", api.Other}, {"one: n = 0..999999999", "1000000000", api.Other}, {"one: n = 0..999999999", "999999999", api.One}, {"one: n != 0..999999999", "1000000000", api.One}, {"one: n = 100000000", "1000000000", api.Other}, {"one: n = 0", "1000000000", api.Other}, {"one: n = 0", "10000000000", api.Other},
		{"one: i = 5", "4294967301", api.Other}, {"one: i = 5", "18446744073709551621", api.Other}, {"one: i = 5", "9223372036854775813", api.Other}, {"one: i = 5", "340282366920938463463374607431768211461", api.Other}, {"one: i = 5", "10000000000000000000005", api.Other}, {"one: i % 10 = 5", "10000000000000000000005", api.One}, {"one: i % 999999999 = 5", "1000000004", api.One}, {"one: i % 999999999 = 0", "999999999", api.One}, {"one: i % 999999999 = 999999998", "999999998", api.One}, {"one: i % 1 = 0", "18446744073709551621", api.One},
		{"one: f = 0..999999999", "1.1000000000", api.Other}, {"one: t = 1", "1.1000000000", api.One}, {"one: f % 10 = 3", "1.10000000000000000003", api.One}, {"one: t % 10 = 3", "1.1000000000000000000300", api.One},
	} {
		expectPick(t, x.text, shown(x.number), x.want)
	}
}

// Operands of as many digits as may be.
func TestPickMostDigits(t *testing.T) {
	for _, digits := range []string{repeat("7", 8192), repeat("9", 8192), "1" + repeat("0", 8191), repeat("1234567890", 819) + "12"} {
		x := ops(digits, 8192, 8192, digits, digits, 8192)
		for _, letter := range []string{"i", "f", "t"} {
			for _, m := range []int64{1, 2, 3, 7, 10, 97, 1000, 65536, 123456789, 999999937, 999999999} {
				left := new(big.Int).Mod(big10(digits), big.NewInt(m))
				expectPick(t, fmt.Sprintf("one: %s %% %d = %d", letter, m, left), x, api.One)
				expectPick(t, fmt.Sprintf("one: %s %% %d != %d", letter, m, left), x, api.Other)
				expectPick(t, fmt.Sprintf("one: %s %% %d = 999999999", letter, m), x, api.Other)
			}
			expectPick(t, "one: "+letter+" = 0..999999999", x, api.Other)
			expectPick(t, "one: "+letter+" != 0..999999999", x, api.One)
		}
		expectPick(t, "one: n % 1 = 0", x, api.Other)
		expectPick(t, "one: n % 10 = "+digits[8191:], ops(digits, 8192, 0, "0", "0", 0), api.One)
	}
	for _, letter := range []string{"v", "w", "c", "e"} {
		x := ops("1", 8192, 8192, "0", "0", 8192)
		expectPick(t, "one: "+letter+" = 8192", x, api.One)
		expectPick(t, "one: "+letter+" = 0..8191,8193..999999999", x, api.Other)
		expectPick(t, "one: "+letter+" % 8192 = 0", x, api.One)
		expectPick(t, "one: "+letter+" % 8191 = 1", x, api.One)
		expectPick(t, "one: "+letter+" % 999999999 = 8192", x, api.One)
	}
}

// Operands that may not be are refused by every text that is one, also where no rule looks at them; a wrong text is told first.
func TestPickErrors(t *testing.T) {
	for _, x := range wrongOperands() {
		for text, want := range map[string]api.Errno{
			"": api.ErrRuleForm, " ": api.ErrRuleForm, "one: n = 1": api.ErrRuleForm, "one: v = 0": api.ErrRuleForm, "one: i = 1; two: e = 2": api.ErrRuleForm, repeat(" ", 1024): api.ErrRuleForm,
			"one": api.ErrRuleText, ";": api.ErrRuleText, "one: n = 1;": api.ErrRuleText, "other: n = 1": api.ErrRuleText, "\xff": api.ErrRuleText, repeat(";", 1024): api.ErrRuleText,
			repeat(" ", 1025): api.ErrRuleLong, repeat(";", 1025): api.ErrRuleLong,
		} {
			if category, err := rule.Pick(text, x); category != 0 || err != want {
				t.Errorf("Pick by %s of %s: %d, error %d, not %d", short(text), operandsText(x), category, err, want)
			}
		}
	}
}

// A text is wrong also where what is wrong stands behind a rule that holds.
func TestPickLooksAtAllOfTheText(t *testing.T) {
	for _, behind := range []string{";", "; one: n = 2", "; two: n = 3..2", "; two: n % 0 = 1", "; two", "; other: n = 1", " or", " and", " or n % 0 = 1", ", 3..2", " or n = 1234567890", "\xff"} {
		if category, err := rule.Pick("one: n = 1"+behind, shown("1")); category != 0 || err != api.ErrRuleText {
			t.Errorf("behind %q: %d, error %d", behind, category, err)
		}
	}
}

func TestPickByWords(t *testing.T) {
	r := source()
	tally := map[int]int{}
	numbers := someOperands()
	for i := range 4000 {
		list := someRules(r, r.IntN(6))
		text := plainly(list)
		if len(text) > 1024 {
			continue
		}
		if i%2 == 0 {
			if other := withBlanks(r, list); len(other) <= 1024 {
				text = other
			}
		}
		for range 12 {
			x := oneOf(r, numbers...)
			want := pickByWords(text, x)
			tally[want]++
			expectPick(t, text, x, want)
		}
	}
	for category := range api.Categories {
		if tally[category] < 1000 {
			t.Error("too few of a category:", tally)
		}
	}
}

// R5: nothing is kept from one call to the next, nor by calls at the same time.
func TestPickKeepsNothing(t *testing.T) {
	var wait sync.WaitGroup
	for range 8 {
		wait.Go(func() {
			for range 50 {
				for _, x := range picks() {
					rule.Check("one: n = 3..2")
					for _, number := range strings.Fields(x.numbers) {
						expectPick(t, x.text, shown(number), x.want)
					}
				}
			}
		})
	}
	wait.Wait()
}
