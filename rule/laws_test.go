package rule_test

import (
	"fmt"
	"math/big"
	"slices"
	"strings"
	"testing"

	"quipu/api"
	"quipu/rule"
)

// P9.3

func pick(t *testing.T, text string, x api.Operands) int {
	t.Helper()
	category, err := rule.Pick(text, x)
	if err != api.OK {
		t.Fatalf("Pick by %s of %s: error %d", short(text), operandsText(x), err)
	}
	return category
}

// holds: does a condition, alone in a text?
func holds(t *testing.T, condition string, x api.Operands) bool {
	t.Helper()
	return pick(t, "one: "+condition, x) == api.One
}

func categoryOf(holds bool) int {
	if holds {
		return api.One
	}
	return api.Other
}

func TestBlanksMakeNoDifference(t *testing.T) {
	r := source()
	numbers := someOperands()
	for range 1500 {
		list := someRules(r, r.IntN(4))
		text := plainly(list)
		if len(text) > 1024 {
			continue
		}
		for range 5 {
			other := withBlanks(r, list)
			if len(other) > 1024 {
				continue
			}
			expectCheck(t, other, api.OK)
			x := oneOf(r, numbers...)
			expectPick(t, other, x, pick(t, text, x))
		}
	}
}

func TestEqualAndUnequalHoldByTurns(t *testing.T) {
	r := source()
	numbers := someOperands()
	tally := map[bool]int{}
	for range 10000 {
		expr, list, x := plainly(someExpr(r)), plainly(someList(r)), oneOf(r, numbers...)
		equal := holds(t, expr+" = "+list, x)
		tally[equal]++
		if holds(t, expr+" != "+list, x) == equal {
			t.Errorf("%s and %s: both %t, of %s", expr, list, equal, operandsText(x))
		}
	}
	if tally[true] < 1000 || tally[false] < 1000 {
		t.Error("too few of a kind:", tally)
	}
}

// An all holds just if each relation alone does.
func TestAllHoldsByItsRelations(t *testing.T) {
	r := source()
	numbers := someOperands()
	tally := map[bool]int{}
	for range 4000 {
		x := oneOf(r, numbers...)
		var relations []string
		want := true
		for range 1 + r.IntN(5) {
			relation := plainly(someRelation(r))
			relations = append(relations, relation)
			want = want && holds(t, relation, x)
		}
		tally[want]++
		for range 3 {
			expectPick(t, "one: "+strings.Join(relations, " and "), x, categoryOf(want))
			r.Shuffle(len(relations), func(i, j int) { relations[i], relations[j] = relations[j], relations[i] })
		}
	}
	if tally[true] < 500 || tally[false] < 500 {
		t.Error("too few of a kind:", tally)
	}
}

// A condition holds just if one all alone does.
func TestConditionHoldsByItsAlls(t *testing.T) {
	r := source()
	numbers := someOperands()
	tally := map[bool]int{}
	for range 4000 {
		x := oneOf(r, numbers...)
		var alls []string
		want := false
		for range 1 + r.IntN(4) {
			all := plainly(someAll(r))
			alls = append(alls, all)
			want = want || holds(t, all, x)
		}
		tally[want]++
		for range 3 {
			expectPick(t, "one: "+strings.Join(alls, " or "), x, categoryOf(want))
			r.Shuffle(len(alls), func(i, j int) { alls[i], alls[j] = alls[j], alls[i] })
		}
	}
	if tally[true] < 500 || tally[false] < 500 {
		t.Error("too few of a kind:", tally)
	}
}

// A rule more at the end changes nothing of what an earlier one picks; where none did, it picks by its own condition.
func TestRuleMoreAtTheEnd(t *testing.T) {
	r := source()
	numbers := someOperands()
	tally := map[string]int{}
	for range 4000 {
		list := someRules(r, 1+r.IntN(4))
		text, condition, x := plainly(list), plainly(someCondition(r)), oneOf(r, numbers...)
		for category, name := range names()[:5] {
			more := text + " ; " + name + " : " + condition
			if slices.Contains(list, name) || len(more) > 1024 {
				continue
			}
			want := pick(t, text, x)
			if want != api.Other {
				tally["earlier"]++
			} else if holds(t, condition, x) {
				want = category
				tally["last"]++
			}
			expectPick(t, more, x, want)
		}
	}
	if tally["earlier"] < 1000 || tally["last"] < 1000 {
		t.Error("too few of a kind:", tally)
	}
}

// Of several rules the first one that holds counts, in whatever order they stand.
func TestFirstRuleThatHolds(t *testing.T) {
	conditions := map[string]string{"zero": "n = 0..3", "one": "n = 1..4", "two": "n = 2..5", "few": "n = 3..6", "many": "n = 4..7"}
	orders(names()[:5], func(order []string) {
		var rules []string
		for _, name := range order {
			rules = append(rules, name+": "+conditions[name])
		}
		for n := range 10 {
			want := api.Other
			for _, name := range slices.Backward(order) {
				if at := slices.Index(names(), name); at <= n && n <= at+3 {
					want = at
				}
			}
			expectPick(t, strings.Join(rules, "; "), shown(fmt.Sprint(n)), want)
		}
	})
}

// leftOf: what is left of digits, as digits.
func leftOf(digits string, m int64) string {
	return new(big.Int).Mod(big10(digits), big.NewInt(m)).String()
}

// A relation with % m sees the rest of a whole number alone: the number may be its rest, or the rest and m as often as one likes.
func TestRestIsAllThatIsSeen(t *testing.T) {
	r := source()
	tally := map[bool]int{}
	for range 3000 {
		m := int64(oneOf(r, 1, 2, 3, 7, 10, 16, 100, 999, 1000000, 999999937, 999999999))
		list := plainly(someList(r))
		x := oneOf(r, someDigits(r.IntN)...)
		rest := leftOf(x, m)
		times := new(big.Int).Mul(big10(oneOf(r, "1", "2", "1000000000000000000000000000000", repeat("9", 60))), big.NewInt(m))
		further := new(big.Int).Add(big10(x), times).String()
		for _, digits := range []string{x, rest, further} {
			seen := tellsRest(t, m, list, digits)
			if seen != relationByWords("i = "+laid(list), shown(rest)) {
				t.Errorf("%% %d = %s of %s: %t", m, list, short(digits), seen)
			}
			tally[seen]++
		}
	}
	if tally[true] < 1000 || tally[false] < 1000 {
		t.Error("too few of a kind:", tally)
	}
}

func laid(text string) string {
	parts, _ := laidOut(text)
	return parts
}

func someDigits(below func(int) int) []string {
	list := []string{"0", "1", "18446744073709551621", repeat("7", 4000)}
	for range 6 {
		list = append(list, fmt.Sprint(below(30)), fmt.Sprint(below(1000000)), fmt.Sprint(below(1<<60)))
	}
	return list
}

// tellsRest asks for the same rest of each operand whose digits these may be, and of both signs.
func tellsRest(t *testing.T, m int64, list, digits string) bool {
	t.Helper()
	seen := holds(t, fmt.Sprintf("i %% %d = %s", m, list), ops(digits, 0, 0, "0", "0", 0))
	for letter, x := range map[string]api.Operands{
		"n": ops(digits, 2, 0, "0", "0", 3), "i": ops(digits, 2, 1, "30", "3", 0), "f": ops("0", 8192, 8192, digits, digits, 0), "t": ops("0", 8192, 8192, digits, digits, 0),
	} {
		if holds(t, fmt.Sprintf("%s %% %d = %s", letter, m, list), x) != seen {
			t.Errorf("%s %% %d = %s of %s is not %t", letter, m, list, short(digits), seen)
		}
		if holds(t, fmt.Sprintf("%s %% %d != %s", letter, m, list), x) == seen {
			t.Errorf("%s %% %d != %s of %s is %t", letter, m, list, short(digits), seen)
		}
	}
	return seen
}

func TestRestOfCounts(t *testing.T) {
	for n := range 300 {
		for m := 1; m < 40; m++ {
			for _, x := range []struct {
				letter string
				x      api.Operands
			}{{"v", ops("1", n, 0, "0", "0", 0)}, {"w", ops("1", 300, n, "0", "0", 0)}, {"c", ops("1", 0, 0, "0", "0", n)}, {"e", ops("1", 0, 0, "0", "0", n)}} {
				expectPick(t, fmt.Sprintf("one: %s %% %d = %d", x.letter, m, n%m), x.x, api.One)
				expectPick(t, fmt.Sprintf("one: %s %% %d = %d", x.letter, m, n%m+m), x.x, api.Other)
			}
		}
	}
}
