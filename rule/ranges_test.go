package rule_test

import (
	"fmt"
	"math"
	"slices"
	"strings"
	"testing"

	"quipu/api"
	"quipu/rule"
)

// P9.2

func TestCheckRangesTakes(t *testing.T) {
	for _, text := range []string{"", "  ", "one+other: few", "one+one:one", "  one  +  one  :  one  ", "one+other: few; other+one:zero", "one+two: few; two+one: few; one+one: one; two+two: two", "other+other: other", "zero+many:other;many+zero:zero"} {
		expectCheckRanges(t, text, api.OK)
	}
}

func TestCheckRangesRefuses(t *testing.T) {
	for _, text := range []string{
		"one+one: one; one+one: two", "one+one: one; one+one: one", "one+one: one; two+two: two; one+one: two", "one: one", "one+one one", "one+uno: one", ";", ";;", "one", "one+", "one+one", "one+one:", "+one: one", "one+: one", "+: one", ":", "+", "+:", ": one", "one one: one", "one:one+one", "one++one: one", "one+one+one: one", "one+one:: one", "one+one: one one", "one+one: one: one", "one+one: one+one", "one+one: one two+two: two", "one+one: one;", "; one+one: one", "one+one: one;; two+two: two", "one+one: one, two+two: two", "One+one: one", "one+One: one", "one+one: One", "ones+one: one", "one+one: on", "1+one: one", "one+1: one", "one+one: 1", "one+one = one", "one+one: n = 1", "one: n = 1", "oneone: one", "one+oneone: one", "o ne+one: one", "one\t+one: one", "one+one: one\n", "one+one\x00: one", "one+one: one\xff", "\xffone+one: one", "one＋one: one", "one-one: one", "one..one: one", "one,one: one", "one%one: one", "one!=one: one", "five+one: one", "one+n: one", "and+or: one",
	} {
		expectCheckRanges(t, text, api.ErrRuleText)
	}
}

// eachPair hands over all pairs of categories.
func eachPair(do func(start, end int)) {
	for start := range api.Categories {
		for end := range api.Categories {
			do(start, end)
		}
	}
}

// One entry, of all categories: it answers for its two, and for no others.
func TestPickRangeOfOneEntry(t *testing.T) {
	eachPair(func(first, second int) {
		for category, name := range names() {
			text := names()[first] + "+" + names()[second] + ": " + name
			expectCheckRanges(t, text, api.OK)
			eachPair(func(start, end int) {
				want := end
				if start == first && end == second {
					want = category
				}
				expectRange(t, text, start, end, want)
			})
		}
	})
}

// wanted: the category that the tests give to two.
func wanted(start, end int) int { return (5*start + 3*end + 1) % api.Categories }

// allEntries: one for each two, in an order that is neither theirs nor the other way round.
func allEntries() []string {
	var list []string
	for i := range 36 {
		at := i * 7 % 36
		list = append(list, names()[at/6]+"+"+names()[at%6]+":"+names()[wanted(at/6, at%6)])
	}
	return list
}

func TestPickRangeOfAllEntries(t *testing.T) {
	list := allEntries()
	text := strings.Join(list, ";")
	expectCheckRanges(t, text, api.OK)
	eachPair(func(start, end int) { expectRange(t, text, start, end, wanted(start, end)) })
	for i, entry := range list {
		without := strings.Join(slices.Delete(slices.Clone(list), i, i+1), " ; ")
		eachPair(func(start, end int) {
			want := wanted(start, end)
			if strings.HasPrefix(entry, names()[start]+"+"+names()[end]+":") {
				want = end
			}
			expectRange(t, without, start, end, want)
		})
		head, _, _ := strings.Cut(entry, ":")
		for _, name := range names() {
			expectCheckRanges(t, text+"; "+head+": "+name, api.ErrRuleText)
			expectCheckRanges(t, without+"; "+head+": "+name, api.OK)
		}
	}
}

func TestPickRangeOfNoEntry(t *testing.T) {
	for _, text := range []string{"", " ", repeat(" ", 1024)} {
		eachPair(func(start, end int) { expectRange(t, text, start, end, end) })
	}
}

// Start and end at both ends, just beyond, and at the ends of an int; a wrong text is told first.
func TestPickRangeErrors(t *testing.T) {
	places := []int{math.MinInt, math.MinInt + 1, -1 << 32, -6, -1, 0, 1, 4, 5, 6, 7, 11, 36, 1 << 32, 1<<32 + 1, math.MaxInt - 1, math.MaxInt}
	texts := map[string]api.Errno{"": api.OK, "one+other: few": api.OK, strings.Join(allEntries(), ";"): api.OK, "one": api.ErrRuleText, ";": api.ErrRuleText, "one+one: one; one+one: two": api.ErrRuleText, repeat(" ", 1025): api.ErrRuleLong, repeat(";", 1025): api.ErrRuleLong}
	for _, start := range places {
		for _, end := range places {
			for text, want := range texts {
				if want == api.OK && (start < 0 || start > 5 || end < 0 || end > 5) {
					want = api.ErrArg
				}
				category, err := rule.PickRange(text, start, end)
				if err != want || err != api.OK && category != 0 {
					t.Errorf("PickRange by %s of %d, %d: %d, error %d, not %d", short(text), start, end, category, err, want)
				}
			}
		}
	}
}

func TestCheckRangesLong(t *testing.T) {
	text := "one+other: few"
	for _, x := range []struct {
		text string
		want api.Errno
	}{
		{repeat(" ", 1024), api.OK}, {repeat(" ", 1025), api.ErrRuleLong}, {text + repeat(" ", 1024-len(text)), api.OK}, {repeat(" ", 1024-len(text)) + text, api.OK}, {repeat(" ", 1025-len(text)) + text, api.ErrRuleLong}, {repeat("+", 1024), api.ErrRuleText}, {repeat("+", 1025), api.ErrRuleLong}, {repeat("\xff", 1024), api.ErrRuleText}, {repeat("\xff", 1025), api.ErrRuleLong}, {repeat(text+";", 1<<16), api.ErrRuleLong},
	} {
		expectCheckRanges(t, x.text, x.want)
	}
}

// Every part taken out, twice over, or another, of several entries.
func TestCheckRangesParts(t *testing.T) {
	list := strings.Fields("one + other : few ; zero + zero : many ; other + one : two")
	others := append(strings.Fields(": ; % = != , .. + n and or 1 10 ones five"), names()...)
	taken := 0
	try := func(parts []string) {
		text := plainly(parts)
		want := checkRangesByWords(text)
		if want == api.OK {
			taken++
		}
		expectCheckRanges(t, text, want)
	}
	for i := range len(list) + 1 {
		try(list[:i])
		try(list[i:])
		for _, other := range others {
			try(slices.Insert(slices.Clone(list), i, other))
			if i < len(list) {
				try(slices.Replace(slices.Clone(list), i, i+1, other))
			}
		}
		if i < len(list) {
			try(slices.Delete(slices.Clone(list), i, i+1))
		}
	}
	if taken < 40 {
		t.Error("too few are taken:", taken)
	}
}

func TestCheckRangesBytes(t *testing.T) {
	text := "one+other: few; other+one:zero"
	for b := range 256 {
		one := string([]byte{byte(b)})
		for at := range len(text) + 1 {
			more := text[:at] + one + text[at:]
			expectCheckRanges(t, more, checkRangesByWords(more))
		}
		if b != ' ' {
			expectCheckRanges(t, one, api.ErrRuleText)
		}
	}
}

func TestCheckRangesByWords(t *testing.T) {
	r := source()
	tally := map[api.Errno]int{}
	others := strings.Fields("zero one two few many other + : ; , = 1 n .. one two other")
	for range 40000 {
		text := changed(r, someEntries(r, r.IntN(5)), others)
		want := checkRangesByWords(text)
		tally[want]++
		expectCheckRanges(t, text, want)
	}
	if tally[api.OK] < 5000 || tally[api.ErrRuleText] < 5000 {
		t.Error("too few of a kind:", tally)
	}
}

// Blanks between parts make no difference to ranges either.
func TestPickRangeBlanks(t *testing.T) {
	r := source()
	for range 500 {
		list := someEntries(r, r.IntN(12))
		eachPair(func(start, end int) {
			want, err := rule.PickRange(plainly(list), start, end)
			if err != api.OK {
				t.Fatal(fmt.Sprint(list), err)
			}
			expectRange(t, withBlanks(r, list), start, end, want)
		})
	}
}
