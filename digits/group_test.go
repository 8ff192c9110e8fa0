package digits_test

import (
	"math"
	"strings"
	"testing"
)

// P16.1: the groups.

func counting(n int) string { return repeat("1234567890", n/10+1)[:n] }

// expectGroups asks for the groups of digits alone.
func expectGroups(t *testing.T, whole string, g sizing, want ...string) {
	t.Helper()
	fields := repeat("IG", len(want))[:2*len(want)-1]
	expectRow(t, plain(whole, ""), latin(), g, strings.Join(want, "|,|")+" "+fields)
}

func TestGroupsAboutTheLeastNumber(t *testing.T) {
	for first := 1; first <= 5; first++ {
		for least := 1; least <= 5; least++ {
			bound := first + least
			for _, n := range []int{bound - 2, bound - 1, bound, bound + 1} {
				whole := counting(n)
				if n == 0 {
					continue
				}
				g := sizes(first, 99, least)
				if n < bound {
					expectGroups(t, whole, g, whole)
				} else {
					expectGroups(t, whole, g, whole[:n-first], whole[n-first:])
				}
			}
		}
	}
}

func TestGroupsOfEachCount(t *testing.T) {
	for n, want := range []string{1: "1", 2: "12", 3: "123", 4: "1,234", 5: "12,345", 6: "123,456", 7: "1,234,567", 8: "12,345,678", 9: "123,456,789", 10: "1,234,567,890"} {
		if n > 0 {
			expectGroups(t, counting(n), sizes(3, 0, 1), strings.Split(want, ",")...)
			expectGroups(t, counting(n), sizes(3, 3, 1), strings.Split(want, ",")...)
		}
	}
	for n, want := range []string{1: "1", 2: "12", 3: "123", 4: "1,234", 5: "12,345", 6: "1,23,456", 7: "12,34,567", 8: "1,23,45,678", 9: "12,34,56,789", 10: "1,23,45,67,890"} {
		if n > 0 {
			expectGroups(t, counting(n), sizes(3, 2, 1), strings.Split(want, ",")...)
		}
	}
	for n, want := range []string{1: "1", 2: "12", 3: "1,23", 4: "12,34", 5: "123,45", 6: "1,234,56", 7: "12,345,67", 8: "123,456,78", 9: "1,234,567,89"} {
		if n > 0 {
			expectGroups(t, counting(n), sizes(2, 3, 1), strings.Split(want, ",")...)
		}
	}
}

// The least number is asked of the first separator alone: farther ahead one digit is enough.
func TestGroupsFartherAheadOfOneDigit(t *testing.T) {
	expectGroups(t, "123456", sizes(3, 2, 2), "1", "23", "456")
	expectGroups(t, "1234567", sizes(3, 3, 4), "1", "234", "567")
	expectGroups(t, "123456", sizes(3, 3, 4), "123456")
	expectGroups(t, "123456", sizes(1, 1, 5), "1", "2", "3", "4", "5", "6")
	expectGroups(t, "12345", sizes(1, 1, 5), "12345")
}

func TestGroupsOfSmallSizes(t *testing.T) {
	for _, further := range []int{math.MinInt, -1, 0, 1} {
		expectGroups(t, "1234", sizes(1, further, 1), "1", "2", "3", "4")
	}
	for _, further := range []int{math.MinInt, math.MinInt + 1, -3, -1, 0} {
		expectGroups(t, "1234567", sizes(3, further, 1), "1", "234", "567")
	}
	expectGroups(t, "1234567", sizes(3, 1, 1), "1", "2", "3", "4", "567")
	expectGroups(t, "1234567", sizes(1, 3, 1), "123", "456", "7")
	for _, first := range []int{math.MinInt, math.MinInt + 1, -3, -1, 0} {
		for _, further := range []int{math.MinInt, 0, 1, 2, 3, math.MaxInt} {
			expectGroups(t, "1234567", sizes(first, further, 1), "1234567")
		}
	}
}

func TestGroupsOfGreatSizes(t *testing.T) {
	for _, first := range []int{7, 8, 9, 1 << 32, math.MaxInt - 7, math.MaxInt - 6, math.MaxInt - 1, math.MaxInt} {
		for _, least := range []int{math.MinInt, 0, 1, 2, math.MaxInt - 1, math.MaxInt} {
			expectGroups(t, "1234567", sizes(first, 1, least), "1234567")
		}
	}
	expectGroups(t, "1234567", sizes(6, 1, 1), "1", "234567")
	for _, further := range []int{4, 5, 1 << 32, math.MaxInt - 3, math.MaxInt - 1, math.MaxInt} {
		expectGroups(t, "1234567", sizes(3, further, 1), "1234", "567")
	}
	expectGroups(t, "1234567", sizes(4, 3, 1), "123", "4567")
	expectGroups(t, "1234567", sizes(4, 2, 1), "1", "23", "4567")
}

func TestGroupsOfLeastNumbers(t *testing.T) {
	for _, least := range []int{math.MinInt, math.MinInt + 1, math.MinInt + 3, -3, -1, 0, 1} {
		expectGroups(t, "1234", sizes(3, 0, least), "1", "234")
		expectGroups(t, "123", sizes(3, 0, least), "123")
	}
	for _, least := range []int{2, 3, 1 << 32, math.MaxInt - 4, math.MaxInt - 3, math.MaxInt - 1, math.MaxInt} {
		expectGroups(t, "1234", sizes(3, 0, least), "1234")
	}
}

// Sizes of 0 to 12, and the ends of what an int is, of all counts up to 14.
func TestGroupsByWords(t *testing.T) {
	some := []int{math.MinInt, math.MinInt + 1, -1, 0, 1, 2, 3, 4, 5, 6, 7, 12, 13, 14, 15, math.MaxInt - 14, math.MaxInt - 1, math.MaxInt}
	for n := range 15 {
		for _, first := range some {
			for _, further := range some {
				for _, least := range some {
					expectByWords(t, plain(counting(n), "5"), latin(), sizes(first, further, least))
				}
			}
		}
	}
}
