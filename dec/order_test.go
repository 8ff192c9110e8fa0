package dec_test

import (
	"math"
	"strconv"
	"testing"

	"quipu/api"
	"quipu/dec"
)

// P5.3

func TestCmpExamples(t *testing.T) {
	for _, x := range []struct {
		a, b string
		want int
	}{{"0", "-0", 0}, {"-inf", "-1e1999", -1}, {"nan", "inf", 1}, {"15e-1", "2e0", -1}} {
		if got, err := dec.Cmp(of(x.a), of(x.b)); got != x.want || err != api.OK {
			t.Errorf("Cmp of %s, %s: %d, error %d", x.a, x.b, got, err)
		}
	}
}

// Each row is below the next; those of one row are the same.
func rising() [][]string {
	up := [][]string{
		{"1e-2001"}, {"11e-2002"}, {"2e-2001"}, {repeat("9", 1000) + "e-3000"}, {"1e-2000"}, {"1e-1"}, {"101e-3"}, {"11e-2"}, {"2e-1"}, {"9e-1"}, {"99e-2"},
		{"1e0"}, {"1" + repeat("0", 998) + "1e-999"}, {"10001e-4"}, {"11e-1"}, {"15e-1"}, {"2e0"}, {"9e0"}, {"1e1"}, {"12e0"}, {"123e-1"}, {"2e1"},
		{"999e-1"}, {"1e2"}, {"1001e-1"}, {"12345e0"}, {"1e1998"}, {"1e1999"}, {"11e1998"}, {"9e1999"}, {repeat("9", 1000) + "e1000"}, {"inf"},
	}
	var all [][]string
	for i := len(up) - 1; i >= 0; i-- {
		all = append(all, []string{"-" + up[i][0]})
	}
	return append(append(append(all, []string{"0", "-0"}), up...), []string{"nan"})
}

func TestCmp(t *testing.T) {
	rows := rising()
	for i, row := range rows {
		for j, other := range rows {
			want := max(-1, min(1, i-j))
			for _, a := range row {
				for _, b := range other {
					if got, err := dec.Cmp(of(a), of(b)); got != want || err != api.OK {
						t.Errorf("Cmp of %.80s, %.80s: %d, error %d, not %d", a, b, got, err, want)
					}
				}
			}
		}
	}
}

// The finite ones stand as their values do.
func TestCmpOfValues(t *testing.T) {
	all := valued(120)
	for _, a := range all {
		for _, b := range all {
			if got, err := dec.Cmp(a.dec, b.dec); got != a.value.Cmp(b.value) || err != api.OK {
				t.Errorf("Cmp of %s, %s: %d, error %d", show(a.dec), show(b.dec), got, err)
			}
		}
	}
}

func TestNeg(t *testing.T) {
	for a, want := range map[string]string{
		"0": "-0", "-0": "0", "nan": "nan", "inf": "-inf", "-inf": "inf", "15e-1": "-15e-1", "-15e-1": "15e-1", "1e1999": "-1e1999", "-1e-2001": "1e-2001",
	} {
		expect(t, "Neg of "+a, want)(dec.Neg(of(a)))
	}
	for _, d := range decs(100) {
		other, _ := dec.Neg(d)
		expect(t, "Neg of Neg", textOfDec(d))(dec.Neg(other))
	}
}

// P5.4

func TestScale(t *testing.T) {
	longest := repeat("9", 1000)
	for _, x := range []struct {
		d    string
		k    int
		want string
	}{
		{"15e-1", 3, "15e2"}, {"15e-1", 1999, "15e1998"}, {"15e-1", 2000, "range"}, {"0", 99999, "0"},
		{"15e-1", 0, "15e-1"}, {"15e-1", 1, "15e0"}, {"-15e-1", -1, "-15e-2"}, {"15e-1", -2001, "15e-2002"}, {"15e-1", -2002, "range"},
		{"1e0", 1999, "1e1999"}, {"1e0", 2000, "range"}, {"1e0", -2001, "1e-2001"}, {"1e0", -2002, "range"},
		{"-1e1999", -4000, "-1e-2001"}, {"-1e1999", -4001, "range"}, {"-1e1999", 1, "range"}, {"-1e1999", 0, "-1e1999"},
		{"1e-2001", 4000, "1e1999"}, {"1e-2001", 4001, "range"}, {"1e-2001", -1, "range"}, {"1e-2001", 0, "1e-2001"},
		{longest + "e0", 1000, longest + "e1000"}, {longest + "e0", 1001, "range"}, {longest + "e0", -3000, longest + "e-3000"}, {longest + "e0", -3001, "range"},
	} {
		expect(t, "Scale of "+x.d+" by "+strconv.Itoa(x.k), x.want)(dec.Scale(of(x.d), x.k))
	}
}

func anyInts() []int {
	return []int{math.MinInt, math.MinInt + 1, math.MinInt + 2000, math.MinInt + 3000, -1 << 32, -99999, -4001, -1, 0, 1, 4001, 99999, 1 << 32, math.MaxInt - 3000, math.MaxInt - 2000, math.MaxInt - 1, math.MaxInt}
}

func TestScaleByAnyInt(t *testing.T) {
	for _, k := range anyInts() {
		for _, d := range []string{"0", "-0", "inf", "-inf", "nan"} {
			expect(t, "Scale of "+d+" by "+strconv.Itoa(k), d)(dec.Scale(of(d), k))
		}
		if k >= -1 && k <= 1 {
			continue
		}
		for _, d := range []string{"1e0", "-1e0", "1e1999", "-1e-2001", "37e100", "37e-100", repeat("9", 1000) + "e1000", repeat("9", 1000) + "e-3000"} {
			expect(t, "Scale of "+d+" by "+strconv.Itoa(k), "range")(dec.Scale(of(d), k))
		}
	}
}

// Scale is the product with a power of ten, and P5.6: there and back is what was there.
func TestScaleThereAndBack(t *testing.T) {
	for _, d := range decs(60) {
		for _, k := range []int{-4000, -2500, -1000, -37, -1, 0, 1, 2, 300, 1500, 2000, 4000} {
			if d.Class == api.Finite {
				moved := value(d)
				if d.Digits != "" {
					moved = value(api.Dec{Neg: d.Neg, Digits: d.Digits, Exp: max(d.Exp+k, -depth)})
				}
				expect(t, "Scale by "+strconv.Itoa(k), textOf(moved, d.Neg))(dec.Scale(d, k))
			}
			if there, err := dec.Scale(d, k); err == api.OK {
				expect(t, "back by "+strconv.Itoa(-k), textOfDec(d))(dec.Scale(there, -k))
			}
		}
	}
}
