package whole_test

import (
	"strings"
	"testing"

	"quipu/api"
	"quipu/nat"
	"quipu/whole"
)

// P2.4

func TestText(t *testing.T) {
	for _, x := range []struct {
		a    []uint64
		want string
	}{
		{nil, "0"},
		{l(), "0"},
		{l(0), "0"},
		{l(0, 0, 0), "0"},
		{l(1), "1"},
		{l(9), "9"},
		{l(10), "10"},
		{l(120), "120"},
		{l(7, 0, 0), "7"},
		{l(9999999999999999999), "9999999999999999999"},
		{l(10000000000000000000), "10000000000000000000"},
		{l(10000000000000000007), "10000000000000000007"},
		{l(m), "18446744073709551615"},
		{l(0, 1), "18446744073709551616"},
		{l(0, 1, 0), "18446744073709551616"},
		{l(m, m), "340282366920938463463374607431768211455"},
		{l(0, 0, 1), "340282366920938463463374607431768211456"},
		// 10^38, and 10^38 and 5: noughts of whole chunks, and of a part of one.
		{l(687399551400673280, 5421010862427522170), "1" + strings.Repeat("0", 38)},
		{l(687399551400673285, 5421010862427522170), "1" + strings.Repeat("0", 37) + "5"},
	} {
		if got := whole.Text(x.a); got != x.want {
			t.Errorf("Text of %x: %s, not %s", x.a, got, x.want)
		}
	}
}

// withNoughts: digits with a nought or many at every place, through several limbs.
func withNoughts() []string {
	var texts []string
	for size := 1; size <= 80; size++ {
		nines := strings.Repeat("9", size)
		texts = append(texts, nines, "1"+strings.Repeat("0", size-1))
		for from := 1; from < size; from++ {
			texts = append(texts, nines[:from]+"0"+nines[from+1:])
			texts = append(texts, nines[:from]+strings.Repeat("0", size-from-1)+"3")
		}
	}
	return texts
}

// P2.5: Parse of Text is the number; what Parse takes Text tells.
func TestDigitsThereAndBack(t *testing.T) {
	texts := append(withNoughts(),
		strings.Repeat("1", api.MaxNumeral),
		strings.Repeat("9", api.MaxNumeral),
		"1"+strings.Repeat("0", api.MaxNumeral-1),
		"7"+strings.Repeat("0", api.MaxNumeral-2)+"7",
		strings.Repeat("9", api.MaxNumeral-1),
	)
	for _, s := range texts {
		a, err := whole.Parse(s)
		if err != api.OK {
			t.Errorf("Parse of %s: error %d", s, err)
			continue
		}
		if got := whole.Text(a); got != s {
			t.Errorf("Text of Parse of %s: %s", s, got)
		}
		sameLimbs(t, "Parse of "+s, a, fromBig(bigOf(s)).Mag)
	}
	for _, a := range someLists(200, 30) {
		back, err := whole.Parse(whole.Text(a))
		sameLimbs(t, "Parse of Text", back, nat.Norm(a))
		if err != api.OK {
			t.Errorf("Parse of Text of %x: error %d", a, err)
		}
	}
}

// Text takes any number, also one whose digits are more than Parse takes.
func TestTextOfLongNumbers(t *testing.T) {
	for _, n := range []int{api.MaxNumeral * 4, api.MaxShift} {
		a, _ := nat.Shl(nat.Of(1), n)
		if got, want := whole.Text(a), toBig(whole.Int{Mag: a}).String(); got != want {
			t.Errorf("Text of 2^%d: %d digits, not %d, or others", n, len(got), len(want))
		}
	}
}

func TestParse(t *testing.T) {
	for _, x := range []struct {
		s    string
		want []uint64
	}{
		{"0", nil},
		{"1", l(1)},
		{"9", l(9)},
		{"10", l(10)},
		{"9999999999999999999", l(9999999999999999999)},
		{"10000000000000000000", l(10000000000000000000)},
		{"18446744073709551615", l(m)},
		{"18446744073709551616", l(0, 1)},
		{"340282366920938463463374607431768211455", l(m, m)},
		{"340282366920938463463374607431768211456", l(0, 0, 1)},
	} {
		got, err := whole.Parse(x.s)
		sameLimbs(t, "Parse of "+x.s, got, x.want)
		if err != api.OK {
			t.Errorf("Parse of %s: error %d", x.s, err)
		}
	}
}

func TestParseOfNoDigits(t *testing.T) {
	texts := []string{
		"", "00", "01", "007", "-", "-1", "+1", "-0", " 1", "1 ", "1\n", "1.0", "1,000", "1_000", "1e3", "0x1f",
		"a", "12a", "a12", "1a2", "\x00", "1\x00", "1\xff", "\xff", "٣", "1٣", "１", "²",
		"0" + strings.Repeat("9", 40),
		strings.Repeat("0", api.MaxNumeral),
		strings.Repeat("9", 40) + "a" + strings.Repeat("9", 40),
		strings.Repeat("9", api.MaxNumeral-1) + "-",
	}
	// Every byte that is no digit, at the beginning, amidst, at the end.
	for b := range 256 {
		if b < '0' || b > '9' {
			c := string([]byte{byte(b)})
			texts = append(texts, c, c+"5", "5"+c+"5", "5"+c, strings.Repeat("5", 19)+c+strings.Repeat("5", 19))
		}
	}
	for _, s := range texts {
		got, err := whole.Parse(s)
		if err != api.ErrWholeText || len(got) != 0 {
			t.Errorf("Parse of %q: %x, error %d", s, got, err)
		}
	}
}

// The length is told ahead of what the bytes are.
func TestParseOfTooMany(t *testing.T) {
	for _, s := range []string{
		strings.Repeat("1", api.MaxNumeral+1),
		strings.Repeat("0", api.MaxNumeral+1),
		strings.Repeat("a", api.MaxNumeral+1),
		"-" + strings.Repeat("1", api.MaxNumeral),
		strings.Repeat("1", 3*api.MaxNumeral),
	} {
		got, err := whole.Parse(s)
		if err != api.ErrWholeLong || len(got) != 0 {
			t.Errorf("Parse of %d bytes: %x, error %d", len(s), got, err)
		}
	}
}

// P2.5: two rows of digits, one behind the other, are the first one's number times 10^n and the second one's.
func TestRowsOfDigits(t *testing.T) {
	for _, first := range []string{"1", "10", "12345", "18446744073709551616", strings.Repeat("8", 57), "1" + strings.Repeat("0", 38)} {
		for _, second := range []string{"0", "1", "5", "12345", "9999999999999999999", "10000000000000000000", strings.Repeat("7", 76)} {
			both, a, b := of(t, first+second), of(t, first), of(t, second)
			ten, _ := whole.Pow10(len(second))
			sum := whole.Add(whole.Mul(a, whole.Make(false, ten)), b)
			same(t, first+" and "+second, sum, both)
		}
	}
}
