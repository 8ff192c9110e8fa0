package dec_test

import (
	"regexp"
	"strconv"
	"strings"
	"testing"

	"quipu/api"
	"quipu/dec"
)

// P5.2

func TestParse(t *testing.T) {
	for text, want := range map[string]string{
		"1.50": "15e-1", "-.5e3": "-5e2", "007.": "7e0", "1E+2": "1e2", "-0.00": "-0", "inf": "inf", "-inf": "-inf", "nan": "nan",
		"0": "0", "-0": "-0", "00": "0", "0.": "0", ".0": "0", "-.0": "-0", "-0.": "-0", "0e0": "0", "0e99999": "0", "-0e-99999": "-0", "-0.000E+5": "-0",
		"1": "1e0", "-1": "-1e0", "10": "1e1", "0010.0100": "1001e-2", "100": "1e2", "1.": "1e0", ".1": "1e-1", "-1.": "-1e0",
		"1e0": "1e0", "1e5": "1e5", "1E5": "1e5", "1e+5": "1e5", "1e-5": "1e-5", "1E-5": "1e-5", "1e00005": "1e5", "1e-00005": "1e-5", "1e+00000": "1e0",
		"1.e2": "1e2", ".1e2": "1e1", "1.5e1": "15e0", "12.34e-10": "1234e-12", "-120.0340e2": "-120034e-1",
		"1234567890.0987654321": "12345678900987654321e-10",
		"9007199254740993":      "9007199254740993e0",
		"1e1999":                "1e1999", "1e2000": "range", "10e1998": "1e1999", "10e1999": "range", "0.1e2000": "1e1999", "0.1e2001": "range",
		"1e-2001": "1e-2001", "1e-2002": "range", "0.1e-2000": "1e-2001", "0.1e-2001": "range", "10e-2002": "1e-2001", "10e-2003": "range",
		"12e-2002": "12e-2002", "12e-2003": "range", "12e1998": "12e1998", "12e1999": "range",
		"1e99999": "range", "-1e99999": "range", "1e-99999": "range", "-1e-99999": "range",
	} {
		expect(t, "Parse of "+text, want)(dec.Parse(text))
	}
}

func TestParseOfNoNumbers(t *testing.T) {
	for _, text := range []string{
		"", ".", "-", "-.", "+", "+1", "--1", "-+1", "+-1", "1-", "1+", "1e", "1E", "1e+", "1e-", "1e+-5", "1e--5", "1e++5", "1e123456", "1e000001", "1e-000001", "1e+123456",
		"1.2.3", "1..2", "..1", "1..", ".1.", "1.e", ".e5", "e5", "E5", "-e5", "e", "1e5.", "1e.5", "1e5.0", "1e5e5", "1ee5", "1eE5", "1e5-", "1e 5", "1e-5-",
		"Inf", "INF", "iNf", "+inf", "--inf", "inf ", " inf", "infinity", "in", "i", "inf0", "0inf", "-inf.", "infe5",
		"NaN", "NAN", "-nan", "+nan", "nan ", " nan", "na", "n", "nan1", "1nan", "nan.", "nane5", "inf-inf", "nannan", "infnan",
		" 1", "1 ", "1 000", "1,000", "1_000", "0x1f", "0x1p3", "1\n", "\n1", "\t1", "1\x00", "\x00", "\xff", "1\xff", "٣", "1٣", "１", "²", "−1", "1,5", "1'000", "\ufeff1", "1e٣", "½", "1f", "1d", "1e5f", "1p5",
		repeat(".", 5000), repeat("-", 5000), repeat("e", 5000), repeat("1", 5000) + "x", repeat("1", 5000) + ".2.", "1e" + repeat("0", 5000), "1e" + repeat("9", 5000),
	} {
		expect(t, "Parse of "+text, "text")(dec.Parse(text))
	}
}

// A text that is none is told ahead of a number of which there is no Dec.
func TestParseTellsTextFirst(t *testing.T) {
	for _, end := range []string{"x", " ", ".5.", "e", "e123456", "e5x", "e-", "-", "\x00"} {
		for _, digits := range []string{repeat("1", 1001), "1" + repeat("0", 3000), "0." + repeat("0", 3000) + "1", repeat("9", 1<<20)} {
			whole, _, _ := strings.Cut(digits, ".")
			expect(t, "Parse of many digits and "+end, "text")(dec.Parse(whole + end))
			expect(t, "Parse of many digits and "+end, "text")(dec.Parse("-" + digits + "x" + end))
		}
	}
	for _, text := range []string{"1e99999x", "1e-99999.", "1e2000 ", "1e99999e1"} {
		expect(t, "Parse of "+text, "text")(dec.Parse(text))
	}
}

func TestParseOfManyDigits(t *testing.T) {
	ones, noughts := repeat("1", 1000), repeat("0", 100000)
	for text, want := range map[string]string{
		ones:                                                 ones + "e0",
		ones + "1":                                           "range",
		ones + "0":                                           ones + "e1",
		ones + "01":                                          "range",
		"0" + ones:                                           ones + "e0",
		"." + ones:                                           ones + "e-1000",
		"." + ones + "1":                                     "range",
		"." + ones + "0":                                     ones + "e-1000",
		"." + "0" + ones:                                     ones + "e-1001",
		"." + repeat("0", 2000) + ones:                       ones + "e-3000",
		"." + repeat("0", 2001) + ones:                       "range",
		ones + repeat("0", 1000):                             ones + "e1000",
		ones + repeat("0", 1001):                             "range",
		ones[500:] + "." + ones[500:]:                        ones + "e-500",
		ones[500:] + "." + ones[499:]:                        "range",
		"1" + repeat("0", 1000) + "1":                        "range",
		"1" + repeat("0", 998) + "1":                         "1" + repeat("0", 998) + "1e0",
		"1" + repeat("0", 999) + "1":                         "range",
		"1" + repeat("0", 1999):                              "1e1999",
		"1" + repeat("0", 2000):                              "range",
		"1" + repeat("0", 2000) + "e-1":                      "1e1999",
		"0." + repeat("0", 2000) + "1":                       "1e-2001",
		"0." + repeat("0", 2001) + "1":                       "range",
		"0." + repeat("0", 2001) + "1e1":                     "1e-2001",
		noughts:                                              "0",
		"-" + noughts + "." + noughts:                        "-0",
		"-" + noughts + "." + noughts + "e7":                 "-0",
		noughts + "1" + "." + noughts:                        "1e0",
		"-" + noughts + "." + "5" + noughts:                  "-5e-1",
		"1" + noughts + "e-99999":                            "1e1",
		"1" + noughts + "e-98000":                            "range",
		"." + noughts + "1e99999":                            "1e-2",
		"." + noughts + "1e98000":                            "1e-2001",
		"." + noughts + "1e97999":                            "range",
		noughts + "25" + noughts + "." + noughts + "e-99999": "25e1",
		repeat("7", 1<<20):                                   "range",
		repeat("7", 1<<20) + "e-5":                           "range",
	} {
		expect(t, "Parse of "+strconv.Itoa(len(text))+" bytes", want)(dec.Parse(text))
	}
}

// grammar is the chapter's words on what is a text of a finite number.
var grammar = regexp.MustCompile(`^(-?)(?:([0-9]+)\.?([0-9]*)|\.([0-9]+))(?:[eE]([-+]?[0-9]{1,5}))?$`)

// read answers by the grammar what Parse should tell of a text whose exponent is small.
func read(text string) string {
	if text == "nan" || text == "inf" || text == "-inf" {
		return text
	}
	parts := grammar.FindStringSubmatch(text)
	if parts == nil {
		return "text"
	}
	behind := parts[3] + parts[4]
	exp, _ := strconv.Atoi(parts[5])
	return textOf(value(api.Dec{Neg: parts[1] != "", Digits: parts[2] + behind, Exp: exp - len(behind)}), parts[1] != "")
}

// Every text of few bytes of those that numbers are made of.
func TestParseOfAllShortTexts(t *testing.T) {
	const letters = "05.-+eE"
	texts := []string{""}
	for from := 0; len(texts[from]) < 6; from++ {
		for i := range len(letters) {
			texts = append(texts, texts[from]+letters[i:i+1])
		}
	}
	numbers := 0
	for _, text := range texts {
		want := read(text)
		if want != "text" {
			numbers++
		}
		expect(t, "Parse of "+text, want)(dec.Parse(text))
	}
	if numbers < 1000 {
		t.Error("too few of them are numbers:", numbers)
	}
}

// Any byte in place of another, between two, and one less.
func TestParseOfAnyBytes(t *testing.T) {
	for _, text := range []string{"-12.50e-3", "nan", "-inf", ".5E+12", "7"} {
		for i := range len(text) + 1 {
			for b := range 256 {
				other := text[:i] + string([]byte{byte(b)}) + text[i:]
				expect(t, "Parse of "+strconv.Quote(other), read(other))(dec.Parse(other))
				if i < len(text) {
					other = text[:i] + string([]byte{byte(b)}) + text[i+1:]
					expect(t, "Parse of "+strconv.Quote(other), read(other))(dec.Parse(other))
				}
			}
			if i < len(text) {
				other := text[:i] + text[i+1:]
				expect(t, "Parse of "+other, read(other))(dec.Parse(other))
			}
		}
	}
}

func TestPrint(t *testing.T) {
	for _, text := range []string{
		"nan", "inf", "-inf", "0", "-0", "1e0", "-1e0", "15e-1", "-15e-1", "7e10", "7e-10", "1e1999", "-1e1999", "1e-2001", "-1e-2001", "102e100", repeat("9", 1000) + "e-3000", "-" + repeat("9", 1000) + "e1000",
	} {
		if got, err := dec.Print(of(text)); got != text || err != api.OK {
			t.Errorf("Print: %.80q, error %d, not %.80q", got, err, text)
		}
	}
	for _, d := range decs(300) {
		if got, err := dec.Print(d); got != textOfDec(d) || err != api.OK {
			t.Errorf("Print of %s: %.80q, error %d", show(d), got, err)
		}
	}
}

// P5.6: Parse of Print is the Dec.
func TestParseOfPrint(t *testing.T) {
	for _, d := range decs(500) {
		text, _ := dec.Print(d)
		if got, err := dec.Parse(text); got != d || err != api.OK {
			t.Errorf("Parse of %.80s: %s, error %d", text, show(got), err)
		}
	}
}

// P5.6: whatever is read of a number, one text is printed.
func TestPrintOfParse(t *testing.T) {
	for want, texts := range map[string][]string{
		"15e-1": {"1.5", "1.50", "01.5", "15e-1", "15E-01", ".15e1", ".15e+1", "150e-2", "0.0015e3", "1.5e0", "1500.00e-3"},
		"-2e3":  {"-2000", "-2e3", "-2E3", "-02000.", "-.002e6", "-200.0e+01", "-20000e-1"},
		"0":     {"0", "0.0", ".0", "0.", "0e5", "000e-00099"},
		"-0":    {"-0", "-0.0", "-.0", "-0.", "-0e5", "-000e-00099"},
		"inf":   {"inf"},
		"-inf":  {"-inf"},
		"nan":   {"nan"},
	} {
		for _, text := range texts {
			d, _ := dec.Parse(text)
			if got, err := dec.Print(d); got != want || err != api.OK {
				t.Errorf("%s: %s, error %d, not %s", text, got, err, want)
			}
		}
	}
}
