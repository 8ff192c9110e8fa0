package cursor_test

import (
	"math"
	"testing"

	"quipu/cursor"
)

// P11.2

func expectRune(t *testing.T, s string, at, want int) {
	t.Helper()
	if got := cursor.Rune(s, at); got != want {
		t.Errorf("Rune of %s at %d: %d, not %d", short(s), at, got, want)
	}
}

// expectRunes: how many runes; -1: no UTF-8, so that Valid tells it too.
func expectRunes(t *testing.T, s string, want int) {
	t.Helper()
	if got := cursor.Runes(s); got != want {
		t.Errorf("Runes of %s: %d, not %d", short(s), got, want)
	}
	if got := cursor.Valid(s); got != (want >= 0) {
		t.Errorf("Valid of %s: %t", short(s), got)
	}
}

func TestRuneExamples(t *testing.T) {
	for _, x := range []struct {
		s        string
		at, want int
	}{
		{"\xe2\x82\xac", 0, 3}, {"\xe2\x82\xac", 1, 0}, {"\xe2\x82\xac", 2, 0}, {"\xe2\x82\xac", 3, 0},
		{"\xc0\x80", 0, 0}, {"\xed\xa0\x80", 0, 0}, {"\xf4\x90\x80\x80", 0, 0},
		{"\x00", 0, 1}, {"\x7f", 0, 1}, {"\x80", 0, 0}, {"\xef\xbf\xbd", 0, 3}, {"\xef\xbf\xbd", 1, 0}, {"a\xef\xbf\xbdb", 1, 3}, {"\xef\xbb\xbf", 0, 3},
		{"\xc2\x80", 0, 2}, {"\xdf\xbf", 0, 2}, {"\xe0\xa0\x80", 0, 3}, {"\xed\x9f\xbf", 0, 3}, {"\xee\x80\x80", 0, 3}, {"\xef\xbf\xbf", 0, 3}, {"\xf0\x90\x80\x80", 0, 4}, {"\xf4\x8f\xbf\xbf", 0, 4},
	} {
		expectRune(t, x.s, x.at, x.want)
	}
	expectRunes(t, "a\xe2\x82\xac", 2)
	expectRunes(t, "", 0)
	expectRunes(t, "\x80", -1)
}

// shortTexts goes through all texts of 1 to 3 bytes.
func shortTexts(see func(s string)) {
	for a := range 256 {
		see(string([]byte{byte(a)}))
		for b := range 256 {
			see(string([]byte{byte(a), byte(b)}))
			for c := range 256 {
				see(string([]byte{byte(a), byte(b), byte(c)}))
			}
		}
	}
}

func TestRuneOfAllShortTexts(t *testing.T) {
	words, count := teller(kinds()), map[int]int{}
	shortTexts(func(s string) {
		want := words.first(s)
		if got := cursor.Rune(s, 0); got != want {
			t.Fatalf("Rune of % X: %d, not %d", s, got, want)
		}
		if len(s) == want {
			count[want]++
			if !cursor.Valid(s) || cursor.Runes(s) != 1 {
				t.Fatalf("% X: Valid %t, Runes %d", s, cursor.Valid(s), cursor.Runes(s))
			}
		}
	})
	if count[1] != 0x80 || count[2] != 0x800-0x80 || count[3] != 0x10000-0x800-0x800 {
		t.Error("runes of one, two, three bytes:", count)
	}
}

// edgeBytes: at and just beyond every end that a byte of a rune has behind the first.
func edgeBytes() []byte {
	return []byte{0, 'a', 127, 128, 129, 143, 144, 145, 158, 159, 160, 161, 190, 191, 192, 193, 194, 223, 224, 255}
}

// Every first and every second byte, with edges behind them.
func TestRuneOfFourBytes(t *testing.T) {
	words, count := teller(kinds()), 0
	for a := range 256 {
		for b := range 256 {
			for _, c := range edgeBytes() {
				for _, d := range edgeBytes() {
					s := string([]byte{byte(a), byte(b), c, d})
					want := words.first(s)
					if got := cursor.Rune(s, 0); got != want {
						t.Fatalf("Rune of % X: %d, not %d", s, got, want)
					}
					if want == 4 {
						count++
					}
				}
			}
		}
	}
	if goOn := 11; count != (48+3*64+16)*goOn*goOn {
		t.Error("runes of four bytes:", count)
	}
}

// The last two bytes of a rune of four, each of all, for each first byte and both ends of the second.
func TestRuneOfFourBytesAtTheLast(t *testing.T) {
	words := teller(kinds())
	for _, k := range kinds() {
		if len(k) != 4 {
			continue
		}
		for first := k[0][0]; first <= k[0][1]; first++ {
			for _, second := range k[1] {
				for c := range 256 {
					for d := range 256 {
						s := string([]byte{first, second, byte(c), byte(d)})
						if got, want := cursor.Rune(s, 0), words.first(s); got != want {
							t.Fatalf("Rune of % X: %d, not %d", s, got, want)
						}
					}
				}
			}
		}
	}
}

// Each rune there is, by the numbers of code points.
func TestRuneOfEveryCodePoint(t *testing.T) {
	for n := range 0x110000 {
		want := 4
		switch {
		case n >= 0xd800 && n <= 0xdfff:
			continue // these are no runes; string would make another one of them
		case n < 0x80:
			want = 1
		case n < 0x800:
			want = 2
		case n < 0x10000:
			want = 3
		}
		s := string(rune(n))
		if cursor.Rune(s, 0) != want || len(s) != want || cursor.Runes(s) != 1 || !cursor.Valid(s) {
			t.Fatalf("%X: Rune %d, Runes %d, Valid %t", n, cursor.Rune(s, 0), cursor.Runes(s), cursor.Valid(s))
		}
	}
}

// A rune that ends too soon is none: at the text's end, or ahead of another rune.
func TestRuneEndsTooSoon(t *testing.T) {
	r := source()
	for _, k := range kinds() {
		for range 50 {
			whole := k.one(r)
			expectRune(t, whole, 0, len(k))
			for cut := 1; cut < len(whole); cut++ {
				for _, behind := range []string{"", "a", "\x00", "\x7f", "\xc3\xa9", "\xe2\x82\xac", "\xf0\x9f\x98\x80", "\xff"} {
					expectRune(t, whole[:cut]+behind, 0, 0)
					expectRune(t, "xy"+whole[:cut]+behind, 2, 0)
					expectRunes(t, whole[:cut]+behind, -1)
				}
			}
		}
	}
}

func TestRunePlaces(t *testing.T) {
	for _, s := range []string{"", "a", "abc", "€", "a€b", "\xf0\x9f\x98\x80", "\x80", "a\xe2\x82", "é€"} {
		for _, at := range []int{math.MinInt, math.MinInt + 1, -1 << 32, -len(s), -2, -1, len(s), len(s) + 1, len(s) + 2, 1 << 32, math.MaxInt - 1, math.MaxInt} {
			if at < 0 || at >= len(s) {
				expectRune(t, s, at, 0)
			}
		}
		for at := range len(s) {
			expectRune(t, s, at, runeByWords(s, at))
		}
	}
}

// What stands ahead of a rune, or behind it, makes no difference to it.
func TestRuneWithin(t *testing.T) {
	r := source()
	for range 2000 {
		ahead, behind := someRunes(r, r.IntN(4)), someRunes(r, r.IntN(4))
		if r.IntN(2) == 0 {
			ahead += badPieces()[r.IntN(len(badPieces()))]
		}
		all := kinds()
		k := all[r.IntN(len(all))]
		s := ahead + k.one(r) + behind
		expectRune(t, s, len(ahead), len(k))
		for at := -2; at < len(s)+3; at++ {
			expectRune(t, s, at, runeByWords(s, at))
		}
	}
}

// Runes of each length, one behind the other, in each order.
func TestRunesInRows(t *testing.T) {
	expectRunes(t, "aé€\U0001F600", 4)
	expectRunes(t, "\U0001F600€éa", 4)
	expectRunes(t, "\x00\x00", 2)
	expectRunes(t, "\ufffd\ufffd", 2)
	r := source()
	all := kinds()
	for _, a := range all {
		for _, b := range all {
			for _, c := range all {
				expectRunes(t, a.one(r)+b.one(r)+c.one(r), 3)
			}
		}
	}
	for n := range 300 {
		expectRunes(t, someRunes(r, n), n)
	}
	for _, k := range all {
		expectRunes(t, repeat(k.one(r), 10000), 10000)
	}
}

// One byte that does not fit: at the beginning, in the middle, at the end.
func TestRunesWithOneByteThatDoesNotFit(t *testing.T) {
	text := "aé€\U0001F600z"
	places := []int{0, 1, 3, 6, 10, 11}
	for _, bad := range badPieces() {
		for _, at := range places {
			expectRunes(t, text[:at]+bad+text[at:], runesByWords(text[:at]+bad+text[at:]))
			expectRunes(t, text[:at]+bad+text[at:], -1)
		}
		expectRunes(t, repeat("a", 5000)+bad, -1)
		expectRunes(t, bad+repeat("a", 5000), -1)
		expectRunes(t, repeat("€", 5000)+bad+repeat("€", 5000), -1)
	}
}

// Each byte, put into each place of a text, and in the stead of each byte.
func TestRunesWithEachByte(t *testing.T) {
	text := "aé€\U0001F600\ufffdz"
	for b := range 256 {
		one := string([]byte{byte(b)})
		for at := range len(text) + 1 {
			s := text[:at] + one + text[at:]
			expectRunes(t, s, runesByWords(s))
			if at < len(text) {
				s = text[:at] + one + text[at+1:]
				expectRunes(t, s, runesByWords(s))
			}
		}
	}
	for at := range len(text) {
		expectRunes(t, text[:at]+text[at+1:], runesByWords(text[:at]+text[at+1:]))
		expectRunes(t, text[:at], runesByWords(text[:at]))
		expectRunes(t, text[at:], runesByWords(text[at:]))
	}
}

func TestRunesByWords(t *testing.T) {
	r := source()
	tally := map[bool]int{}
	for range 20000 {
		s := someRunes(r, r.IntN(6))
		if r.IntN(2) == 0 {
			for range 1 + r.IntN(3) {
				s += string([]byte{byte(r.IntN(256))})
			}
		}
		want := runesByWords(s)
		tally[want >= 0]++
		expectRunes(t, s, want)
		for at := range len(s) {
			expectRune(t, s, at, runeByWords(s, at))
		}
	}
	if tally[true] < 1000 || tally[false] < 1000 {
		t.Error("too few of a kind:", tally)
	}
}
