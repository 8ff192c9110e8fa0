package cursor_test

import (
	"math"
	"testing"

	"quipu/api"
	"quipu/cursor"
)

// P11.1

func TestPutExamples(t *testing.T) {
	for _, x := range []struct{ got, want string }{
		{cursor.Put8(258), "\x02"}, {cursor.Put16(258), "\x01\x02"}, {cursor.Put32(-1), "\xff\xff\xff\xff"},
		{cursor.Put8(0), "\x00"}, {cursor.Put16(0), "\x00\x00"}, {cursor.Put32(0), "\x00\x00\x00\x00"},
		{cursor.Put32(0x01020304), "\x01\x02\x03\x04"}, {cursor.Put32(258), "\x00\x00\x01\x02"}, {cursor.Put16(0x010203), "\x02\x03"}, {cursor.Put32(0x0102030405), "\x02\x03\x04\x05"},
		{cursor.Put8(-1), "\xff"}, {cursor.Put16(-2), "\xff\xfe"}, {cursor.Put32(-256), "\xff\xff\xff\x00"},
	} {
		if x.got != x.want {
			t.Errorf("% X, not % X", x.got, x.want)
		}
	}
}

func expectPuts(t *testing.T, n int) {
	t.Helper()
	for _, x := range []struct {
		name string
		got  string
		many int
	}{{"Put8", cursor.Put8(n), 1}, {"Put16", cursor.Put16(n), 2}, {"Put32", cursor.Put32(n), 4}} {
		if want := bytesByWords(n, x.many); x.got != want {
			t.Errorf("%s(%d): % X, not % X", x.name, n, x.got, want)
		}
	}
}

// Around each power of 2, on both sides of 0, and at the ends of an int.
func TestPutEnds(t *testing.T) {
	for bit := range 63 {
		for off := -2; off <= 2; off++ {
			expectPuts(t, 1<<bit+off)
			expectPuts(t, -(1<<bit)+off)
		}
	}
	for off := range 300 {
		expectPuts(t, math.MaxInt-off)
		expectPuts(t, math.MinInt+off)
	}
}

func TestPutOfEveryTwoBytes(t *testing.T) {
	for n := -70000; n <= 70000; n++ {
		expectPuts(t, n)
	}
}

func TestPutByWords(t *testing.T) {
	r := source()
	for range 20000 {
		expectPuts(t, int(r.Uint64()))
	}
}

func expectPutText(t *testing.T, s, want string, wantErr api.Errno) {
	t.Helper()
	if got, err := cursor.PutText(s); got != want || err != wantErr {
		t.Errorf("PutText of %s: %s, error %d, not %s, error %d", short(s), short(got), err, short(want), wantErr)
	}
}

func TestPutTextExamples(t *testing.T) {
	expectPutText(t, "ab", "\x00\x02ab", api.OK)
	expectPutText(t, "\xc3", "", api.ErrCursorUTF)
	expectPutText(t, "", "\x00\x00", api.OK)
	expectPutText(t, "\x00", "\x00\x01\x00", api.OK)
	expectPutText(t, "€", "\x00\x03\xe2\x82\xac", api.OK)
	expectPutText(t, "\ufffd", "\x00\x03\xef\xbf\xbd", api.OK)
	expectPutText(t, "\ufeff", "\x00\x03\xef\xbb\xbf", api.OK)
}

func TestPutTextLengths(t *testing.T) {
	for n := range 1025 {
		expectPutText(t, repeat("a", n), formByWords(repeat("a", n)), api.OK)
	}
	for _, n := range []int{1025, 1026, 1280, 2048, 65535, 65536, 65537, 1 << 20} {
		expectPutText(t, repeat("a", n), "", api.ErrCursorLong)
	}
	expectPutText(t, repeat("a", 1024), "\x04\x00"+repeat("a", 1024), api.OK)
	expectPutText(t, repeat("a", 258), "\x01\x02"+repeat("a", 258), api.OK)
}

// The bound is one of bytes, not of runes.
func TestPutTextCountsBytes(t *testing.T) {
	for _, x := range []struct {
		rune string
		size int
	}{{"é", 2}, {"€", 3}, {"\U0001F600", 4}} {
		most := 1024 / x.size
		fits := repeat(x.rune, most)
		expectPutText(t, fits, formByWords(fits), api.OK)
		full := fits + repeat("a", 1024-len(fits))
		expectPutText(t, full, "\x04\x00"+full, api.OK)
		expectPutText(t, full+"a", "", api.ErrCursorLong)
		expectPutText(t, fits+x.rune, "", api.ErrCursorLong)
	}
}

// badPieces are bytes that make a text no UTF-8, wherever they stand between whole runes.
func badPieces() []string {
	return []string{
		"\x80", "\xbf", "\xc0", "\xc1", "\xc2", "\xdf", "\xe0", "\xed", "\xef", "\xf0", "\xf4", "\xf5", "\xf8", "\xfc", "\xfe", "\xff",
		"\xc0\x80", "\xc1\xbf", "\xe0\x80\x80", "\xe0\x9f\xbf", "\xed\xa0\x80", "\xed\xbf\xbf", "\xf0\x80\x80\x80", "\xf0\x8f\xbf\xbf", "\xf4\x90\x80\x80", "\xf5\x80\x80\x80", "\xf8\x88\x80\x80\x80",
		"\xe2\x82", "\xf0\x9f\x98", "\xf0\x9f", "\xe2\x82\xac\xac", "\xc3\xa9\xa9", "\xed\xa0\xbd\xed\xb8\x80",
	}
}

func TestPutTextRefusesOtherBytes(t *testing.T) {
	for _, bad := range badPieces() {
		for _, s := range []string{bad, bad + "abc", "abc" + bad, "ab" + bad + "cd", "é" + bad + "€", bad + bad, repeat("a", 1024-len(bad)) + bad, bad + repeat("a", 1024-len(bad))} {
			expectPutText(t, s, "", api.ErrCursorUTF)
		}
	}
}

func TestPutTextWhichError(t *testing.T) {
	for _, bad := range badPieces() {
		expectPutText(t, bad+repeat("a", 1025-len(bad)), "", api.ErrCursorLong)
		expectPutText(t, repeat("a", 1025-len(bad))+bad, "", api.ErrCursorLong)
		expectPutText(t, repeat(bad, 1025), "", api.ErrCursorLong)
	}
}

func TestPutTextByWords(t *testing.T) {
	r := source()
	tally := map[api.Errno]int{}
	for range 5000 {
		s := someRunes(r, r.IntN(500))
		if r.IntN(3) == 0 && s != "" {
			at := r.IntN(len(s))
			s = s[:at] + string([]byte{byte(r.IntN(256))}) + s[at+1:]
		}
		want, wantErr := formByWords(s), api.OK
		switch {
		case len(s) > 1024:
			want, wantErr = "", api.ErrCursorLong
		case runesByWords(s) < 0:
			want, wantErr = "", api.ErrCursorUTF
		}
		expectPutText(t, s, want, wantErr)
		tally[wantErr]++
	}
	for _, err := range []api.Errno{api.OK, api.ErrCursorLong, api.ErrCursorUTF} {
		if tally[err] < 500 {
			t.Error("too few of a kind:", tally)
		}
	}
}
