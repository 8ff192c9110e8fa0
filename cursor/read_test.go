package cursor_test

import (
	"math"
	"math/rand/v2"
	"testing"

	"quipu/api"
	"quipu/cursor"
)

// P11.3, P11.4

func TestReadExamples(t *testing.T) {
	p := newPair(t, "\x01\x02\x03")
	if p.number(t, 2) != 258 || p.number(t, 2) != 0 {
		t.Error("Get16")
	}
	p.expectFault(t, api.ErrCursorEnd, 2)
	if p.number(t, 1) != 0 || p.cursor.At() != 2 {
		t.Error("Get8 behind a fault")
	}
	if err, at := p.cursor.End(); err != api.ErrCursorEnd || at != 2 {
		t.Errorf("End: %d, %d", err, at)
	}
	for _, x := range []struct {
		s    string
		most int
		want api.Errno
	}{{"\x00\x02a", 1, api.ErrCursorLong}, {"\x00\x02a", 2, api.ErrCursorEnd}, {"\x00\x01\x80", 9, api.ErrCursorUTF}} {
		p := newPair(t, x.s)
		if text := p.text(t, x.most); text != "" {
			t.Errorf("Text: %q", text)
		}
		p.expectFault(t, x.want, 0)
	}
}

func TestNewStandsAtTheBeginning(t *testing.T) {
	for _, x := range []struct {
		s    string
		want api.Errno
	}{{"", api.OK}, {"a", api.ErrCursorMore}, {"\x00", api.ErrCursorMore}, {"\xff\xff", api.ErrCursorMore}, {repeat("a", 100000), api.ErrCursorMore}} {
		c := cursor.New(x.s)
		err, at := c.End()
		fault, faultAt := c.Fault()
		if err != x.want || at != 0 || fault != api.OK || faultAt != 0 || c.At() != 0 {
			t.Errorf("New(%s): End %d, %d, Fault %d, %d, At %d", short(x.s), err, at, fault, faultAt, c.At())
		}
	}
}

// aheads: how many bytes stand ahead of what is read.
func aheads() []int { return []int{0, 1, 2, 3, 4, 63, 64, 300} }

// skipped: a pair of which so many bytes have been read.
func skipped(t *testing.T, ahead int, s string) pair {
	t.Helper()
	p := newPair(t, repeat("\xaa", ahead)+s)
	for range ahead {
		p.number(t, 1)
	}
	return p
}

// Just as many bytes as are wanted, more, and fewer.
func TestNumbersAtTheEnd(t *testing.T) {
	bytes := "\x81\x02\xf3\x04\x05\x06"
	for _, ahead := range aheads() {
		for _, many := range []int{1, 2, 4} {
			for have := range len(bytes) + 1 {
				p := skipped(t, ahead, bytes[:have])
				got := p.number(t, many)
				switch {
				case have < many:
					p.expectFault(t, api.ErrCursorEnd, ahead)
					if got != 0 || p.cursor.At() != ahead {
						t.Errorf("a number of %d bytes of %d: %d, At %d", many, have, got, p.cursor.At())
					}
				case got != map[int]int{1: 0x81, 2: 0x8102, 4: 0x8102f304}[many] || p.cursor.At() != ahead+many:
					t.Errorf("a number of %d bytes: %X, At %d", many, got, p.cursor.At())
				}
				err, at := p.cursor.End()
				if want := have == many; (err == api.OK && at == 0) != want {
					t.Errorf("a number of %d bytes of %d: End %d, %d", many, have, err, at)
				}
			}
		}
	}
}

// Numbers are never below 0, and their highest byte is the first.
func TestNumbersAtTheirEnds(t *testing.T) {
	for _, x := range []struct {
		s          string
		many, want int
	}{
		{"\x00", 1, 0}, {"\x7f", 1, 127}, {"\x80", 1, 128}, {"\xff", 1, 255},
		{"\x00\x00", 2, 0}, {"\x00\xff", 2, 255}, {"\x01\x00", 2, 256}, {"\x7f\xff", 2, 32767}, {"\x80\x00", 2, 32768}, {"\xff\xff", 2, 65535},
		{"\x00\x00\x00\x00", 4, 0}, {"\x00\x01\x00\x00", 4, 65536}, {"\x01\x02\x03\x04", 4, 0x01020304}, {"\x7f\xff\xff\xff", 4, 1<<31 - 1}, {"\x80\x00\x00\x00", 4, 1 << 31}, {"\xff\xff\xff\xff", 4, 1<<32 - 1},
	} {
		p := newPair(t, x.s)
		if got := p.number(t, x.many); got != x.want {
			t.Errorf("% X: %d, not %d", x.s, got, x.want)
		}
		if err, at := p.cursor.End(); err != api.OK || at != 0 {
			t.Errorf("% X: End %d, %d", x.s, err, at)
		}
	}
	for n := range 1 << 16 {
		c := cursor.New(string([]byte{byte(n >> 8), byte(n), byte(n >> 8)}))
		if c.Get16() != n || c.Get8() != n>>8 {
			t.Fatal("of two bytes, and one:", n)
		}
	}
}

// A text's form, of each length, cut off at each place.
func TestTextAtTheEnd(t *testing.T) {
	for _, ahead := range aheads() {
		for _, text := range []string{"", "a", "ab", "é", "a€", "\U0001F600", repeat("a", 300)} {
			form := formByWords(text)
			for have := range len(form) {
				p := skipped(t, ahead, form[:have])
				if got := p.text(t, len(text)); got != "" || p.cursor.At() != ahead {
					t.Errorf("%s, cut off at %d: %s, At %d", short(form), have, short(got), p.cursor.At())
				}
				p.expectFault(t, api.ErrCursorEnd, ahead)
			}
			for _, more := range []string{"", "x", "\x80", "\x00\x00", "\xff\xff"} {
				p := skipped(t, ahead, form+more)
				if got := p.text(t, len(text)); got != text || p.cursor.At() != ahead+len(form) {
					t.Errorf("%s: %s, At %d", short(form), short(got), p.cursor.At())
				}
				p.expectFault(t, api.OK, 0)
				err, at := p.cursor.End()
				if want := more == ""; (err == api.OK && at == 0) != want || !want && (err != api.ErrCursorMore || at != ahead+len(form)) {
					t.Errorf("%s and %s: End %d, %d", short(form), short(more), err, at)
				}
			}
		}
	}
}

// most: below a text's length, at it and above it, below 0, and at the ends of an int.
func TestTextMost(t *testing.T) {
	for _, length := range []int{0, 1, 2, 255, 256, 257, 1023, 1024, 1025, 32767, 32768, 65534, 65535} {
		text := repeat("a", length)
		form := formByWords(text)
		for _, most := range []int{math.MinInt, math.MinInt + 1, -1 << 32, -65536, -2, -1, 0, 1, length - 256, length - 2, length - 1, length, length + 1, length + 2, length + 256, 1024, 65535, 65536, 1 << 32, math.MaxInt - 1, math.MaxInt} {
			p := newPair(t, "x"+form+"y")
			p.number(t, 1)
			got := p.text(t, most)
			switch {
			case length <= most:
				p.expectFault(t, api.OK, 0)
				if got != text || p.cursor.At() != 1+len(form) {
					t.Errorf("Text(%d) of %d bytes: %s, At %d", most, length, short(got), p.cursor.At())
				}
			default:
				p.expectFault(t, api.ErrCursorLong, 1)
				if got != "" || p.cursor.At() != 1 {
					t.Errorf("Text(%d) of %d bytes: %s, At %d", most, length, short(got), p.cursor.At())
				}
			}
		}
	}
}

// A text of no bytes may have none, and not fewer.
func TestTextOfNothing(t *testing.T) {
	for most, want := range map[int]api.Errno{math.MinInt: api.ErrCursorLong, -1: api.ErrCursorLong, 0: api.OK, 1: api.OK, math.MaxInt: api.OK} {
		p := newPair(t, "\x00\x00")
		if got := p.text(t, most); got != "" {
			t.Errorf("Text(%d): %q", most, got)
		}
		p.expectFault(t, want, 0)
		wantAt := 0
		if want == api.OK {
			wantAt = 2
		}
		if p.cursor.At() != wantAt {
			t.Errorf("Text(%d): At %d", most, p.cursor.At())
		}
	}
}

func TestTextOfOtherBytes(t *testing.T) {
	for _, bad := range badPieces() {
		for _, s := range []string{bad, bad + "abc", "abc" + bad, "a€" + bad + "€a"} {
			for _, behind := range []string{"", "\x80", "\xac\xac\xac", "abc"} {
				p := newPair(t, "\x07"+formByWords(s)+behind)
				p.number(t, 1)
				if got := p.text(t, 65535); got != "" {
					t.Errorf("%s: %s", short(s), short(got))
				}
				p.expectFault(t, api.ErrCursorUTF, 1)
			}
		}
	}
	// Its bytes alone count: a rune that ends behind the text's end is none.
	p := newPair(t, "\x00\x02\xe2\x82\xac")
	p.text(t, 9)
	p.expectFault(t, api.ErrCursorUTF, 0)
}

// Of several faults that could come: first that the two bytes are not there, then the length, then the end, then the bytes.
func TestTextWhichFault(t *testing.T) {
	for _, x := range []struct {
		s    string
		most int
		want api.Errno
	}{
		{"", -1, api.ErrCursorEnd}, {"", 0, api.ErrCursorEnd}, {"", 9, api.ErrCursorEnd},
		{"\x00", -1, api.ErrCursorEnd}, {"\xff", 0, api.ErrCursorEnd}, {"\xff", math.MinInt, api.ErrCursorEnd}, {"\x00", 9, api.ErrCursorEnd},
		{"\x00\x00", -1, api.ErrCursorLong}, {"\x00\x01", 0, api.ErrCursorLong}, {"\x00\x01", -1, api.ErrCursorLong}, {"\x00\x01\x80", 0, api.ErrCursorLong}, {"\xff\xff", 65534, api.ErrCursorLong}, {"\xff\xff\x80", 65534, api.ErrCursorLong},
		{"\x00\x01", 1, api.ErrCursorEnd}, {"\x00\x02\x80", 2, api.ErrCursorEnd}, {"\xff\xff\x80\x80", 65535, api.ErrCursorEnd}, {"\x01\x00\xff", math.MaxInt, api.ErrCursorEnd}, {"\x00\x03\xe2\x82", 3, api.ErrCursorEnd},
		{"\x00\x01\x80", 1, api.ErrCursorUTF}, {"\x00\x02\xe2\x82\xac", 2, api.ErrCursorUTF}, {"\x00\x03\xe2\x82\xac", 3, api.OK},
	} {
		p := newPair(t, x.s)
		p.text(t, x.most)
		p.expectFault(t, x.want, 0)
	}
}

// expectNothing reads everything there is to read: each is 0, or empty, and the first fault stays.
func expectNothing(t *testing.T, p pair, want api.Errno, wantAt int) {
	t.Helper()
	for range 3 {
		if p.number(t, 1) != 0 || p.number(t, 2) != 0 || p.number(t, 4) != 0 {
			t.Errorf("%s: a number behind a fault", short(p.all))
		}
		for _, most := range []int{-1, 0, 1, 65535, math.MaxInt, math.MinInt} {
			if p.text(t, most) != "" {
				t.Errorf("%s: a text behind a fault", short(p.all))
			}
		}
		p.expectFault(t, want, wantAt)
		if p.cursor.At() != wantAt {
			t.Errorf("%s: At %d, not %d", short(p.all), p.cursor.At(), wantAt)
		}
		if err, at := p.cursor.End(); err != want || at != wantAt {
			t.Errorf("%s: End %d, %d, not %d, %d", short(p.all), err, at, want, wantAt)
		}
	}
}

// Bytes that could still be read are behind each of these faults.
func TestFirstFaultStays(t *testing.T) {
	for _, ahead := range aheads() {
		for _, x := range []struct {
			s    string
			read func(p pair)
			want api.Errno
		}{
			{"", func(p pair) { p.number(t, 1) }, api.ErrCursorEnd},
			{"\x01", func(p pair) { p.number(t, 2) }, api.ErrCursorEnd},
			{"\x00\x00\x01", func(p pair) { p.number(t, 4) }, api.ErrCursorEnd},
			{"\x01", func(p pair) { p.text(t, 9) }, api.ErrCursorEnd},
			{"\x00\x05abcd", func(p pair) { p.text(t, 9) }, api.ErrCursorEnd},
			{"\x00\x02abcdefgh", func(p pair) { p.text(t, 1) }, api.ErrCursorLong},
			{"\x00\x00\x00\x00abcd", func(p pair) { p.text(t, -1) }, api.ErrCursorLong},
			{"\x00\x01\x80\x00\x00abcd", func(p pair) { p.text(t, 9) }, api.ErrCursorUTF},
		} {
			p := skipped(t, ahead, x.s)
			x.read(p)
			expectNothing(t, p, x.want, ahead)
		}
	}
}

// The cursor stands where the thing begins, though some of its bytes could be read.
func TestFaultStandsWhereTheThingBegins(t *testing.T) {
	p := newPair(t, "\x01\x02\x03\x00\x03abc\x00\x09abc")
	if p.number(t, 1) != 1 || p.number(t, 2) != 0x203 || p.text(t, 3) != "abc" || p.cursor.At() != 8 {
		t.Error("what can be read")
	}
	p.text(t, 9)
	expectNothing(t, p, api.ErrCursorEnd, 8)
}

// Only by reading does a cursor move; End, Fault and At, ever so often asked, change nothing.
func TestAskingChangesNothing(t *testing.T) {
	for _, s := range []string{"", "\x07", "\x00\x01a\x05", "\x00\x01\x80", "\x00\x00\x00\x09\x00\x02ab"} {
		p := newPair(t, s)
		for step := range 6 {
			for range 50 {
				p.cursor.End()
				p.cursor.Fault()
				p.cursor.At()
			}
			if step%2 == 0 {
				p.text(t, 5)
			} else {
				p.number(t, 1)
			}
		}
	}
}

// Two cursors over the same bytes do not touch each other.
func TestCursorsApart(t *testing.T) {
	s := "\x01\x02\x00\x02ab\x03\x04\x05"
	one, other, third := newPair(t, s), newPair(t, s), newPair(t, s)
	one.number(t, 2)
	other.expectState(t)
	one.text(t, 9)
	other.number(t, 4)
	other.text(t, 0)
	other.expectFault(t, api.ErrCursorLong, 4)
	one.expectState(t)
	third.expectState(t)
	one.number(t, 1)
	one.number(t, 2)
	expectNothing(t, other, api.ErrCursorLong, 4)
	one.expectFault(t, api.OK, 0)
	if err, at := one.cursor.End(); err != api.OK || at != 0 {
		t.Errorf("End: %d, %d", err, at)
	}
	if third.cursor.At() != 0 || third.number(t, 1) != 1 {
		t.Error("a cursor that nobody has read by")
	}
}

// someForm: what is most often a thing that can be read by the number (0: as a text), and now and then is none.
func someForm(r *rand.Rand, many int) string {
	switch {
	case r.IntN(40) == 0:
		return string([]byte{byte(r.IntN(256)), byte(r.IntN(4))})
	case many > 0:
		return bytesByWords(int(r.Uint64()), many)
	case r.IntN(20) == 0:
		return formByWords(badPieces()[r.IntN(len(badPieces()))])
	}
	return formByWords(someRunes(r, r.IntN(4)))
}

func TestReadsByWords(t *testing.T) {
	r := source()
	tally := map[api.Errno]int{}
	for range 20000 {
		var order []int
		s := ""
		for range r.IntN(10) {
			many := []int{0, 0, 1, 2, 4}[r.IntN(5)]
			order = append(order, many)
			s += someForm(r, many)
		}
		if r.IntN(5) == 0 {
			order = append(order, 1)
		}
		p := newPair(t, s)
		for _, many := range order[min(len(order), r.IntN(8)/7):] {
			if many > 0 {
				p.number(t, many)
			} else {
				p.text(t, []int{8, 16, 65535, 65535}[r.IntN(4)])
			}
		}
		err, _ := p.cursor.End()
		tally[err]++
	}
	for _, err := range []api.Errno{api.OK, api.ErrCursorEnd, api.ErrCursorLong, api.ErrCursorUTF, api.ErrCursorMore} {
		if tally[err] < 500 {
			t.Error("too few of a kind:", tally)
		}
	}
}
