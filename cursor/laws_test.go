package cursor_test

import (
	"math/rand/v2"
	"testing"

	"quipu/api"
	"quipu/cursor"
)

// P11.5

// thing is a number of so many bytes, or (0) a text.
type thing struct {
	many, number int
	text         string
}

func (x thing) laid(t *testing.T) string {
	t.Helper()
	switch x.many {
	case 1:
		return cursor.Put8(x.number)
	case 2:
		return cursor.Put16(x.number)
	case 4:
		return cursor.Put32(x.number)
	}
	form, err := cursor.PutText(x.text)
	if err != api.OK {
		t.Fatalf("PutText of %s: error %d", short(x.text), err)
	}
	return form
}

// readAs reads a thing of the same kind.
func (x thing) readAs(c *cursor.Cursor, most int) thing {
	switch x.many {
	case 1:
		return thing{many: 1, number: c.Get8()}
	case 2:
		return thing{many: 2, number: c.Get16()}
	case 4:
		return thing{many: 4, number: c.Get32()}
	}
	return thing{text: c.Text(most)}
}

func someThing(r *rand.Rand) thing {
	switch r.IntN(5) {
	case 0:
		return thing{many: 1, number: r.IntN(1 << 8)}
	case 1:
		return thing{many: 2, number: r.IntN(1 << 16)}
	case 2:
		return thing{many: 4, number: r.IntN(1 << 32)}
	case 3:
		return thing{text: someRunes(r, r.IntN(250))}
	}
	return thing{text: someRunes(r, r.IntN(3))}
}

// Things laid one behind the other are read as they were, and then End is OK.
func TestLaidAndRead(t *testing.T) {
	r := source()
	for range 3000 {
		var things []thing
		s := ""
		for range r.IntN(10) {
			x := someThing(r)
			things = append(things, x)
			s += x.laid(t)
		}
		c := cursor.New(s)
		at := 0
		for i, x := range things {
			if got := x.readAs(c, 1024); got != x {
				t.Fatalf("thing %d: %v, not %v", i, got, x)
			}
			at += len(x.laid(t))
			if c.At() != at {
				t.Fatalf("thing %d: At %d, not %d", i, c.At(), at)
			}
		}
		if err, place := c.End(); err != api.OK || place != 0 {
			t.Fatalf("End: %d, %d", err, place)
		}
	}
}

// Of a number beyond its bits, the lowest ones are read.
func TestLaidAndReadBeyond(t *testing.T) {
	r := source()
	for range 5000 {
		n := int(r.Uint64())
		c := cursor.New(cursor.Put8(n) + cursor.Put16(n) + cursor.Put32(n))
		if c.Get8() != n&(1<<8-1) || c.Get16() != n&(1<<16-1) || c.Get32() != n&(1<<32-1) {
			t.Errorf("%d is read otherwise", n)
		}
		if err, at := c.End(); err != api.OK || at != 0 {
			t.Errorf("End: %d, %d", err, at)
		}
	}
}

// The longest text there is, and just as much as may be.
func TestLaidAndReadLongest(t *testing.T) {
	for _, text := range []string{repeat("a", 1024), repeat("é", 512), repeat("\U0001F600", 256), ""} {
		form := thing{text: text}.laid(t)
		c := cursor.New(form + form)
		if c.Text(len(text)) != text || c.Text(1024) != text {
			t.Error("read otherwise:", short(text))
		}
		if err, at := c.End(); err != api.OK || at != 0 {
			t.Errorf("End: %d, %d", err, at)
		}
	}
}

// Whatever is read without a fault, laid again, is the bytes that were read; of all bytes there may be.
func TestReadAndLaidAgain(t *testing.T) {
	r := source()
	read := 0
	for range 5000 {
		b := make([]byte, r.IntN(60))
		for i := range b {
			b[i] = byte(r.IntN(1 << r.IntN(9)))
		}
		s := string(b)
		c := cursor.New(s)
		for range 20 {
			from := c.At()
			x := someThing(r).readAs(c, 1024)
			if err, _ := c.Fault(); err != api.OK {
				break
			}
			if again := x.laid(t); again != s[from:c.At()] {
				t.Fatalf("from %d to %d of %s: laid again % X", from, c.At(), short(s), again)
			}
			read++
		}
	}
	if read < 5000 {
		t.Error("too little was read:", read)
	}
}

// A text that is longer than PutText lays can be read: its form is that of the words.
func TestReadLongerThanLaid(t *testing.T) {
	for _, n := range []int{1025, 1026, 4096, 65535} {
		text := repeat("a", n)
		c := cursor.New(formByWords(text))
		if got := c.Text(n); got != text {
			t.Errorf("Text of %d bytes: %s", n, short(got))
		}
		if err, at := c.End(); err != api.OK || at != 0 {
			t.Errorf("End: %d, %d", err, at)
		}
		if _, err := cursor.PutText(text); err != api.ErrCursorLong {
			t.Errorf("PutText of %d bytes: error %d", n, err)
		}
	}
}

// Two texts that are UTF-8 are so joined, and have as many runes as both; and no other two, one of which is.
func TestJoined(t *testing.T) {
	r := source()
	for range 5000 {
		a, b := someRunes(r, r.IntN(20)), someRunes(r, r.IntN(20))
		if !cursor.Valid(a) || !cursor.Valid(b) || !cursor.Valid(a+b) || cursor.Runes(a+b) != cursor.Runes(a)+cursor.Runes(b) {
			t.Errorf("%s and %s: %d, %d and joined %d runes", short(a), short(b), cursor.Runes(a), cursor.Runes(b), cursor.Runes(a+b))
		}
		for at := range len(b) {
			if cursor.Rune(a+b, len(a)+at) != cursor.Rune(b, at) {
				t.Errorf("Rune of %s at %d is another one behind %s", short(b), at, short(a))
			}
		}
		bad := badPieces()[r.IntN(len(badPieces()))]
		if cursor.Valid(a+bad) || cursor.Valid(bad+a) || cursor.Runes(a+bad) != -1 || cursor.Runes(bad+a) != -1 {
			t.Errorf("%s and %s", short(a), short(bad))
		}
	}
}

// A text that is UTF-8 is its runes, one behind the other, as Rune tells them.
func TestRunesByRune(t *testing.T) {
	r := source()
	for range 5000 {
		n := r.IntN(30)
		s := someRunes(r, n)
		count := 0
		for at := 0; at < len(s); count++ {
			size := cursor.Rune(s, at)
			if size < 1 || size > 4 || !cursor.Valid(s[:at]) || cursor.Runes(s[:at]) != count || cursor.Runes(s[at:at+size]) != 1 {
				t.Fatalf("%s at %d: a rune of %d bytes", short(s), at, size)
			}
			at += size
		}
		if count != n || cursor.Runes(s) != n {
			t.Errorf("%s: %d runes, by Rune %d, not %d", short(s), cursor.Runes(s), count, n)
		}
	}
}
