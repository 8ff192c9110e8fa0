package cursor_test

import (
	"fmt"
	"math/rand/v2"
	"strings"
	"testing"

	"quipu/api"
	"quipu/cursor"
)

// The promises, word for word, by another way than the program's: what the program is held against.

func repeat(s string, n int) string { return strings.Repeat(s, n) }

func source() *rand.Rand { return rand.New(rand.NewPCG(11, 1)) }

func short(s string) string { return fmt.Sprintf("% .40X of %d bytes", s, len(s)) }

// kind of rune: between which bytes each of its bytes is.
type kind [][2]byte

// kinds, in the order in which the chapter has them.
func kinds() []kind {
	goesOn := [2]byte{128, 191}
	return []kind{
		{{0, 127}},
		{{194, 223}, goesOn},
		{{224, 224}, {160, 191}, goesOn},
		{{225, 236}, goesOn, goesOn},
		{{238, 239}, goesOn, goesOn},
		{{237, 237}, {128, 159}, goesOn},
		{{240, 240}, {144, 191}, goesOn, goesOn},
		{{241, 243}, goesOn, goesOn, goesOn},
		{{244, 244}, {128, 143}, goesOn, goesOn},
	}
}

func (k kind) begins(s string) bool {
	if len(s) < len(k) {
		return false
	}
	for i, bounds := range k {
		if s[i] < bounds[0] || s[i] > bounds[1] {
			return false
		}
	}
	return true
}

// one: some rune of the kind, its bytes often at their ends.
func (k kind) one(r *rand.Rand) string {
	var b []byte
	for _, bounds := range k {
		switch r.IntN(4) {
		case 0:
			b = append(b, bounds[0])
		case 1:
			b = append(b, bounds[1])
		default:
			b = append(b, bounds[0]+byte(r.IntN(int(bounds[1]-bounds[0])+1)))
		}
	}
	return string(b)
}

// teller keeps the kinds, because millions of texts are held against them.
type teller []kind

func (t teller) first(s string) int {
	for _, k := range t {
		if k.begins(s) {
			return len(k)
		}
	}
	return 0
}

func runeByWords(s string, at int) int {
	if at < 0 || at >= len(s) {
		return 0
	}
	return teller(kinds()).first(s[at:])
}

func runesByWords(s string) int {
	t, count := teller(kinds()), 0
	for len(s) > 0 {
		size := t.first(s)
		if size == 0 {
			return -1
		}
		s = s[size:]
		count++
	}
	return count
}

func someRunes(r *rand.Rand, n int) string {
	all := kinds()
	var b strings.Builder
	for range n {
		b.WriteString(all[r.IntN(len(all))].one(r))
	}
	return b.String()
}

// bytesByWords: the lowest bits, bit by bit.
func bytesByWords(n, many int) string {
	b := make([]byte, many)
	for bit := range 8 * many {
		if n>>bit&1 == 1 {
			b[many-1-bit/8] |= 1 << (bit % 8)
		}
	}
	return string(b)
}

func formByWords(s string) string { return bytesByWords(len(s), 2) + s }

// wordsCursor is a cursor as the chapter tells it: what is left, and how much was gone through.
type wordsCursor struct {
	left string
	gone int
	err  api.Errno
}

func (w *wordsCursor) move(many int) {
	w.left = w.left[many:]
	w.gone += many
}

func (w *wordsCursor) number(many int) int {
	switch {
	case w.err != api.OK:
		return 0
	case len(w.left) < many:
		w.err = api.ErrCursorEnd
		return 0
	}
	n := 0
	for place := range many {
		n += int(w.left[many-1-place]) * (1 << (8 * place))
	}
	w.move(many)
	return n
}

func (w *wordsCursor) text(most int) string {
	if w.err != api.OK {
		return ""
	}
	if len(w.left) < 2 {
		w.err = api.ErrCursorEnd
		return ""
	}
	length := int(w.left[0])*256 + int(w.left[1])
	switch {
	case length > most:
		w.err = api.ErrCursorLong
	case len(w.left) < 2+length:
		w.err = api.ErrCursorEnd
	case runesByWords(w.left[2:2+length]) < 0:
		w.err = api.ErrCursorUTF
	default:
		text := w.left[2 : 2+length]
		w.move(2 + length)
		return text
	}
	return ""
}

func (w *wordsCursor) end() (api.Errno, int) {
	switch {
	case w.err != api.OK:
		return w.err, w.gone
	case w.left != "":
		return api.ErrCursorMore, w.gone
	}
	return api.OK, 0
}

// pair is a cursor, and the same one by the words.
type pair struct {
	all    string
	cursor *cursor.Cursor
	words  *wordsCursor
}

func newPair(t *testing.T, s string) pair {
	t.Helper()
	p := pair{s, cursor.New(s), &wordsCursor{left: s}}
	if p.cursor == nil {
		t.Fatalf("New(%s): nil", short(s))
	}
	p.expectState(t)
	return p
}

// expectState asks all that changes nothing, twice.
func (p pair) expectState(t *testing.T) {
	t.Helper()
	wantErr, wantAt := p.words.end()
	for range 2 {
		if at := p.cursor.At(); at != p.words.gone {
			t.Errorf("%s: At %d, not %d", short(p.all), at, p.words.gone)
		}
		faultAt := 0
		if p.words.err != api.OK {
			faultAt = p.words.gone
		}
		if err, at := p.cursor.Fault(); err != p.words.err || at != faultAt {
			t.Errorf("%s: Fault %d, %d, not %d, %d", short(p.all), err, at, p.words.err, faultAt)
		}
		if err, at := p.cursor.End(); err != wantErr || at != wantAt {
			t.Errorf("%s: End %d, %d, not %d, %d", short(p.all), err, at, wantErr, wantAt)
		}
	}
}

// number reads a number of 1, 2 or 4 bytes from both, and holds them against each other.
func (p pair) number(t *testing.T, many int) int {
	t.Helper()
	read := map[int]func() int{1: p.cursor.Get8, 2: p.cursor.Get16, 4: p.cursor.Get32}[many]
	from := p.words.gone
	want := p.words.number(many)
	got := read()
	if got != want {
		t.Errorf("%s: a number of %d bytes at %d: %d, not %d", short(p.all), many, from, got, want)
	}
	p.expectState(t)
	return got
}

func (p pair) text(t *testing.T, most int) string {
	t.Helper()
	from := p.words.gone
	want := p.words.text(most)
	got := p.cursor.Text(most)
	if got != want {
		t.Errorf("%s: Text(%d) at %d: %s, not %s", short(p.all), most, from, short(got), short(want))
	}
	p.expectState(t)
	return got
}

// expectFault: the fault that is wanted, by the words too.
func (p pair) expectFault(t *testing.T, want api.Errno, wantAt int) {
	t.Helper()
	if err, at := p.cursor.Fault(); err != want || at != wantAt {
		t.Errorf("%s: Fault %d, %d, not %d, %d", short(p.all), err, at, want, wantAt)
	}
	p.expectState(t)
}
