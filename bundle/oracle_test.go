package bundle_test

import (
	"encoding/binary"
	"fmt"
	"slices"
	"strings"
	"testing"
	"unicode/utf8"

	"quipu/api"
	"quipu/bundle"
)

// The promises, word for word, with lists that are gone through from end to end: what the program is held against.

func repeat(s string, n int) string { return strings.Repeat(s, n) }

func short(x any) string { return fmt.Sprintf("%.300s", fmt.Sprintf("%#v", x)) }

func of(tables ...api.Table) api.Bundle { return api.Bundle{Tables: tables} }

func table(name string, parent int, entries ...api.Entry) api.Table {
	return api.Table{Name: name, Parent: parent, Entries: entries}
}

// one: a bundle of one table with these entries.
func one(entries ...api.Entry) api.Bundle { return of(table("r", -1, entries...)) }

func text(key, text string) api.Entry { return api.Entry{Key: key, Text: text} }

func number(key string, n int) api.Entry {
	return api.Entry{Key: key, Kind: api.EntryNumber, Num: n}
}

func alias(key, other string) api.Entry {
	return api.Entry{Key: key, Kind: api.EntryAlias, Text: other}
}

// root and en are the tables R and E of the chapter's examples.
func root() api.Table {
	return table("root", -1, text("a", "x"), alias("b", "a"), number("c", 7))
}

func en() api.Table { return table("en", 0, text("a", "y")) }

func sameTable(a, b api.Table) bool {
	return a.Name == b.Name && a.Parent == b.Parent && slices.Equal(a.Entries, b.Entries)
}

func same(a, b api.Bundle) bool { return slices.EqualFunc(a.Tables, b.Tables, sameTable) }

// wrong is an error, and where it stands in Check's order: which part of the promise, which table, which entry (from 1 on; 0: the table itself), which of the errors there.
type wrong struct {
	order [4]int
	err   api.Errno
}

func badText(s string) bool { return !utf8.ValidString(s) || len(s) > 1024 }

func badValue(e api.Entry) bool {
	text := e.Kind == 0 && e.Num == 0
	number := e.Kind == 1 && e.Text == "" && e.Num >= 0 && e.Num <= 4294967295
	alias := e.Kind == 2 && e.Num == 0 && e.Text != ""
	return badText(e.Text) || !text && !number && !alias
}

func allTexts(b api.Bundle) []string {
	var list []string
	for _, t := range b.Tables {
		list = append(list, t.Name)
		for _, e := range t.Entries {
			list = append(list, e.Key)
			if e.Kind != 1 {
				list = append(list, e.Text)
			}
		}
	}
	slices.Sort(list)
	return slices.Compact(list)
}

// allWrong: whatever is wrong with a bundle, in no order.
func allWrong(b api.Bundle) []wrong {
	var list []wrong
	say := func(bad bool, err api.Errno, order ...int) {
		if bad {
			list = append(list, wrong{[4]int(order), err})
		}
	}
	say(len(allTexts(b)) > 4096, api.ErrBundleMany, 2, 0, 0, 0)
	say(len(b.Tables) < 1 || len(b.Tables) > 16, api.ErrBundleMany, 0, 0, 0, 0)
	for i, t := range b.Tables {
		for j, e := range t.Entries {
			say(badValue(e), api.ErrBundleForm, 1, i, j+1, 2)
			say(j > 0 && strings.Compare(t.Entries[max(j-1, 0)].Key, e.Key) >= 0, api.ErrBundleOrder, 1, i, j+1, 1)
			say(badText(e.Key) || e.Key == "", api.ErrBundleForm, 1, i, j+1, 0)
		}
		for _, u := range b.Tables[:i] {
			say(u.Name == t.Name, api.ErrBundleOrder, 1, i, 0, 1)
		}
		say(t.Parent != -1 && (t.Parent < 0 || t.Parent > i-1), api.ErrBundleOrder, 1, i, 0, 1)
		say(badText(t.Name) || t.Name == "", api.ErrBundleForm, 1, i, 0, 0)
		say(len(t.Entries) > 1024, api.ErrBundleMany, 0, 0, 0, 0)
	}
	return list
}

func checkByWords(b api.Bundle) api.Errno {
	list := allWrong(b)
	if len(list) == 0 {
		return api.OK
	}
	first := slices.MinFunc(list, func(x, y wrong) int { return slices.Compare(x.order[:], y.order[:]) })
	return first.err
}

// laidTable is a table as its bytes say it, whatever they say.
type laidTable struct {
	name, parent, many int
	entries            []laidEntry
}

type laidEntry struct{ key, kind, value int }

// lay: bytes with these counts, texts and tables, also those of no bundle.
func lay(many int, list []string, tables int, rows ...laidTable) string {
	s := binary.BigEndian.AppendUint16(nil, uint16(many))
	for _, text := range list {
		s = append(binary.BigEndian.AppendUint16(s, uint16(len(text))), text...)
	}
	s = append(s, byte(tables))
	for _, t := range rows {
		s = append(binary.BigEndian.AppendUint16(s, uint16(t.name)), byte(t.parent))
		s = binary.BigEndian.AppendUint16(s, uint16(t.many))
		for _, e := range t.entries {
			s = append(binary.BigEndian.AppendUint16(s, uint16(e.key)), byte(e.kind))
			s = binary.BigEndian.AppendUint32(s, uint32(e.value))
		}
	}
	return string(s)
}

func encodeByWords(b api.Bundle) string {
	list := allTexts(b)
	place := func(text string) int { return slices.Index(list, text) }
	var rows []laidTable
	for _, t := range b.Tables {
		row := laidTable{name: place(t.Name), parent: t.Parent & 255, many: len(t.Entries)}
		for _, e := range t.Entries {
			value := e.Num
			if e.Kind != 1 {
				value = place(e.Text)
			}
			row.entries = append(row.entries, laidEntry{place(e.Key), e.Kind, value})
		}
		rows = append(rows, row)
	}
	return lay(len(list), list, len(rows), rows...)
}

// cut takes numbers and texts off bytes; once they end, it is over.
type cut struct {
	left string
	over bool
}

func (c *cut) bytes(n int) string {
	if len(c.left) < n {
		c.left, c.over = "", true
		return repeat("\x00", n)
	}
	s := c.left[:n]
	c.left = c.left[n:]
	return s
}

func (c *cut) number(n int) int {
	return int(binary.BigEndian.Uint32([]byte(repeat("\x00", 4-n) + c.bytes(n))))
}

// times does a thing so many times as a number says, unless it is over.
func (c *cut) times(n int, do func()) {
	for left := c.number(n); left > 0 && !c.over; left-- {
		do()
	}
}

func riseStrictly(list []string) bool {
	for i := 1; i < len(list); i++ {
		if strings.Compare(list[i-1], list[i]) >= 0 {
			return false
		}
	}
	return true
}

// decodeByWords looks at each thing that could be wrong; it lays nothing again.
func decodeByWords(s string) (api.Bundle, bool) {
	c := &cut{left: s}
	var list []string
	c.times(2, func() { list = append(list, c.bytes(c.number(2))) })
	named := make([]bool, len(list))
	there := true
	take := func(n int) string {
		place := c.number(n)
		if place >= len(list) {
			there = false
			return ""
		}
		named[place] = true
		return list[place]
	}
	var b api.Bundle
	c.times(1, func() {
		t := api.Table{Name: take(2), Parent: c.number(1)}
		if t.Parent == 255 {
			t.Parent = -1
		}
		c.times(2, func() {
			e := api.Entry{Key: take(2), Kind: c.number(1)}
			if e.Kind == 1 {
				e.Num = c.number(4)
			} else {
				e.Text = take(4)
			}
			t.Entries = append(t.Entries, e)
		})
		b.Tables = append(b.Tables, t)
	})
	ok := there && !c.over && c.left == "" && riseStrictly(list) && !slices.Contains(named, false)
	return b, ok && checkByWords(b) == api.OK
}

func chainByWords(b api.Bundle, name string) []api.Table {
	for _, t := range b.Tables {
		if t.Name != name {
			continue
		}
		if t.Parent == -1 {
			return []api.Table{t}
		}
		return append([]api.Table{t}, chainByWords(b, b.Tables[t.Parent].Name)...)
	}
	return nil
}

func findByWords(b api.Bundle, name, key string, aliases int) (api.Entry, api.Errno) {
	chain := chainByWords(b, name)
	if chain == nil {
		return api.Entry{}, api.ErrBundleName
	}
	for _, t := range chain {
		for _, e := range t.Entries {
			switch {
			case e.Key != key:
			case e.Kind != 2:
				return e, api.OK
			case aliases == 8:
				return api.Entry{}, api.ErrBundleLoop
			default:
				return findByWords(b, name, e.Text, aliases+1)
			}
		}
	}
	return api.Entry{}, api.ErrBundleKey
}

func keysByWords(b api.Bundle, name, begin string) []string {
	var list []string
	for _, t := range chainByWords(b, name) {
		for _, e := range t.Entries {
			if len(e.Key) >= len(begin) && e.Key[:len(begin)] == begin && !slices.Contains(list, e.Key) {
				list = append(list, e.Key)
			}
		}
	}
	slices.Sort(list)
	return list
}

// expectCheck holds Check, and what each of the other calls does first, against the error.
func expectCheck(t *testing.T, what string, b api.Bundle, want api.Errno) {
	t.Helper()
	if err := bundle.Check(b); err != want || checkByWords(b) != want {
		t.Errorf("Check of %s: %d, by the words %d, not %d", what, err, checkByWords(b), want)
	}
	if want == api.OK {
		expectEncode(t, b)
		return
	}
	if s, err := bundle.Encode(b); s != "" || err != want {
		t.Errorf("Encode of %s: %d bytes, error %d, not %d", what, len(s), err, want)
	}
	for _, name := range []string{"r", "", "no such name"} {
		if e, err := bundle.Find(b, name, "k"); e != (api.Entry{}) || err != want {
			t.Errorf("Find in %s: %v, error %d, not %d", what, e, err, want)
		}
		if keys, err := bundle.Keys(b, name, ""); len(keys) != 0 || err != want {
			t.Errorf("Keys of %s: %v, error %d, not %d", what, keys, err, want)
		}
	}
}

// expectEncode holds a bundle that may be against its bytes, and these against it.
func expectEncode(t *testing.T, b api.Bundle) string {
	t.Helper()
	s, err := bundle.Encode(b)
	if err != api.OK || s != encodeByWords(b) {
		t.Fatalf("Encode of %s: %s, error %d, not %s", short(b), short(s), err, short(encodeByWords(b)))
	}
	if got, err := bundle.Decode(s); err != api.OK || !same(got, b) {
		t.Fatalf("Decode of %s: %s, error %d, not %s", short(s), short(got), err, short(b))
	}
	return s
}

// expectDecode holds Decode of any bytes against the words; it answers whether it took them.
func expectDecode(t *testing.T, s string) bool {
	t.Helper()
	want, ok := decodeByWords(s)
	got, err := bundle.Decode(s)
	if !ok {
		if err != api.ErrBundleForm || len(got.Tables) != 0 {
			t.Errorf("Decode of %s: %s, error %d", short(s), short(got), err)
		}
		return false
	}
	if err != api.OK || !same(got, want) {
		t.Errorf("Decode of %s: %s, error %d, not %s", short(s), short(got), err, short(want))
	}
	if laid, err := bundle.Encode(got); err != api.OK || laid != s {
		t.Errorf("Encode of what was read: %s, error %d, not %s", short(laid), err, short(s))
	}
	return true
}

func expectFind(t *testing.T, b api.Bundle, name, key string, want api.Entry, wantErr api.Errno) {
	t.Helper()
	if got, err := bundle.Find(b, name, key); got != want || err != wantErr {
		t.Errorf("Find(%s, %q, %q): %v, error %d, not %v, error %d", short(b), name, key, got, err, want, wantErr)
	}
}

func expectKeys(t *testing.T, b api.Bundle, name, begin string, want ...string) {
	t.Helper()
	if got, err := bundle.Keys(b, name, begin); err != api.OK || !slices.Equal(got, want) {
		t.Errorf("Keys(%s, %q, %q): %q, error %d, not %q", short(b), name, begin, got, err, want)
	}
}
