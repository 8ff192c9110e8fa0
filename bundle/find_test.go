package bundle_test

import (
	"fmt"
	"slices"
	"testing"

	"quipu/api"
	"quipu/bundle"
)

// P12.3

func TestFindExamples(t *testing.T) {
	b := of(root(), en())
	expectFind(t, b, "root", "b", text("a", "x"), api.OK)
	expectFind(t, b, "en", "b", text("a", "y"), api.OK)
	expectFind(t, b, "en", "c", number("c", 7), api.OK)
	expectFind(t, b, "en", "d", api.Entry{}, api.ErrBundleKey)
	expectFind(t, b, "fr", "a", api.Entry{}, api.ErrBundleName)
	expectFind(t, one(alias("k", "k")), "r", "k", api.Entry{}, api.ErrBundleLoop)
}

// A bundle that may not be is refused first, whatever the name and the key are.
func TestFindInWhatMayNotBe(t *testing.T) {
	for _, x := range []struct {
		b    api.Bundle
		want api.Errno
	}{{of(), api.ErrBundleMany}, {of(root(), root()), api.ErrBundleOrder}, {of(root(), table("", 0)), api.ErrBundleForm}, {of(root(), en(), table("x", -1, text("", ""))), api.ErrBundleForm}, {one(many("k", 1025, "")...), api.ErrBundleMany}} {
		for _, name := range []string{"root", "en", "r", "x", "", "fr"} {
			for _, key := range []string{"a", "k0001", "", "nowhere"} {
				expectFind(t, x.b, name, key, api.Entry{}, x.want)
			}
			if keys, err := bundle.Keys(x.b, name, ""); len(keys) != 0 || err != x.want {
				t.Errorf("Keys of %s: %v, error %d", short(x.b), keys, err)
			}
		}
	}
}

func TestFindNamesThatAreNotThere(t *testing.T) {
	b := of(root(), en())
	for _, name := range []string{"", "a", "Root", "roo", "root ", "root\x00", "e", "en-GB", "\xff", repeat("x", 5000), "x", "-1", "0"} {
		expectFind(t, b, name, "a", api.Entry{}, api.ErrBundleName)
		expectFind(t, b, name, "nowhere", api.Entry{}, api.ErrBundleName)
		if keys, err := bundle.Keys(b, name, ""); len(keys) != 0 || err != api.ErrBundleName {
			t.Errorf("Keys of %q: %v, error %d", name, keys, err)
		}
	}
}

// family: a root, its child, that one's child, and a child of the root beside them.
func family() api.Bundle {
	return of(
		table("root", -1, text("a", "root a"), text("b", "root b"), text("c", "root c"), number("n", 1)),
		table("en", 0, text("b", "en b"), text("c", "en c"), text("e", "en e")),
		table("fr", 0, text("b", "fr b"), text("f", "fr f")),
		table("en-GB", 1, text("c", "GB c"), text("g", "GB g"), text("n", "a text")),
		table("alone", -1, text("a", "alone a")))
}

func TestFindUpTheChain(t *testing.T) {
	for name, said := range map[string]map[string]string{
		"root":  {"a": "root a", "b": "root b", "c": "root c"},
		"en":    {"a": "root a", "b": "en b", "c": "en c", "e": "en e"},
		"fr":    {"a": "root a", "b": "fr b", "c": "root c", "f": "fr f"},
		"en-GB": {"a": "root a", "b": "en b", "c": "GB c", "e": "en e", "g": "GB g", "n": "a text"},
		"alone": {"a": "alone a"},
	} {
		for _, key := range []string{"a", "b", "c", "e", "f", "g", "n", "", "A", "a ", "root a", "zz", "\xff", repeat("a", 2000)} {
			want, wantErr := text(key, said[key]), api.OK
			switch _, ok := said[key]; {
			case ok:
			case key == "n" && name != "alone":
				want = number("n", 1)
			default:
				want, wantErr = api.Entry{}, api.ErrBundleKey
			}
			expectFind(t, family(), name, key, want, wantErr)
		}
	}
}

// A chain of sixteen tables, of which any one may have the key.
func TestFindInALongChain(t *testing.T) {
	for place := range 16 {
		list := tables(16)
		list[place].Entries = []api.Entry{text("k", fmt.Sprint(place))}
		for from := range 16 {
			if from < place {
				expectFind(t, of(list...), list[from].Name, "k", api.Entry{}, api.ErrBundleKey)
			} else {
				expectFind(t, of(list...), list[from].Name, "k", text("k", fmt.Sprint(place)), api.OK)
			}
		}
	}
	list := tables(16)
	for i := range list {
		list[i].Entries = []api.Entry{number("k", i)}
	}
	for i := range list {
		expectFind(t, of(list...), list[i].Name, "k", number("k", i), api.OK)
	}
}

// Each key of a full table is found, and none between them.
func TestFindEachKey(t *testing.T) {
	for _, n := range []int{1, 2, 3, 4, 7, 100, 1024} {
		b := one(many("k", n, "x")...)
		for i := range n {
			key := fmt.Sprintf("k%04d", i)
			expectFind(t, b, "r", key, text(key, "x"), api.OK)
			if n <= 100 {
				expectFind(t, b, "r", key+"\x00", api.Entry{}, api.ErrBundleKey)
				expectFind(t, b, "r", key[:4], api.Entry{}, api.ErrBundleKey)
			}
		}
		expectFind(t, b, "r", "j", api.Entry{}, api.ErrBundleKey)
		expectFind(t, b, "r", "l", api.Entry{}, api.ErrBundleKey)
	}
}

// An alias is looked for from the name's table on again, not from where it stands.
func TestFindAliasesUpAndDown(t *testing.T) {
	b := of(
		table("root", -1, text("a", "root a"), alias("down", "e"), alias("same", "a"), alias("toup", "up"), text("z", "root z")),
		table("en", 0, text("a", "en a"), text("e", "en e"), alias("up", "z")),
		table("en-GB", 1, text("z", "GB z"), alias("zig", "toup")),
		table("fr", 0))
	for _, x := range []struct {
		name, key string
		want      api.Entry
		err       api.Errno
	}{
		{"root", "down", api.Entry{}, api.ErrBundleKey}, {"en", "down", text("e", "en e"), api.OK}, {"en-GB", "down", text("e", "en e"), api.OK}, {"fr", "down", api.Entry{}, api.ErrBundleKey},
		{"root", "same", text("a", "root a"), api.OK}, {"en", "same", text("a", "en a"), api.OK}, {"fr", "same", text("a", "root a"), api.OK},
		{"root", "up", api.Entry{}, api.ErrBundleKey}, {"en", "up", text("z", "root z"), api.OK}, {"en-GB", "up", text("z", "GB z"), api.OK},
		{"en", "toup", text("z", "root z"), api.OK}, {"en-GB", "toup", text("z", "GB z"), api.OK}, {"fr", "toup", api.Entry{}, api.ErrBundleKey},
		{"en-GB", "zig", text("z", "GB z"), api.OK}, {"en", "zig", api.Entry{}, api.ErrBundleKey},
	} {
		expectFind(t, b, x.name, x.key, x.want, x.err)
	}
}

// A child hides what its parent says of a key, also by an alias that leads to nothing.
func TestFindHides(t *testing.T) {
	for _, x := range []struct {
		child api.Entry
		want  api.Entry
		err   api.Errno
	}{
		{text("k", "child"), text("k", "child"), api.OK}, {text("k", ""), text("k", ""), api.OK}, {number("k", 0), number("k", 0), api.OK},
		{alias("k", "other"), text("other", "there"), api.OK}, {alias("k", "nowhere"), api.Entry{}, api.ErrBundleKey}, {alias("k", "k"), api.Entry{}, api.ErrBundleLoop}, {alias("k", "back"), api.Entry{}, api.ErrBundleLoop},
	} {
		for _, parent := range []api.Entry{text("k", "parent"), number("k", 9), alias("k", "other"), alias("k", "k")} {
			b := of(table("root", -1, alias("back", "k"), parent, text("other", "there")), table("en", 0, x.child), table("under", 1))
			expectFind(t, b, "en", "k", x.want, x.err)
			expectFind(t, b, "under", "k", x.want, x.err)
			expectFind(t, b, "under", "back", x.want, x.err)
		}
	}
}

// row: aliases one behind the other, from k00 on; the last one leads to the key end.
func row(aliases int) []api.Entry {
	var list []api.Entry
	for i := range aliases {
		next := fmt.Sprintf("k%02d", i+1)
		if i == aliases-1 {
			next = "end"
		}
		list = append(list, alias(fmt.Sprintf("k%02d", i), next))
	}
	return list
}

func TestFindAliasesBehindOneAnother(t *testing.T) {
	for n := 1; n < 30; n++ {
		for i := range n {
			key, left := fmt.Sprintf("k%02d", i), n-i
			want, wantErr, noEnd := text("end", "x"), api.OK, api.ErrBundleKey
			if left > 8 {
				want, wantErr, noEnd = api.Entry{}, api.ErrBundleLoop, api.ErrBundleLoop
			}
			expectFind(t, one(append([]api.Entry{text("end", "x")}, row(n)...)...), "r", key, want, wantErr)
			expectFind(t, one(row(n)...), "r", key, api.Entry{}, noEnd)
		}
	}
}

// The aliases of one row, spread over a chain of tables.
func TestFindAliasesInManyTables(t *testing.T) {
	for _, n := range []int{7, 8, 9, 10} {
		list := tables(16)
		for i, e := range row(n) {
			place := i * 7 % 16
			list[place].Entries = append(list[place].Entries, e)
		}
		list[5].Entries = slices.Insert(list[5].Entries, 0, number("end", 5))
		want, wantErr := number("end", 5), api.OK
		if n > 8 {
			want, wantErr = api.Entry{}, api.ErrBundleLoop
		}
		expectFind(t, of(list...), "t15", "k00", want, wantErr)
		expectFind(t, of(list...), "t15", fmt.Sprintf("k%02d", n-1), number("end", 5), api.OK)
	}
}

func TestFindLoops(t *testing.T) {
	for n := 1; n < 12; n++ {
		list := row(n)
		list[n-1].Text = "k00"
		list = append(list, text("x", "y"))
		for i := range n {
			expectFind(t, one(list...), "r", fmt.Sprintf("k%02d", i), api.Entry{}, api.ErrBundleLoop)
		}
		expectFind(t, one(list...), "r", "x", text("x", "y"), api.OK)
	}
	b := of(table("r", -1, alias("a", "b"), text("b", "x")), table("s", 0, alias("b", "a")))
	expectFind(t, b, "r", "a", text("b", "x"), api.OK)
	expectFind(t, b, "s", "a", api.Entry{}, api.ErrBundleLoop)
	expectFind(t, b, "s", "b", api.Entry{}, api.ErrBundleLoop)
}

// An alias is another key, never another name, nor the beginning of keys.
func TestFindAliasIsAKey(t *testing.T) {
	b := of(table("root", -1, alias("a", "en"), alias("b", "x/"), text("x/y", "z")), table("en", 0, alias("c", "root")))
	for _, key := range []string{"a", "b", "c"} {
		expectFind(t, b, "en", key, api.Entry{}, api.ErrBundleKey)
	}
}

func TestFindByWords(t *testing.T) {
	r := source()
	tally := map[api.Errno]int{}
	for range 5000 {
		b := someBundle(r)
		for _, name := range append(words(), "root", "en", "fr", "en-GB") {
			for _, key := range append(words(), "") {
				want, wantErr := findByWords(b, name, key, 0)
				expectFind(t, b, name, key, want, wantErr)
				tally[wantErr]++
			}
		}
	}
	for _, err := range []api.Errno{api.OK, api.ErrBundleName, api.ErrBundleLoop, api.ErrBundleKey} {
		if tally[err] < 5000 {
			t.Error("too few of a kind:", err, tally)
		}
	}
}
