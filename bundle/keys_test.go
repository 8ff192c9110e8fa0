package bundle_test

import (
	"slices"
	"testing"

	"quipu/api"
	"quipu/bundle"
)

// P12.4

func TestKeysExamples(t *testing.T) {
	expectKeys(t, of(root(), en()), "en", "", "a", "b", "c")
	expectKeys(t, of(root(), en()), "root", "", "a", "b", "c")
}

// All tables of the chain, each key once; none of a table that is not in it.
func TestKeysOfTheChain(t *testing.T) {
	expectKeys(t, family(), "root", "", "a", "b", "c", "n")
	expectKeys(t, family(), "en", "", "a", "b", "c", "e", "n")
	expectKeys(t, family(), "fr", "", "a", "b", "c", "f", "n")
	expectKeys(t, family(), "en-GB", "", "a", "b", "c", "e", "g", "n")
	expectKeys(t, family(), "alone", "", "a")
	expectKeys(t, one(), "r", "")
	list := tables(16)
	for i := range list {
		list[i].Entries = []api.Entry{text("k", ""), text("k"+string(rune('p'-i)), "")}
	}
	expectKeys(t, of(list...), "t15", "", "k", "ka", "kb", "kc", "kd", "ke", "kf", "kg", "kh", "ki", "kj", "kk", "kl", "km", "kn", "ko", "kp")
	expectKeys(t, of(list...), "t2", "k", "k", "kn", "ko", "kp")
}

// The beginning: none, a key, a part of a key, a key and more, what no key begins with.
func TestKeysBegin(t *testing.T) {
	b := of(table("root", -1, text("a", ""), text("a/", ""), text("a/b", ""), text("a/c/d", ""), text("ab", ""), text("é", ""), text("€", "")), table("en", 0, number("a/a", 1), alias("a/b", "a"), text("b", ""), text("ê", "")))
	for _, x := range []struct {
		begin string
		want  []string
	}{
		{"", []string{"a", "a/", "a/a", "a/b", "a/c/d", "ab", "b", "é", "ê", "€"}},
		{"a", []string{"a", "a/", "a/a", "a/b", "a/c/d", "ab"}}, {"a/", []string{"a/", "a/a", "a/b", "a/c/d"}}, {"a/b", []string{"a/b"}}, {"a/c", []string{"a/c/d"}}, {"a/c/d", []string{"a/c/d"}},
		{"b", []string{"b"}}, {"é", []string{"é"}}, {"\xc3", []string{"é", "ê"}}, {"\xe2", []string{"€"}}, {"€", []string{"€"}},
		{"a/b/", nil}, {"a/c/dd", nil}, {"A", nil}, {"/", nil}, {"c", nil}, {"\x00", nil}, {"\xff", nil}, {" a", nil}, {"a ", nil}, {repeat("a", 3000), nil},
	} {
		expectKeys(t, b, "en", x.begin, x.want...)
	}
	expectKeys(t, b, "root", "a/", "a/", "a/b", "a/c/d")
}

// Keys are those of the tables: an alias's text is none, nor is a name.
func TestKeysOfAliases(t *testing.T) {
	b := of(table("root", -1, alias("a", "nowhere"), alias("b", "b"), alias("c", "root")))
	expectKeys(t, b, "root", "", "a", "b", "c")
	expectKeys(t, b, "root", "n")
	expectKeys(t, b, "root", "r")
}

func TestKeysOfFullTables(t *testing.T) {
	list := tables(16)
	for i := range list {
		list[i].Entries = many("k", 1024, "")
	}
	b := of(list...)
	keys, err := bundle.Keys(b, "t15", "k")
	if err != api.OK || len(keys) != 1024 || !slices.Equal(keys, keysByWords(of(list[0]), "t0", "")) {
		t.Errorf("Keys: %d, error %d", len(keys), err)
	}
	for range 20 {
		if again, _ := bundle.Keys(b, "t15", "k"); !slices.Equal(again, keys) {
			t.Fatal("Keys answers otherwise")
		}
	}
}

func TestKeysByWords(t *testing.T) {
	r := source()
	for range 5000 {
		b := someBundle(r)
		for _, table := range b.Tables {
			for _, begin := range []string{"", "a", "a/", "b", "z", "\xf0", "none"} {
				expectKeys(t, b, table.Name, begin, keysByWords(b, table.Name, begin)...)
			}
		}
	}
}

// P12.6

// Every key that Keys tells is found, or is an alias that leads to nothing.
func TestKeysAreFound(t *testing.T) {
	r := source()
	tally := map[api.Errno]int{}
	for range 5000 {
		b := someBundle(r)
		for _, table := range b.Tables {
			keys, _ := bundle.Keys(b, table.Name, "")
			for _, key := range keys {
				e, err := bundle.Find(b, table.Name, key)
				tally[err]++
				if err == api.OK && e.Key != key && !slices.Contains(keys, e.Key) {
					t.Errorf("Find of %q in %s: %v, whose key is none", key, short(b), e)
				}
				if err == api.ErrBundleKey && nearest(b, table.Name, key).Kind != api.EntryAlias {
					t.Errorf("Find of %q in %s: ErrBundleKey, but it is there", key, short(b))
				}
			}
		}
	}
	if len(tally) != 3 || tally[api.OK] == 0 || tally[api.ErrBundleLoop] == 0 || tally[api.ErrBundleKey] == 0 {
		t.Error("other errors than are told:", tally)
	}
}

// nearest: the first entry of the chain with this key.
func nearest(b api.Bundle, name, key string) api.Entry {
	for _, t := range chainByWords(b, name) {
		for _, e := range t.Entries {
			if e.Key == key {
				return e
			}
		}
	}
	return api.Entry{}
}

// without: the bundle, of which the tables in no chain of name say other things, and those behind it are gone.
func without(b api.Bundle, name string) (other, less api.Bundle) {
	chain := chainByWords(b, name)
	other = clone(b)
	for i, t := range other.Tables {
		in := slices.ContainsFunc(chain, func(u api.Table) bool { return u.Name == t.Name })
		if !in {
			other.Tables[i] = table("other "+t.Name, -1, alias("a", "b"), text("b", "other"), text("zz", "other"))
		}
		if t.Name == name {
			less.Tables = slices.Clone(other.Tables[:i+1])
		}
	}
	return other, less
}

func TestTablesInNoChain(t *testing.T) {
	r := source()
	for range 3000 {
		b := someBundle(r)
		name := oneOf(r, b.Tables...).Name
		other, less := without(b, name)
		keys, err := bundle.Keys(b, name, "")
		for _, c := range []api.Bundle{other, less} {
			if got, gotErr := bundle.Keys(c, name, ""); !slices.Equal(got, keys) || gotErr != err {
				t.Errorf("Keys of %q in %s: %v, error %d", name, short(c), got, gotErr)
			}
			for _, key := range append(words(), "zz") {
				want, wantErr := bundle.Find(b, name, key)
				expectFind(t, c, name, key, want, wantErr)
			}
		}
	}
}
