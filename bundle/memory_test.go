package bundle_test

import (
	"slices"
	"testing"

	"quipu/api"
	"quipu/bundle"
)

// R3, R4

// roomy: the same bundle, in lists with room behind them, which has been written on.
func roomy(b api.Bundle) api.Bundle {
	b = clone(b)
	for i, t := range b.Tables {
		b.Tables[i].Entries = append(slices.Clone(t.Entries), text("room", "behind"), text("more", "room"))[:len(t.Entries)]
	}
	return of(append(slices.Clone(b.Tables), table("room", 7), table("behind", 8))[:len(b.Tables)]...)
}

// whole: the bundle with the room behind its lists.
func whole(b api.Bundle) api.Bundle {
	b.Tables = slices.Clone(b.Tables[:cap(b.Tables)])
	for i, t := range b.Tables {
		b.Tables[i].Entries = slices.Clone(t.Entries[:cap(t.Entries)])
	}
	return b
}

// callAll makes every call with the bundle.
func callAll(b api.Bundle) {
	bundle.Check(b)
	bundle.Encode(b)
	for _, name := range []string{"root", "en", "a", "nowhere"} {
		bundle.Keys(b, name, "")
		bundle.Keys(b, name, "a")
		for _, key := range words() {
			bundle.Find(b, name, key)
		}
	}
}

func TestWhatIsHandedInStays(t *testing.T) {
	r := source()
	for range 500 {
		b := roomy(someBundle(r))
		if r.IntN(3) == 0 {
			b = roomy(spoilt(r, b))
		}
		was := whole(b)
		callAll(b)
		if !same(whole(b), was) {
			t.Fatalf("%s has become %s", short(was), short(whole(b)))
		}
	}
}

// scribble writes over a bundle's lists and the room behind them.
func scribble(b api.Bundle) {
	for _, t := range b.Tables[:cap(b.Tables)] {
		entries := t.Entries[:cap(t.Entries)]
		for i := range entries {
			entries[i] = number("scribble", 1)
		}
	}
	for i := range b.Tables[:cap(b.Tables)] {
		b.Tables[:cap(b.Tables)][i] = table("scribble", 99)
	}
}

func TestDecodedIsItsOwners(t *testing.T) {
	r := source()
	for range 500 {
		b := someBundle(r)
		s := expectEncode(t, b)
		first, _ := bundle.Decode(s)
		second, _ := bundle.Decode(s)
		scribble(first)
		if !same(second, b) {
			t.Fatalf("Decode of %s: both answers share memory", short(b))
		}
		for i := range second.Tables {
			entries := second.Tables[i].Entries[:cap(second.Tables[i].Entries)]
			for j := range entries {
				entries[j] = number("scribble", 1)
			}
			second.Tables[i].Entries = append(second.Tables[i].Entries, number("more", 1))
			if !slices.EqualFunc(second.Tables[i+1:], b.Tables[i+1:], sameTable) {
				t.Fatalf("Decode of %s: two lists of one answer share memory", short(b))
			}
		}
		if third, err := bundle.Decode(s); err != api.OK || !same(third, b) {
			t.Fatalf("Decode of %s answers otherwise: %s", short(b), short(third))
		}
	}
}

func TestKeysAreTheirOwners(t *testing.T) {
	b := family()
	was := clone(b)
	first, _ := bundle.Keys(b, "en-GB", "")
	want := slices.Clone(first)
	second, _ := bundle.Keys(b, "en-GB", "")
	for i := range first[:cap(first)] {
		first[:cap(first)][i] = "scribble"
	}
	if !slices.Equal(second, want) || !same(b, was) {
		t.Error("the keys that were told are not their owner's")
	}
	expectKeys(t, b, "en-GB", "", want...)
}

// What was answered stays as it is, whatever becomes of the bundle.
func TestAnswersStay(t *testing.T) {
	b := family()
	s, _ := bundle.Encode(b)
	keys, _ := bundle.Keys(b, "en", "")
	e, _ := bundle.Find(b, "en", "b")
	scribble(b)
	if s != encodeByWords(family()) || !slices.Equal(keys, []string{"a", "b", "c", "e", "n"}) || e != text("b", "en b") {
		t.Error("an answer has changed with the bundle:", short(s), keys, e)
	}
}

// A nil list and an empty one are the same.
func TestNilAndEmptyLists(t *testing.T) {
	a := of(api.Table{Name: "r", Parent: -1}, api.Table{Name: "s", Parent: 0, Entries: []api.Entry{}})
	b := of(api.Table{Name: "r", Parent: -1, Entries: []api.Entry{}}, api.Table{Name: "s", Parent: 0})
	if expectEncode(t, a) != expectEncode(t, b) {
		t.Error("a nil list and an empty one are not the same")
	}
	expectKeys(t, a, "s", "")
	expectKeys(t, b, "s", "")
}

// Entries on which one call has worked say the same to the next one, in any order of calls.
func TestCallsKeepNothing(t *testing.T) {
	r := source()
	list := []api.Bundle{family(), of(root(), en()), of(en()), one(alias("k", "k"))}
	for range 300 {
		i := r.IntN(len(list))
		want, wantErr := []api.Errno{api.OK, api.OK, api.ErrBundleOrder, api.OK}[i], []api.Errno{api.OK, api.OK, api.ErrBundleOrder, api.ErrBundleName}[i]
		if err := bundle.Check(list[i]); err != want {
			t.Errorf("Check of %d: %d", i, err)
		}
		if _, err := bundle.Find(list[i], "en", "a"); err != wantErr {
			t.Errorf("Find in %d: %d", i, err)
		}
	}
}
