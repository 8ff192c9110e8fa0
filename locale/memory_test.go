package locale_test

import (
	"fmt"
	"slices"
	"sync"
	"testing"

	"quipu/api"
	"quipu/locale"
)

// R3, R4, R5

// roomy: a list of the same, with room behind it, which has been written on.
func roomy[T any](list []T, behind ...T) []T {
	return append(slices.Clone(list), behind...)[:len(list)]
}

func roomyRecord(l api.Locale) api.Locale {
	l.Short, l.Long = roomy(l.Short, row(1, 1, "room")), roomy(l.Long, row(2, 2, "room"))
	l.Coins, l.Units = roomy(l.Coins, api.Coin{Code: "room"}), roomy(l.Units, api.Unit{Id: "room"})
	return l
}

// wholeRecord: the record with the room behind its lists.
func wholeRecord(l api.Locale) api.Locale {
	l.Short, l.Long, l.Coins, l.Units = l.Short[:cap(l.Short)], l.Long[:cap(l.Long)], l.Coins[:cap(l.Coins)], l.Units[:cap(l.Units)]
	return clone(l)
}

func roomyBundle(b api.Bundle) api.Bundle {
	tables := roomy(b.Tables, table("room", 7))
	for i := range tables {
		tables[i].Entries = roomy(tables[i].Entries, text("room", "behind"), number("more", 1))
	}
	return of(tables...)
}

func wholeBundle(b api.Bundle) api.Bundle {
	b.Tables = slices.Clone(b.Tables[:cap(b.Tables)])
	for i, t := range b.Tables {
		b.Tables[i].Entries = slices.Clone(t.Entries[:cap(t.Entries)])
	}
	return b
}

func sameBundle(a, b api.Bundle) bool {
	return slices.EqualFunc(a.Tables, b.Tables, func(x, y api.Table) bool {
		return x.Name == y.Name && x.Parent == y.Parent && slices.Equal(x.Entries, y.Entries)
	})
}

func TestWhatIsHandedInStays(t *testing.T) {
	r := source()
	for i := range 1000 {
		l := roomyRecord(someRecord(r))
		if i%3 == 0 {
			l = roomyRecord(spoilt(r, l))
		}
		was := wholeRecord(l)
		locale.Check(l)
		locale.Entries(l)
		if !same(wholeRecord(l), was) {
			t.Fatalf("%s has become %s", short(was), short(wholeRecord(l)))
		}
		b := roomyBundle(someFamily(r))
		before := wholeBundle(b)
		locale.Load(b, fmt.Sprint("t", len(b.Tables)-1))
		if !sameBundle(wholeBundle(b), before) {
			t.Fatalf("%s has become %s", short(before), short(wholeBundle(b)))
		}
	}
}

func fill[T any](list []T, with T) {
	list = list[:cap(list)]
	for i := range list {
		list[i] = with
	}
}

// scribble writes over a record's lists and the room behind them.
func scribble(l api.Locale) {
	fill(l.Short, row(77, 77, "scribble"))
	fill(l.Long, row(77, 77, "scribble"))
	fill(l.Coins, api.Coin{Code: "scribble"})
	fill(l.Units, api.Unit{Id: "scribble"})
}

func TestLoadedIsItsOwners(t *testing.T) {
	r := source()
	for i := range 300 {
		want := someRecord(r)
		if i%2 == 0 {
			want.Long = slices.Clone(want.Short)
		}
		b := of(table(want.Name, -1, entriesByWords(want)...))
		first, _ := locale.Load(b, want.Name)
		second, _ := locale.Load(b, want.Name)
		scribble(first)
		if !same(second, want) {
			t.Fatalf("Load of %s: both answers share memory", short(want))
		}
		fill(second.Short, row(77, 77, "scribble"))
		if !slices.Equal(second.Long, want.Long) {
			t.Fatalf("Load of %s: two lists of the answer share memory", short(want))
		}
		scribble(second)
		expectLoad(t, b, want.Name, want)
		third, _ := locale.Load(b, want.Name)
		fill(b.Tables[0].Entries, number("scribble", 1))
		if !same(third, want) {
			t.Fatalf("Load of %s: the answer changes with the bundle", short(want))
		}
	}
}

func TestEntriesAreTheirOwners(t *testing.T) {
	r := source()
	for range 300 {
		l := someRecord(r)
		want := entriesByWords(l)
		was := clone(l)
		first, _ := locale.Entries(l)
		second, _ := locale.Entries(l)
		fill(first, number("scribble", 1))
		if !slices.Equal(second, want) || !same(l, was) {
			t.Fatalf("Entries of %s: the answer is not its owner's", short(was))
		}
		scribble(l)
		if !slices.Equal(second, want) {
			t.Fatalf("Entries of %s: the answer changes with the record", short(was))
		}
	}
}

// A nil list and an empty one are the same.
func TestNilAndEmptyLists(t *testing.T) {
	l := least()
	expectCheck(t, "nil lists", l, api.OK)
	l.Short, l.Long, l.Coins, l.Units = []api.Compact{}, roomy[api.Compact](nil, row(1, 1, "room")), []api.Coin{}, roomy[api.Unit](nil, api.Unit{Id: "room"})
	expectCheck(t, "empty lists", l, api.OK)
	expectEntries(t, l, leastEntries()...)
}

// What comes before a call changes nothing in it, and beside an error nothing is told.
func TestCallsKeepNothing(t *testing.T) {
	r := source()
	list := []api.Bundle{one(entriesByWords(record())...), one(), one(without(entriesByWords(record()), "nan")...), one(with(entriesByWords(full()), number("mingroup", 0))...), of(), of(table("fr", -1))}
	want := []api.Errno{api.OK, api.ErrLocaleKey, api.ErrLocaleKey, api.ErrLocaleForm, api.ErrBundleMany, api.ErrBundleName}
	for range 300 {
		i := r.IntN(len(list))
		l, err := locale.Load(list[i], "en")
		if err != want[i] || err == api.OK && !same(l, record()) || err != api.OK && !same(l, api.Locale{}) {
			t.Errorf("Load of %d: %s, error %d", i, short(l), err)
		}
	}
}

func TestCallsSideBySide(t *testing.T) {
	var wait sync.WaitGroup
	shared := record()
	b := one(entriesByWords(shared)...)
	for range 8 {
		wait.Go(func() {
			for range 20 {
				l, err := locale.Load(b, "en")
				list, other := locale.Entries(shared)
				if err != api.OK || other != api.OK || !same(l, record()) || !slices.Equal(list, b.Tables[0].Entries) || locale.Check(shared) != api.OK {
					t.Errorf("Load: %s, error %d; Entries: %s, error %d", short(l), err, short(list), other)
				}
			}
		})
	}
	wait.Wait()
}
