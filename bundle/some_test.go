package bundle_test

import (
	"fmt"
	"math/rand/v2"
	"slices"

	"quipu/api"
)

func source() *rand.Rand { return rand.New(rand.NewPCG(12, 1)) }

func oneOf[T any](r *rand.Rand, list ...T) T { return list[r.IntN(len(list))] }

// words are few, so that names, keys and texts are the same ones again and again, and aliases lead somewhere.
func words() []string {
	return []string{"a", "a/", "a/b", "b", "c", "d", "e", "z", "é", "€", "\uffff", "\U00010000"}
}

func someEntry(r *rand.Rand, key string) api.Entry {
	switch r.IntN(4) {
	case 0:
		return text(key, oneOf(r, append(words(), "", "long text")...))
	case 1:
		return number(key, oneOf(r, 0, 1, 7, 255, 1<<31, 1<<32-1))
	}
	return alias(key, oneOf(r, words()...))
}

func someEntries(r *rand.Rand) []api.Entry {
	var keys []string
	for _, i := range r.Perm(len(words()))[:r.IntN(len(words()))] {
		keys = append(keys, words()[i])
	}
	slices.Sort(keys)
	var list []api.Entry
	for _, key := range keys {
		list = append(list, someEntry(r, key))
	}
	return list
}

// someBundle may be.
func someBundle(r *rand.Rand) api.Bundle {
	var b api.Bundle
	names := append(words(), "root", "en", "fr", "en-GB")
	for i, at := range r.Perm(len(names))[:1+r.IntN(6)] {
		b.Tables = append(b.Tables, table(names[at], r.IntN(i+1)-1, someEntries(r)...))
	}
	return b
}

func clone(b api.Bundle) api.Bundle {
	c := api.Bundle{Tables: slices.Clone(b.Tables)}
	for i, t := range c.Tables {
		c.Tables[i].Entries = slices.Clone(t.Entries)
	}
	return c
}

// spoilt: a bundle of which one thing is another one; perhaps it may be still.
func spoilt(r *rand.Rand, b api.Bundle) api.Bundle {
	b = clone(b)
	t := &b.Tables[r.IntN(len(b.Tables))]
	bad := append(words(), "", "\x80", "a\xff", repeat("x", 1025), repeat("x", 1024), repeat("é", 512), repeat("é", 513), b.Tables[0].Name)
	switch r.IntN(4) {
	case 0:
		t.Name = oneOf(r, bad...)
	case 1:
		t.Parent = oneOf(r, -3, -2, -1, 0, 1, 2, 15, 16, 255, 256, -1<<63, 1<<63-1)
	}
	if len(t.Entries) == 0 {
		return b
	}
	e := &t.Entries[r.IntN(len(t.Entries))]
	switch r.IntN(5) {
	case 0:
		e.Key = oneOf(r, bad...)
	case 1:
		e.Kind = oneOf(r, -1, 0, 1, 2, 3, 255, 256, 257, 258)
	case 2:
		e.Text = oneOf(r, bad...)
	case 3:
		e.Num = oneOf(r, -1, 0, 1, 1<<32-1, 1<<32, -1<<63, 1<<63-1)
	case 4:
		other := &t.Entries[r.IntN(len(t.Entries))]
		*e, *other = *other, *e
	}
	return b
}

// many: so many entries with keys that rise, of this beginning, which all say the same text.
func many(begin string, n int, said string) []api.Entry {
	var list []api.Entry
	for i := range n {
		list = append(list, text(fmt.Sprintf("%s%04d", begin, i), said))
	}
	return list
}
