package whole_test

import (
	"slices"
	"testing"

	"quipu/whole"
)

// face is a call of whole that answers lists.
type face struct {
	name string
	call func(a, b whole.Int) [][]uint64
}

func faces() []face {
	one := func(a whole.Int) [][]uint64 { return [][]uint64{a.Mag} }
	return []face{
		{"Make", func(a, _ whole.Int) [][]uint64 { return one(whole.Make(a.Neg, a.Mag)) }},
		{"Neg", func(a, _ whole.Int) [][]uint64 { return one(whole.Neg(a)) }},
		{"Add", func(a, b whole.Int) [][]uint64 { return one(whole.Add(a, b)) }},
		{"Sub", func(a, b whole.Int) [][]uint64 { return one(whole.Sub(a, b)) }},
		{"Mul", func(a, b whole.Int) [][]uint64 { return one(whole.Mul(a, b)) }},
		{"DivMod", func(a, b whole.Int) [][]uint64 {
			quotient, rest, _ := whole.DivMod(a, b)
			return [][]uint64{quotient.Mag, rest.Mag}
		}},
		{"Pow5, Pow10", func(a, _ whole.Int) [][]uint64 {
			five, _ := whole.Pow5(len(a.Mag))
			ten, _ := whole.Pow10(len(a.Mag))
			return [][]uint64{five, ten}
		}},
		{"Text, Parse", func(a, _ whole.Int) [][]uint64 {
			back, _ := whole.Parse(whole.Text(a.Mag))
			return [][]uint64{back}
		}},
		{"Cmp", func(a, b whole.Int) [][]uint64 {
			whole.Cmp(a, b)
			return nil
		}},
	}
}

// pairs: numbers of all pairs of signs, 0, the same, the greater one ahead and behind, with and without a rest.
func pairs() [][2]whole.Int {
	lists := [][2][]uint64{
		{nil, nil},
		{l(0), l(0, 0)},
		{l(7), nil},
		{nil, l(7)},
		{l(7), l(2)},
		{l(2), l(7)},
		{l(8), l(2)},
		{l(7, 0), l(7, 0)},
		{l(5), l(0, 1)},
		{l(1, 2, 3, 0), l(9, 0, 0)},
		{l(1, 2, 3, 4), l(5, 6)},
		{l(5, 6), l(1, 2, 3, 4)},
		{l(m, m, m), l(m, m)},
		{l(0, 0, 0, h), l(0, h)},
	}
	var all [][2]whole.Int
	for _, p := range lists {
		for signs := range 4 {
			all = append(all, [2]whole.Int{{Neg: signs&1 != 0, Mag: p[0]}, {Neg: signs&2 != 0, Mag: p[1]}})
		}
	}
	return all
}

// withRoom: a copy of a with marked room behind it.
func withRoom(a whole.Int) whole.Int {
	room := append(slices.Clone(a.Mag), 0xa1, 0xa2, 0xa3, 0xa4, 0xa5, 0xa6, 0xa7, 0xa8)
	return whole.Int{Neg: a.Neg, Mag: room[:len(a.Mag)]}
}

// withSpare: a list, and what its spare room holds.
func withSpare(a []uint64) []uint64 { return a[:cap(a)] }

func copies(lists [][]uint64) [][]uint64 {
	var all [][]uint64
	for _, a := range lists {
		all = append(all, slices.Clone(a))
	}
	return all
}

func scribble(a []uint64, mark uint64) {
	for i := range withSpare(a) {
		withSpare(a)[i] = mark
	}
}

// R4: nothing that is handed in is changed, nor the room behind it.
func TestArgumentsStay(t *testing.T) {
	for _, f := range faces() {
		for _, p := range pairs() {
			a, b := withRoom(p[0]), withRoom(p[1])
			wasA, wasB := slices.Clone(withSpare(a.Mag)), slices.Clone(withSpare(b.Mag))
			f.call(a, b)
			sameLimbs(t, f.name+": first argument", withSpare(a.Mag), wasA)
			sameLimbs(t, f.name+": second argument", withSpare(b.Mag), wasB)
		}
	}
}

// R4: what is answered is new memory: it has nothing in common with the arguments, spare room too.
func TestAnswersAreNew(t *testing.T) {
	for _, f := range faces() {
		for _, p := range pairs() {
			a, b := withRoom(p[0]), withRoom(p[1])
			wasA, wasB := slices.Clone(withSpare(a.Mag)), slices.Clone(withSpare(b.Mag))
			for _, answer := range f.call(a, b) {
				scribble(answer, 0xbad)
			}
			sameLimbs(t, f.name+": first argument", withSpare(a.Mag), wasA)
			sameLimbs(t, f.name+": second argument", withSpare(b.Mag), wasB)

			answers := f.call(a, b)
			was := copies(answers)
			scribble(a.Mag, 0xbad)
			scribble(b.Mag, 0xbad)
			for i := range answers {
				sameLimbs(t, f.name+": answer", answers[i], was[i])
			}
		}
	}
}

// R4: no two lists of one answer share memory, nor those of two calls.
func TestAnswersAreApart(t *testing.T) {
	for _, f := range faces() {
		for _, p := range pairs() {
			lists := append(f.call(p[0], p[1]), f.call(p[0], p[1])...)
			for i := range lists {
				scribble(lists[i], uint64(i))
			}
			for i := range lists {
				for _, x := range withSpare(lists[i]) {
					if x != uint64(i) {
						t.Errorf("%s of %v: lists %d and %d share memory", f.name, p, i, x)
					}
				}
			}
		}
	}
}

// R4, R5: lists that overlap one another are numbers as any others.
func TestArgumentsMayOverlap(t *testing.T) {
	for _, f := range faces() {
		room := l(3, m, 5, h, 7, 0, 9)
		was := slices.Clone(room)
		for signs := range 4 {
			for from := range room {
				for to := from; to <= len(room); to++ {
					a := whole.Int{Neg: signs&1 != 0, Mag: room}
					b := whole.Int{Neg: signs&2 != 0, Mag: room[from:to]}
					got := f.call(a, b)
					a.Mag, b.Mag = slices.Clone(a.Mag), slices.Clone(b.Mag)
					want := f.call(a, b)
					for i := range got {
						sameLimbs(t, f.name, got[i], want[i])
					}
					sameLimbs(t, f.name+": argument", room, was)
				}
			}
		}
	}
}
