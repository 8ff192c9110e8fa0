package nat_test

import (
	"slices"
	"testing"

	"quipu/nat"
)

// face is a call of nat that answers lists.
type face struct {
	name string
	call func(a, b []uint64) [][]uint64
}

func faces() []face {
	return []face{
		{"Norm", func(a, _ []uint64) [][]uint64 { return [][]uint64{nat.Norm(a)} }},
		{"Of", func(a, _ []uint64) [][]uint64 { return [][]uint64{nat.Of(uint64(len(a)))} }},
		{"Add", func(a, b []uint64) [][]uint64 { return [][]uint64{nat.Add(a, b)} }},
		{"Mul", func(a, b []uint64) [][]uint64 { return [][]uint64{nat.Mul(a, b)} }},
		{"Sub", func(a, b []uint64) [][]uint64 {
			rest, _ := nat.Sub(a, b)
			return [][]uint64{rest}
		}},
		{"DivMod", func(a, b []uint64) [][]uint64 {
			quotient, rest, _ := nat.DivMod(a, b)
			return [][]uint64{quotient, rest}
		}},
		{"Shl", func(a, _ []uint64) [][]uint64 {
			up, _ := nat.Shl(a, 0)
			far, _ := nat.Shl(a, 65)
			return [][]uint64{up, far}
		}},
		{"Shr", func(a, _ []uint64) [][]uint64 {
			down, _ := nat.Shr(a, 0)
			far, _ := nat.Shr(a, 65)
			return [][]uint64{down, far}
		}},
		{"Cmp, Bits, Uint", func(a, b []uint64) [][]uint64 {
			nat.Cmp(a, b)
			nat.Bits(a)
			nat.Uint(a)
			return nil
		}},
	}
}

func argumentPairs() [][2][]uint64 {
	return [][2][]uint64{
		{nil, nil},
		{l(0), l(0, 0)},
		{l(7), nil},
		{l(7), l(2)},
		{l(2), l(7)},
		{l(7, 0), l(7, 0)},
		{l(5), l(0, 1)},
		{l(1, 2, 3, 0), l(9, 0, 0)},
		{l(1, 2, 3, 4), l(5, 6)},
		{l(5, 6), l(1, 2, 3, 4)},
		{l(m, m, m), l(m, m)},
		{l(0, 0, 0, h), l(0, h)},
	}
}

// withRoom: a copy of a with marked room behind it.
func withRoom(a []uint64) []uint64 {
	room := append(slices.Clone(a), 0xa1, 0xa2, 0xa3, 0xa4, 0xa5, 0xa6, 0xa7, 0xa8)
	return room[:len(a)]
}

// withSpare: a, and what its spare room holds.
func withSpare(a []uint64) []uint64 { return a[:cap(a)] }

func copies(lists [][]uint64) [][]uint64 {
	var all [][]uint64
	for _, a := range lists {
		all = append(all, slices.Clone(a))
	}
	return all
}

func scribble(a []uint64, mark uint64) {
	for i := range withSpare(a) {
		withSpare(a)[i] = mark
	}
}

// R4: nothing that is handed in is changed, nor the room behind it.
func TestArgumentsStay(t *testing.T) {
	for _, f := range faces() {
		for _, p := range argumentPairs() {
			a, b := withRoom(p[0]), withRoom(p[1])
			wasA, wasB := slices.Clone(withSpare(a)), slices.Clone(withSpare(b))
			f.call(a, b)
			same(t, f.name+": first argument", withSpare(a), wasA)
			same(t, f.name+": second argument", withSpare(b), wasB)
		}
	}
}

// R4: what is answered is new memory: it has nothing in common with the arguments, spare room too.
func TestAnswersAreNew(t *testing.T) {
	for _, f := range faces() {
		for _, p := range argumentPairs() {
			a, b := withRoom(p[0]), withRoom(p[1])
			wasA, wasB := slices.Clone(withSpare(a)), slices.Clone(withSpare(b))
			for _, answer := range f.call(a, b) {
				scribble(answer, 0xbad)
			}
			same(t, f.name+": first argument", withSpare(a), wasA)
			same(t, f.name+": second argument", withSpare(b), wasB)

			answers := f.call(a, b)
			was := copies(answers)
			scribble(a, 0xbad)
			scribble(b, 0xbad)
			for i := range answers {
				same(t, f.name+": answer", answers[i], was[i])
			}
		}
	}
}

// R4: no two lists of one answer share memory, nor those of two calls.
func TestAnswersAreApart(t *testing.T) {
	for _, f := range faces() {
		for _, p := range argumentPairs() {
			lists := append(f.call(p[0], p[1]), f.call(p[0], p[1])...)
			for i := range lists {
				scribble(lists[i], uint64(i))
			}
			for i := range lists {
				for _, x := range withSpare(lists[i]) {
					if x != uint64(i) {
						t.Errorf("%s of %x: lists %d and %d share memory", f.name, p, i, x)
					}
				}
			}
		}
	}
}

// R4, R5: lists that overlap one another are numbers as any others.
func TestArgumentsMayOverlap(t *testing.T) {
	for _, f := range faces() {
		room := l(3, m, 5, h, 7, 0, 9)
		for from := range room {
			for to := from; to <= len(room); to++ {
				was := slices.Clone(room)
				got := f.call(room, room[from:to])
				want := f.call(slices.Clone(room), slices.Clone(room[from:to]))
				for i := range got {
					same(t, f.name, got[i], want[i])
				}
				same(t, f.name+": argument", room, was)
			}
		}
	}
}
