package block_test

import (
	"math"
	"slices"
	"testing"

	"quipu/api"
	"quipu/block"
)

// P10.2

func expectNew(t *testing.T, image string, faults []api.Fault, want api.Errno) {
	t.Helper()
	d, err := block.New(image, faults)
	switch {
	case err != want || (d == nil) != (want != api.OK):
		t.Errorf("New of %s with %d faults %.200v: %v, error %d, not %d", short(image), len(faults), faults, d != nil, err, want)
	case d != nil && (d.Size() != len(image) || d.Reads() != 0):
		t.Errorf("New of %s: Size %d, Reads %d", short(image), d.Size(), d.Reads())
	}
}

// manyFaults: n of them, one at each read from 0 on.
func manyFaults(n int) []api.Fault {
	var list []api.Fault
	for at := range n {
		list = append(list, faultAt(at, 1+at%3, at, at%8))
	}
	return list
}

func TestNewLengths(t *testing.T) {
	for _, n := range []int{0, 1, 15, 16, 17, 64, 65, 65535, 65536, 65551, 65552} {
		expectNew(t, repeat("a", n), nil, api.OK)
	}
	for _, n := range []int{65553, 65554, 1 << 17, 1 << 20} {
		expectNew(t, repeat("a", n), nil, api.ErrBlockLong)
	}
}

func TestNewFaultCounts(t *testing.T) {
	for _, faults := range [][]api.Fault{nil, {}, manyFaults(1), manyFaults(2), manyFaults(63), manyFaults(64)} {
		expectNew(t, "", faults, api.OK)
		expectNew(t, "abc", faults, api.OK)
		expectNew(t, repeat("a", 65552), faults, api.OK)
	}
	for _, n := range []int{65, 66, 100, 5000} {
		expectNew(t, "", manyFaults(n), api.ErrBlockFault)
		expectNew(t, "abc", manyFaults(n), api.ErrBlockFault)
	}
}

// around: a fault alone, and ahead of others, among them, behind them.
func around(f api.Fault) [][]api.Fault {
	others := []api.Fault{faultAt(1001, api.FaultShort, 5, 0), faultAt(1000, api.FaultFlip, 0, 7), faultAt(1002, api.FaultError, 0, 0)}
	lists := [][]api.Fault{{f}}
	for at := range len(others) + 1 {
		lists = append(lists, slices.Insert(slices.Clone(others), at, f))
	}
	return lists
}

// Each field at its ends and just beyond, of each kind, whether the kind goes by that field or not.
func TestNewFaultFields(t *testing.T) {
	at := map[int]bool{math.MinInt: false, -2: false, -1: false, 0: true, 1: true, 65552: true, 1 << 32: true, math.MaxInt: true}
	bits := map[int]bool{math.MinInt: false, -8: false, -1: false, 0: true, 1: true, 2: true, 3: true, 4: true, 5: true, 6: true, 7: true, 8: false, 9: false, 256: false, 1 << 32: false, math.MaxInt: false}
	kinds := map[int]bool{math.MinInt: false, -1: false, 0: false, 1: true, 2: true, 3: true, 4: false, 5: false, 257: false, 1<<32 + 1: false, math.MaxInt: false}
	for kind, mayKind := range kinds {
		for number, mayNumber := range at {
			for bit, mayBit := range bits {
				for _, f := range []struct {
					fault api.Fault
					may   bool
				}{
					{faultAt(number, kind, 0, bit), mayKind && mayNumber && mayBit}, {faultAt(0, kind, number, bit), mayKind && mayNumber && mayBit}, {faultAt(number, kind, number, bit), mayKind && mayNumber && mayBit},
				} {
					want := api.ErrBlockFault
					if f.may {
						want = api.OK
					}
					for _, list := range around(f.fault) {
						expectNew(t, "abc", list, want)
					}
				}
			}
		}
	}
}

func TestNewTwoOfOneRead(t *testing.T) {
	for _, at := range []int{0, 1, 63, 64, 1 << 40, math.MaxInt} {
		for kind := 1; kind <= 3; kind++ {
			for other := 1; other <= 3; other++ {
				first, second := faultAt(at, kind, 1, 2), faultAt(at, other, 3, 4)
				expectNew(t, "abc", []api.Fault{first}, api.OK)
				expectNew(t, "abc", []api.Fault{second}, api.OK)
				expectNew(t, "abc", []api.Fault{first, second}, api.ErrBlockFault)
				expectNew(t, "abc", []api.Fault{first, faultAt(7, 1, 0, 0), second}, api.ErrBlockFault)
			}
		}
	}
	// Just the same fault twice is two, and so are any two of many.
	for i := range 64 {
		for j := range 64 {
			list := manyFaults(64)
			list[i].At = list[j].At
			want := api.ErrBlockFault
			if i == j {
				want = api.OK
			}
			expectNew(t, "abc", list, want)
			list[i] = list[j]
			expectNew(t, "abc", list, want)
		}
	}
}

// Faults need no order, and may be those of reads that never come.
func TestNewOrderOfFaults(t *testing.T) {
	r := source()
	for range 50 {
		list := manyFaults(64)
		r.Shuffle(len(list), func(i, j int) { list[i], list[j] = list[j], list[i] })
		p := newPair(t, "abcdefgh", list...)
		for number := range 70 {
			p.read(t, number%5, 1+number%3)
		}
	}
}

func TestNewWhichError(t *testing.T) {
	long := repeat("a", 65553)
	for _, faults := range [][]api.Fault{nil, manyFaults(64), manyFaults(65), {faultAt(-1, 1, 0, 0)}, {faultAt(0, 0, 0, 0)}, {faultAt(0, 1, -1, 0)}, {faultAt(0, 3, 0, 8)}, {faultAt(2, 1, 0, 0), faultAt(2, 3, 0, 0)}} {
		expectNew(t, long, faults, api.ErrBlockLong)
	}
}

// R4: the list is neither changed nor kept, nor the room behind it.
func TestNewKeepsNoList(t *testing.T) {
	room := manyFaults(10)
	before := slices.Clone(room)
	handed := room[1:5]
	d, err := block.New("abcdefgh", handed)
	if err != api.OK {
		t.Fatal(err)
	}
	words := &diskByWords{image: "abcdefgh", faults: slices.Clone(handed)}
	for number := range 12 {
		if !slices.Equal(room, before) {
			t.Fatal("the list was changed:", room)
		}
		for i := range room {
			room[i] = faultAt(number, 1+number%3, number, 3) // what is handed in is the caller's again
		}
		got, err := d.Read(number%4, 4)
		if want, wantErr := words.read(number%4, 4); got != want || err != wantErr {
			t.Errorf("read %d: %q, error %d, not %q, error %d", number, got, err, want, wantErr)
		}
		copy(room, before)
	}
}

func TestNewOfRefusedListChangesNothing(t *testing.T) {
	room := append(manyFaults(8), faultAt(-1, 0, 0, 0), faultAt(9, 2, 0, 0))
	before := slices.Clone(room)
	expectNew(t, "abc", room[:9], api.ErrBlockFault)
	if !slices.Equal(room, before) {
		t.Error("the list was changed:", room)
	}
}

// Two disks of one image and one list have nothing to do with each other.
func TestNewDisksApart(t *testing.T) {
	faults := []api.Fault{faultAt(0, api.FaultShort, 1, 0), faultAt(2, api.FaultFlip, 2, 5)}
	one, other := newPair(t, "abcdef", faults...), newPair(t, "abcdef", faults...)
	for range 4 {
		one.read(t, 0, 6)
	}
	other.expectCounts(t)
	for range 4 {
		other.read(t, 0, 6)
		one.expectCounts(t)
	}
}
