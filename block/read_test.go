package block_test

import (
	"math"
	"testing"

	"quipu/api"
)

// P10.3

func TestReadExample(t *testing.T) {
	p := newPair(t, "abc", faultAt(1, api.FaultShort, 5, 0), faultAt(2, api.FaultFlip, 4, 0))
	for i, x := range []struct {
		at   int
		want string
		err  api.Errno
	}{{0, "abc", api.OK}, {0, "ab", api.OK}, {0, "acc", api.OK}, {1, "", api.ErrBlockPlace}} {
		if told, err := p.read(t, x.at, 3); told != x.want || err != x.err {
			t.Errorf("read %d: %q, error %d", i, told, err)
		}
	}
	if p.disk.Reads() != 3 {
		t.Error("Reads:", p.disk.Reads())
	}
}

// numbers: the ends of an int, those of a disk of that size and of a block, and just beyond.
func numbers(size int) []int {
	return []int{
		math.MinInt, math.MinInt + 1, -1 << 32, -65, -64, -2, -1, 0, 1, 2, 63, 64, 65, 66, 128, 1 << 32, 1<<32 + 1, math.MaxInt - 64, math.MaxInt - 63, math.MaxInt - 1, math.MaxInt,
		size - 65, size - 64, size - 63, size - 2, size - 1, size, size + 1, size + 64,
	}
}

func TestReadPlaces(t *testing.T) {
	r := source()
	tally := map[api.Errno]int{}
	for _, size := range []int{0, 1, 2, 16, 63, 64, 65, 127, 128, 129, 1000, 65536, 65551, 65552} {
		p := newPair(t, someBytes(r, size))
		for _, at := range numbers(size) {
			for _, n := range numbers(size) {
				_, err := p.read(t, at, n)
				tally[err]++
			}
		}
	}
	if tally[api.OK] < 300 || tally[api.ErrBlockPlace] < 1000 || len(tally) != 2 {
		t.Error("too few of a kind:", tally)
	}
}

func TestReadEveryPlace(t *testing.T) {
	p := newPair(t, someBytes(source(), 150))
	for at := -2; at <= 152; at++ {
		for n := -1; n <= 66; n++ {
			p.read(t, at, n)
		}
	}
}

// A read that is refused does not count, and no fault is its.
func TestReadRefusedDoesNotCount(t *testing.T) {
	for kind := 1; kind <= 3; kind++ {
		p := newPair(t, "abcdef", faultAt(0, kind, 1, 1), faultAt(2, kind, 2, 2))
		for number := range 4 {
			for _, refused := range [][2]int{{0, 0}, {0, 7}, {6, 1}, {-1, 1}, {0, 65}, {0, -1}, {math.MaxInt, 1}, {1, math.MaxInt}, {math.MinInt, 64}} {
				if told, err := p.read(t, refused[0], refused[1]); told != "" || err != api.ErrBlockPlace {
					t.Errorf("read of %v: %q, error %d", refused, told, err)
				}
			}
			if p.disk.Reads() != number {
				t.Errorf("Reads: %d, not %d", p.disk.Reads(), number)
			}
			p.read(t, 1, 5)
		}
	}
}

// A read that fails, and one that tells less, count.
func TestReadFaultsCount(t *testing.T) {
	p := newPair(t, "abcdef", faultAt(0, api.FaultError, 0, 0), faultAt(1, api.FaultError, 0, 0), faultAt(2, api.FaultShort, 0, 0), faultAt(3, api.FaultFlip, 0, 0))
	for number, want := range []api.Errno{api.ErrBlockRead, api.ErrBlockRead, api.OK, api.OK, api.OK} {
		if _, err := p.read(t, 0, 6); err != want || p.disk.Reads() != number+1 {
			t.Errorf("read %d: error %d, Reads %d", number, err, p.disk.Reads())
		}
	}
}

func TestReadFails(t *testing.T) {
	for _, n := range []int{1, 2, 63, 64} {
		for _, place := range []int{0, 1, n - 1, n, n + 1, math.MaxInt} {
			for bit := range 8 {
				p := newPair(t, someBytes(source(), 100), faultAt(0, api.FaultError, place, bit))
				if told, err := p.read(t, 3, n); told != "" || err != api.ErrBlockRead {
					t.Errorf("%s, error %d", short(told), err)
				}
				p.read(t, 3, n)
			}
		}
	}
}

// counted is a fault's Byte, and what it comes to.
type counted struct{ place, want int }

// countedRound: below n, at n and above.
func countedRound(n int) []counted {
	return []counted{{0, 0}, {1, 1 % n}, {n - 1, n - 1}, {n, 0}, {n + 1, 1 % n}, {2*n - 1, n - 1}, {2 * n, 0}, {1000 * n, 0}, {1<<32*n + n - 1, n - 1}, {math.MaxInt, math.MaxInt % n}}
}

// expectChange reads with a fault of a kind, of each Byte and Bit, and holds what is told against want; the read behind it tells what the disk has.
func expectChange(t *testing.T, kind int, want func(asked string, place, bit int) string) {
	t.Helper()
	image := someBytes(source(), 100)
	for n := 1; n <= 64; n++ {
		for _, x := range countedRound(n) {
			for bit := range 8 {
				p := newPair(t, image, faultAt(0, kind, x.place, bit))
				asked := image[7:][:n]
				if told, err := p.read(t, 7, n); told != want(asked, x.want, bit) || err != api.OK {
					t.Errorf("Byte %d of %d, bit %d: %s, error %d", x.place, n, bit, short(told), err)
				}
				if told, err := p.read(t, 7, n); told != asked || err != api.OK {
					t.Errorf("the read behind: %s, error %d", short(told), err)
				}
			}
		}
	}
}

// How many bytes are told is counted round, so they are never all.
func TestReadShort(t *testing.T) {
	expectChange(t, api.FaultShort, func(asked string, place, _ int) string { return asked[:place] })
}

func TestReadFlip(t *testing.T) {
	expectChange(t, api.FaultFlip, turned)
}

// A bit that is 1 is turned to 0, one that is 0 to 1: of every byte there is.
func TestReadFlipOfEveryByte(t *testing.T) {
	for b := range 256 {
		for bit := range 8 {
			p := newPair(t, string([]byte{byte(b)}), faultAt(0, api.FaultFlip, b, bit))
			if told, _ := p.read(t, 0, 1); told != string([]byte{byte(b ^ 1<<bit)}) {
				t.Errorf("bit %d of %d: % X", bit, b, told)
			}
		}
	}
}

// What was told stays as it was, whatever is read behind it.
func TestReadAnswersStay(t *testing.T) {
	p := newPair(t, "abcdef", faultAt(1, api.FaultFlip, 0, 0), faultAt(2, api.FaultFlip, 0, 0), faultAt(3, api.FaultShort, 2, 0))
	var told []string
	for range 5 {
		s, _ := p.read(t, 0, 6)
		told = append(told, s)
	}
	for i, want := range []string{"abcdef", "`bcdef", "`bcdef", "ab", "abcdef"} {
		if told[i] != want {
			t.Errorf("read %d: %q", i, told[i])
		}
	}
}

func TestReadByWords(t *testing.T) {
	r := source()
	tally := map[api.Errno]int{}
	for range 2000 {
		var faults []api.Fault
		for _, at := range r.Perm(40)[:r.IntN(20)] {
			faults = append(faults, faultAt(at, 1+r.IntN(3), r.IntN(200), r.IntN(8)))
		}
		size := r.IntN(200)
		p := newPair(t, someBytes(r, size), faults...)
		for range 50 {
			_, err := p.read(t, r.IntN(size+4)-2, r.IntN(70)-2)
			tally[err]++
		}
	}
	for _, err := range []api.Errno{api.OK, api.ErrBlockRead, api.ErrBlockPlace} {
		if tally[err] < 1000 {
			t.Error("too few of a kind:", tally)
		}
	}
}
