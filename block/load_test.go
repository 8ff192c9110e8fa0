package block_test

import (
	"hash/crc32"
	"slices"
	"testing"

	"quipu/api"
	"quipu/block"
)

// P10.4

func TestLoadExamples(t *testing.T) {
	expectLoad(t, "abc", api.ErrBlockHead, 0)
	expectLoad(t, repeat("\x00", 16), api.ErrBlockHead, 1)
	expectLoad(t, repeat("0", 16), api.ErrBlockHead, 1)
}

// Fewer than sixteen bytes are not even read, whatever faults there are.
func TestLoadSmallDisks(t *testing.T) {
	image := imageByWords("")
	for size := range 16 {
		expectLoad(t, image[:size], api.ErrBlockHead, 0)
		expectLoad(t, repeat("a", size), api.ErrBlockHead, 0)
		expectLoad(t, image[:size], api.ErrBlockHead, 0, faultAt(0, api.FaultError, 0, 0))
	}
	expectLoad(t, image, api.OK, 1)
	expectLoad(t, image+"x", api.OK, 1)
	expectLoad(t, imageByWords("a"), api.OK, 1)
	expectLoad(t, image, api.ErrBlockRead, 1, faultAt(0, api.FaultError, 0, 0))
	expectLoad(t, image, api.ErrBlockShort, 1, faultAt(0, api.FaultShort, 15, 0))
	expectLoad(t, repeat("a", 17), api.ErrBlockHead, 1)
}

// The mark is wrong, and nothing else.
func TestLoadMark(t *testing.T) {
	body := "body"
	sum := crc32.ChecksumIEEE([]byte(body))
	expectLoad(t, headWith("QPU1", 4, sum)+body, api.OK, 1)
	for _, mark := range []string{"QPU2", "QPU0", "qPU1", "QpU1", "QPu1", "RPU1", "QQU1", "QPV1", "1UPQ", "\x00\x00\x00\x00", " QPU", "QPU\x00"} {
		expectLoad(t, headWith(mark, 4, sum)+body, api.ErrBlockHead, 1)
	}
}

func TestLoadHeadSum(t *testing.T) {
	image := imageByWords("body")
	for at := 4; at < 16; at++ {
		for b := range 256 {
			if byte(b) == image[at] {
				continue
			}
			expectLoad(t, image[:at]+string([]byte{byte(b)})+image[at+1:], api.ErrBlockHead, 1)
		}
	}
	expectLoad(t, image[:12]+"\x00\x00\x00\x00"+image[16:], api.ErrBlockHead, 1)
	expectLoad(t, image[:12]+"\xff\xff\xff\xff"+image[16:], api.ErrBlockHead, 1)
}

func TestLoadLong(t *testing.T) {
	full := repeat("a", 65536)
	sum := crc32.ChecksumIEEE([]byte(full))
	expectLoad(t, headWith("QPU1", 65536, sum)+full, api.OK, 1025)
	for _, length := range []int{65537, 65538, 1 << 17, 1 << 24, 1<<31 - 1, 1 << 31, 1<<32 - 16, 1<<32 - 1} {
		expectLoad(t, headWith("QPU1", length, sum)+full, api.ErrBlockLong, 1)
		expectLoad(t, headWith("QPU1", length, 0), api.ErrBlockLong, 1)
		expectLoad(t, headWith("QPU1", length, sum)+full[:100], api.ErrBlockLong, 1)
	}
	for _, n := range []int{0, 1, 47, 48, 49, 111, 112, 113, 1000, 65535, 65536} {
		image := imageByWords(full[:n])
		expectLoad(t, image, api.OK, (n+16+63)/64)
		for _, less := range []int{1, 2, 40, n} {
			if less > 0 && less <= n {
				expectLoad(t, image[:len(image)-less], api.ErrBlockLong, 1)
			}
		}
	}
}

func TestLoadBodySum(t *testing.T) {
	for _, n := range []int{0, 1, 48, 49, 200} {
		body := repeat("b", n)
		sum := crc32.ChecksumIEEE([]byte(body))
		reads := (n + 16 + 63) / 64
		expectLoad(t, headWith("QPU1", n, sum)+body, api.OK, reads)
		for bit := range 32 {
			expectLoad(t, headWith("QPU1", n, sum^1<<bit)+body, api.ErrBlockSum, reads)
		}
		if n > 0 {
			expectLoad(t, headWith("QPU1", n, sum)+repeat("c", n), api.ErrBlockSum, reads)
			expectLoad(t, headWith("QPU1", n-1, sum)+body, api.ErrBlockSum, (n-1+16+63)/64)
		}
	}
}

// Of several errors that could come, the one that is met first does.
func TestLoadWhichError(t *testing.T) {
	body := repeat("a", 200)
	good, wrongSum, long, noMark := imageByWords(body), headWith("QPU1", 200, 0)+body, headWith("QPU1", 217, 0)+body, headWith("QPU2", 1<<20, 0)+body
	fail, less := faultAt(0, api.FaultError, 0, 0), faultAt(0, api.FaultShort, 63, 0)
	for _, image := range []string{good, wrongSum, long, noMark, repeat("\x00", 300), turned(long, 15, 0)} {
		expectLoad(t, image, api.ErrBlockRead, 1, fail)
		expectLoad(t, image, api.ErrBlockShort, 1, less)
	}
	later, laterLess := faultAt(3, api.FaultError, 0, 0), faultAt(2, api.FaultShort, 7, 0)
	for _, x := range []struct {
		image string
		first api.Errno
	}{{long, api.ErrBlockLong}, {noMark, api.ErrBlockHead}, {turned(long, 15, 0), api.ErrBlockHead}, {turned(wrongSum, 0, 7), api.ErrBlockHead}} {
		expectLoad(t, x.image, x.first, 1)
		expectLoad(t, x.image, x.first, 1, later, laterLess)
	}
	expectLoad(t, wrongSum, api.ErrBlockSum, 4)
	expectLoad(t, wrongSum, api.ErrBlockRead, 4, later)
	expectLoad(t, wrongSum, api.ErrBlockShort, 3, later, laterLess)
	expectLoad(t, good, api.ErrBlockShort, 3, laterLess, later)
	expectLoad(t, good, api.ErrBlockRead, 2, laterLess, later, faultAt(1, api.FaultError, 0, 0))
	expectLoad(t, good, api.ErrBlockRead, 4, later, faultAt(1, api.FaultFlip, 0, 0))
	expectLoad(t, good, api.ErrBlockShort, 3, laterLess, faultAt(1, api.FaultFlip, 0, 0))
	expectLoad(t, good, api.ErrBlockHead, 1, laterLess, faultAt(0, api.FaultFlip, 8, 0))
}

// edges: how many bytes a body has that ends at a block's end, just ahead, just behind.
func edges() []int {
	return []int{0, 1, 2, 46, 47, 48, 49, 50, 110, 111, 112, 113, 114, 175, 176, 177, 240, 1000}
}

// More bytes behind an image change nothing, but how many a block has.
func TestLoadMoreBehind(t *testing.T) {
	r := source()
	for _, n := range edges() {
		body := someBytes(r, n)
		for _, more := range []int{0, 1, 15, 16, 47, 48, 49, 63, 64, 65, 200} {
			p := newPair(t, imageByWords(body)+someBytes(r, more))
			if got, err := p.load(t); got != body || err != api.OK || p.disk.Reads() != (16+n+63)/64 {
				t.Errorf("Load of a body of %d bytes, %d behind: %s, error %d, %d reads", n, more, short(got), err, p.disk.Reads())
			}
		}
	}
}

// A block has 64 bytes, or those that are left on the disk, not those of the image: so a fault's Byte is counted round by these.
func TestLoadAsksForWholeBlocks(t *testing.T) {
	body := repeat("a", 60)
	image := imageByWords(body)
	for _, x := range []struct {
		more, place int
		want        api.Errno
	}{{0, 11, api.ErrBlockSum}, {0, 12, api.ErrBlockSum}, {1, 12, api.OK}, {1, 13, api.ErrBlockSum}, {52, 63, api.OK}, {52, 12, api.OK}, {52, 64, api.ErrBlockSum}, {100, 63, api.OK}, {100, 64, api.ErrBlockSum}, {100, 75, api.ErrBlockSum}, {100, 76, api.OK}} {
		expectLoad(t, image+repeat("b", x.more), x.want, 2, faultAt(1, api.FaultFlip, x.place, 3))
	}
	for _, more := range []int{0, 1, 51, 52, 53, 200} {
		for place := range 130 {
			expectLoad(t, image+repeat("b", more), api.ErrBlockShort, 2, faultAt(1, api.FaultShort, place, 0))
		}
	}
}

// The numbers of the reads go on: from those ahead of Load, and from one Load to the next.
func TestLoadBehindOtherReads(t *testing.T) {
	body := repeat("a", 150)
	p := newPair(t, imageByWords(body), faultAt(4, api.FaultError, 0, 0), faultAt(9, api.FaultFlip, 70, 0), faultAt(11, api.FaultShort, 0, 0))
	p.read(t, 100, 10)
	for i, want := range []struct {
		err   api.Errno
		reads int
	}{{api.OK, 4}, {api.ErrBlockRead, 5}, {api.OK, 8}, {api.ErrBlockSum, 11}, {api.ErrBlockShort, 12}, {api.OK, 15}, {api.OK, 18}} {
		if got, err := p.load(t); err != want.err || (got == body) != (err == api.OK) || p.disk.Reads() != want.reads {
			t.Errorf("Load %d: error %d, %d reads", i, err, p.disk.Reads())
		}
	}
	p.read(t, 0, 16)
}

// someImage: an image, or nearly one.
func someImage(below func(int) int, some func(int) string) string {
	body := some(edges()[below(len(edges()))])
	image := imageByWords(body)
	switch below(6) {
	case 0:
		image = image[:below(len(image)+1)]
	case 1:
		image = headWith("QPU1", below(300), crc32.ChecksumIEEE([]byte(body))) + body
	case 2:
		image = turned(image, below(len(image)), below(8))
	case 3:
		image += some(below(200))
	case 4:
		image = some(len(image))
	}
	return image
}

func TestLoadByWords(t *testing.T) {
	r := source()
	tally := map[api.Errno]int{}
	for range 20000 {
		image := someImage(r.IntN, func(n int) string { return someBytes(r, n) })
		var faults []api.Fault
		for _, at := range r.Perm(12)[:r.IntN(3)] {
			faults = append(faults, faultAt(at, 1+r.IntN(3), r.IntN(200), r.IntN(8)))
		}
		p := newPair(t, image, faults...)
		for range 2 {
			_, err := p.load(t)
			tally[err]++
		}
	}
	for _, err := range []api.Errno{api.OK, api.ErrBlockRead, api.ErrBlockShort, api.ErrBlockSum, api.ErrBlockHead, api.ErrBlockLong} {
		if tally[err] < 500 {
			t.Error("too few of a kind:", err, tally)
		}
	}
}

// P10.5

func TestSealedIsLoaded(t *testing.T) {
	r := source()
	for _, n := range slices.Concat(edges(), []int{3, 4095, 65471, 65472, 65473, 65519, 65520, 65521, 65535, 65536}) {
		for _, body := range []string{someBytes(r, n), repeat("\x00", n), repeat("\xff", n)} {
			image, err := block.Seal(body)
			if err != api.OK {
				t.Fatal(err)
			}
			d := newDisk(t, image)
			got, err := block.Load(d)
			if got != body || err != api.OK || d.Reads() != (len(image)+63)/64 {
				t.Errorf("Load of a body of %d bytes: %s, error %d, %d reads", n, short(got), err, d.Reads())
			}
		}
	}
}

// refusal: what one turned bit of an image comes to.
func refusal(at int) api.Errno {
	if at < 16 {
		return api.ErrBlockHead
	}
	return api.ErrBlockSum
}

// flipAt: the fault that turns the bit while the disk is loaded.
func flipAt(at, bit int) api.Fault {
	return faultAt(at/64, api.FaultFlip, at%64, bit)
}

func expectRefused(t *testing.T, image string, at, bit int) {
	t.Helper()
	for _, d := range []*block.Disk{newDisk(t, turned(image, at, bit)), newDisk(t, image, flipAt(at, bit))} {
		if got, err := block.Load(d); got != "" || err != refusal(at) {
			t.Errorf("the bit %d of the byte %d of %d turned: %s, error %d", bit, at, len(image), short(got), err)
		}
	}
}

func TestOneBitIsRefused(t *testing.T) {
	r := source()
	for _, n := range edges() {
		for _, body := range []string{someBytes(r, n), repeat("\x00", n)} {
			image, _ := block.Seal(body)
			for at := range len(image) {
				for bit := range 8 {
					expectRefused(t, image, at, bit)
				}
			}
		}
	}
	image, _ := block.Seal(someBytes(r, 65536))
	for _, at := range []int{0, 4, 8, 12, 15, 16, 63, 64, 65, 40000, 65487, 65488, 65535, 65536, 65550, 65551} {
		for bit := range 8 {
			expectRefused(t, image, at, bit)
		}
	}
}

// A bit turned both on the disk and by a fault is as it was.
func TestBitTurnedTwice(t *testing.T) {
	body := someBytes(source(), 100)
	image, _ := block.Seal(body)
	for at := range len(image) {
		d := newDisk(t, turned(image, at, 5), flipAt(at, 5))
		if got, err := block.Load(d); got != body || err != api.OK {
			t.Errorf("the byte %d: %s, error %d", at, short(got), err)
		}
	}
}

// With a fault at one of the reads no body is told; at any other it makes no difference.
func TestFailedReadIsRefused(t *testing.T) {
	r := source()
	for _, n := range edges() {
		body := someBytes(r, n)
		image, _ := block.Seal(body)
		reads := (len(image) + 63) / 64
		for number := range reads {
			expectLoad(t, image, api.ErrBlockRead, number+1, faultAt(number, api.FaultError, 0, 0))
			for _, place := range []int{0, 1, 15, 16, 17, 63, 64, 65, 1000} {
				expectLoad(t, image, api.ErrBlockShort, number+1, faultAt(number, api.FaultShort, place, 0))
			}
		}
		for _, number := range []int{reads, reads + 1, 1 << 40} {
			for kind := 1; kind <= 3; kind++ {
				expectLoad(t, image, api.OK, reads, faultAt(number, kind, 3, 3))
				expectLoad(t, image+repeat("more", 100), api.OK, reads, faultAt(number, kind, 3, 3))
			}
		}
	}
	full, _ := block.Seal(repeat("z", 65536))
	for _, number := range []int{0, 1, 500, 1023, 1024} {
		expectLoad(t, full, api.ErrBlockRead, number+1, faultAt(number, api.FaultError, 0, 0))
		expectLoad(t, full, api.ErrBlockShort, number+1, faultAt(number, api.FaultShort, 5, 0))
	}
	expectLoad(t, full, api.OK, 1025, faultAt(1025, api.FaultError, 0, 0))
}
