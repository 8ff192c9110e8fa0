package block_test

import (
	"bytes"
	"encoding/binary"
	"fmt"
	"hash/crc32"
	"math/rand/v2"
	"slices"
	"strings"
	"testing"

	"quipu/api"
	"quipu/block"
)

// The promises, word for word, by the library's own sums and numbers: what the program is held against.

func repeat(s string, n int) string { return strings.Repeat(s, n) }

func source() *rand.Rand { return rand.New(rand.NewPCG(10, 1)) }

func someBytes(r *rand.Rand, n int) string {
	list := make([]byte, n)
	for i := range list {
		list[i] = byte(r.UintN(256))
	}
	return string(list)
}

func short(s string) string { return fmt.Sprintf("%.40q of %d bytes", s, len(s)) }

// turned: the bytes, with one bit of one of them turned.
func turned(s string, at, bit int) string {
	return s[:at] + string([]byte{s[at] ^ byte(1<<bit)}) + s[at+1:]
}

// sumByWords has a register of 32 bits, the lowest one first.
func sumByWords(s string) uint32 {
	var register [32]bool
	for i := range register {
		register[i] = true
	}
	for _, b := range []byte(s) {
		for place := range 8 {
			differ := register[0] != (b>>place&1 == 1)
			copy(register[:], register[1:])
			register[31] = false
			for i := range register {
				register[i] = register[i] != (differ && uint32(0xEDB88320)>>i&1 == 1)
			}
		}
	}
	sum := uint32(0)
	for i, one := range register {
		if !one {
			sum |= 1 << i
		}
	}
	return sum
}

// headWith: a head of which the last four bytes are the sum of those ahead, whatever these say.
func headWith(mark string, length int, sum uint32) string {
	head := binary.BigEndian.AppendUint32([]byte(mark), uint32(length))
	head = binary.BigEndian.AppendUint32(head, sum)
	return string(binary.BigEndian.AppendUint32(head, crc32.ChecksumIEEE(head)))
}

func imageByWords(body string) string {
	return headWith("QPU1", len(body), crc32.ChecksumIEEE([]byte(body))) + body
}

// diskByWords is a disk as the chapter tells it.
type diskByWords struct {
	image  string
	faults []api.Fault
	reads  int
}

func (d *diskByWords) read(at, n int) (string, api.Errno) {
	size := len(d.image)
	if n < 1 || n > 64 || at < 0 || at > size || size-at < n {
		return "", api.ErrBlockPlace
	}
	told := []byte(d.image[at:][:n])
	number := d.reads
	d.reads++
	for _, f := range d.faults {
		switch {
		case f.At != number:
		case f.Kind == api.FaultError:
			return "", api.ErrBlockRead
		case f.Kind == api.FaultShort:
			return string(told[:f.Byte%n]), api.OK
		case f.Kind == api.FaultFlip:
			return turned(string(told), f.Byte%n, f.Bit), api.OK
		}
	}
	return string(told), api.OK
}

func (d *diskByWords) load() (string, api.Errno) {
	size := len(d.image)
	if size < 16 {
		return "", api.ErrBlockHead
	}
	var image []byte
	for need := 16; len(image) < need; {
		asked := min(64, size-len(image))
		told, err := d.read(len(image), asked)
		switch {
		case err != api.OK:
			return "", err
		case len(told) < asked:
			return "", api.ErrBlockShort
		}
		image = append(image, told...)
		if len(image) > 64 {
			continue
		}
		length := int(binary.BigEndian.Uint32(image[4:]))
		switch {
		case !bytes.HasPrefix(image, []byte("QPU1")) || binary.BigEndian.Uint32(image[12:]) != crc32.ChecksumIEEE(image[:12]):
			return "", api.ErrBlockHead
		case length > 65536 || size < 16+length:
			return "", api.ErrBlockLong
		}
		need = 16 + length
	}
	body := image[16:][:binary.BigEndian.Uint32(image[4:])]
	if crc32.ChecksumIEEE(body) != binary.BigEndian.Uint32(image[8:]) {
		return "", api.ErrBlockSum
	}
	return string(body), api.OK
}

func faultAt(at, kind, place, bit int) api.Fault {
	return api.Fault{At: at, Kind: kind, Byte: place, Bit: bit}
}

func newDisk(t *testing.T, image string, faults ...api.Fault) *block.Disk {
	t.Helper()
	d, err := block.New(image, faults)
	if err != api.OK || d == nil {
		t.Fatalf("New of %s with %v: error %d", short(image), faults, err)
	}
	return d
}

// pair is a disk, and the same one by the words.
type pair struct {
	disk  *block.Disk
	words *diskByWords
}

func newPair(t *testing.T, image string, faults ...api.Fault) pair {
	t.Helper()
	return pair{newDisk(t, image, faults...), &diskByWords{image: image, faults: slices.Clone(faults)}}
}

func (p pair) what() string {
	return fmt.Sprintf("a disk of %s with %.200s", short(p.words.image), fmt.Sprint(p.words.faults))
}

func (p pair) expectCounts(t *testing.T) {
	t.Helper()
	if p.disk.Size() != len(p.words.image) || p.disk.Reads() != p.words.reads {
		t.Errorf("%s: Size %d, Reads %d, not %d, %d", p.what(), p.disk.Size(), p.disk.Reads(), len(p.words.image), p.words.reads)
	}
}

// read reads both, holds them against each other, and answers what was told.
func (p pair) read(t *testing.T, at, n int) (string, api.Errno) {
	t.Helper()
	number := p.words.reads
	want, wantErr := p.words.read(at, n)
	got, err := p.disk.Read(at, n)
	if got != want || err != wantErr {
		t.Errorf("%s: read %d, from %d on of %d: %s, error %d, not %s, error %d", p.what(), number, at, n, short(got), err, short(want), wantErr)
	}
	p.expectCounts(t)
	return got, err
}

// load loads both, and so on.
func (p pair) load(t *testing.T) (string, api.Errno) {
	t.Helper()
	want, wantErr := p.words.load()
	got, err := block.Load(p.disk)
	if got != want || err != wantErr {
		t.Errorf("Load of %s: %s, error %d, not %s, error %d", p.what(), short(got), err, short(want), wantErr)
	}
	p.expectCounts(t)
	return got, err
}

func expectLoad(t *testing.T, image string, want api.Errno, reads int, faults ...api.Fault) {
	t.Helper()
	p := newPair(t, image, faults...)
	_, err := p.load(t)
	if err != want || p.disk.Reads() != reads {
		t.Errorf("Load of %s: error %d by %d reads, not %d by %d", p.what(), err, p.disk.Reads(), want, reads)
	}
}
