package block_test

import (
	"hash/crc32"
	"testing"

	"quipu/api"
	"quipu/block"
)

// P10.1

func expectSum(t *testing.T, s string, want uint32) {
	t.Helper()
	if got := block.Sum(s); got != want {
		t.Errorf("Sum of %s: %08X, not %08X", short(s), got, want)
	}
}

func TestSumExamples(t *testing.T) {
	expectSum(t, "", 0)
	expectSum(t, "123456789", 0xCBF43926)
	expectSum(t, "a", 0xE8B7BE43)
	expectSum(t, "\x00", 0xD202EF8D)
	expectSum(t, "\xff", 0xFF000000)
	expectSum(t, "The quick brown fox jumps over the lazy dog", 0x414FA339)
}

func TestSumOfOneByte(t *testing.T) {
	seen := map[uint32]int{}
	for b := range 256 {
		s := string([]byte{byte(b)})
		expectSum(t, s, sumByWords(s))
		seen[block.Sum(s)]++
	}
	if len(seen) != 256 {
		t.Error("sums of one byte that are apart:", len(seen))
	}
}

func TestSumOfTwoBytes(t *testing.T) {
	for n := range 1 << 16 {
		s := string([]byte{byte(n >> 8), byte(n)})
		expectSum(t, s, crc32.ChecksumIEEE([]byte(s)))
	}
}

func TestSumByWords(t *testing.T) {
	r := source()
	for n := range 300 {
		for _, s := range []string{someBytes(r, n), repeat("\x00", n), repeat("\xff", n), repeat("é", n)} {
			expectSum(t, s, sumByWords(s))
		}
	}
}

func TestSumOfLongTexts(t *testing.T) {
	r := source()
	for _, n := range []int{65535, 65536, 65537, 1 << 20} {
		for _, s := range []string{someBytes(r, n), repeat("\x00", n), repeat("\xff", n)} {
			expectSum(t, s, crc32.ChecksumIEEE([]byte(s)))
		}
	}
}

func TestSumTellsOneBit(t *testing.T) {
	s := someBytes(source(), 200)
	for at := range len(s) {
		for bit := range 8 {
			if block.Sum(turned(s, at, bit)) == block.Sum(s) {
				t.Errorf("the bit %d of the byte %d makes no difference", bit, at)
			}
		}
	}
}

func expectSeal(t *testing.T, body, want string, wantErr api.Errno) {
	t.Helper()
	if got, err := block.Seal(body); got != want || err != wantErr {
		t.Errorf("Seal of %s: %s, error %d, not %s, error %d", short(body), short(got), err, short(want), wantErr)
	}
}

func TestSealExamples(t *testing.T) {
	expectSeal(t, "a", "QPU1\x00\x00\x00\x01\xE8\xB7\xBE\x43\xB9\xEB\xAF\x5Ba", api.OK)
	expectSeal(t, "", "QPU1\x00\x00\x00\x00\x00\x00\x00\x00\xC2\xC2\x94\xB5", api.OK)
}

func TestSealLengths(t *testing.T) {
	r := source()
	for _, n := range []int{0, 1, 2, 15, 16, 17, 47, 48, 49, 255, 256, 257, 4096, 65535, 65536} {
		body := someBytes(r, n)
		expectSeal(t, body, imageByWords(body), api.OK)
	}
	for _, n := range []int{65537, 65538, 65552, 65553, 1 << 17, 1 << 20} {
		expectSeal(t, repeat("a", n), "", api.ErrBlockLong)
	}
}

// The length's bytes stand with the highest one first, and no byte of a body is changed.
func TestSealOfEveryByte(t *testing.T) {
	for b := range 256 {
		body := repeat(string([]byte{byte(b)}), 0x0203)
		expectSeal(t, body, imageByWords(body), api.OK)
	}
	image, _ := block.Seal(repeat("a", 0xABCD))
	if image[4:8] != "\x00\x00\xAB\xCD" {
		t.Errorf("the length: % X", image[4:8])
	}
	image, _ = block.Seal(repeat("a", 65536))
	if image[4:8] != "\x00\x01\x00\x00" {
		t.Errorf("the greatest length: % X", image[4:8])
	}
}

// An image is a body too.
func TestSealOfAnImage(t *testing.T) {
	image := "inner"
	for range 5 {
		sealed, err := block.Seal(image)
		if err != api.OK || sealed != imageByWords(image) {
			t.Errorf("Seal of %s: error %d", short(image), err)
		}
		image = sealed
	}
}
