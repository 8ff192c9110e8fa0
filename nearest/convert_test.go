package nearest_test

import (
	"math"
	"testing"

	"quipu/nearest"
)

// P4.2

func narrows(t *testing.T, bits uint64, want uint32) {
	t.Helper()
	for _, neg := range []bool{false, true} {
		in, out := wide().signed(bits, neg), uint32(narrow().signed(uint64(want), neg))
		if got := nearest.Narrow(in); got != out {
			t.Errorf("Narrow(%x): %x, not %x", in, got, out)
		}
	}
}

func widens(t *testing.T, bits uint32, want uint64) {
	t.Helper()
	for _, neg := range []bool{false, true} {
		in, out := uint32(narrow().signed(uint64(bits), neg)), wide().signed(want, neg)
		if got := nearest.Widen(in); got != out {
			t.Errorf("Widen(%x): %x, not %x", in, got, out)
		}
	}
}

func TestNarrow(t *testing.T) {
	narrows(t, 0x3ff0000000000000, 0x3f800000)
	narrows(t, 0x7fefffffffffffff, 0x7f800000)
	narrows(t, 0, 0)
	narrows(t, 0x7ff0000000000000, 0x7f800000)
	narrows(t, of64(0.1), 0x3dcccccd)
	narrows(t, of64(math.Pi), uint32(of32(math.Pi)))
	narrows(t, of64(math.MaxFloat32), 0x7f7fffff)
	narrows(t, of64(0x1p128), 0x7f800000)
	narrows(t, of64(0x1p-126), 0x00800000)
	narrows(t, of64(0x1p-149), 1)
	narrows(t, of64(0x1p-151), 0)
	narrows(t, 1, 0)
	narrows(t, 0x000fffffffffffff, 0)
	narrows(t, 0x0010000000000000, 0)
}

// Just below, at and just above midway between two float32: also next to a zero, a power of 2, an infinity.
func TestNarrowMidway(t *testing.T) {
	for _, r := range []struct {
		midway         float64
		low, tie, high uint32
	}{
		{1<<24 + 1, 0x4b800000, 0x4b800000, 0x4b800001},
		{1<<24 + 3, 0x4b800001, 0x4b800002, 0x4b800002},
		{0x1ffffff, 0x4bffffff, 0x4c000000, 0x4c000000},
		{0x1p-150, 0, 0, 1},
		{0x3p-150, 1, 2, 2},
		{0x5p-150, 2, 2, 3},
		{0xfffffdp-150, 0x007ffffe, 0x007ffffe, 0x007fffff},
		{0xffffffp-150, 0x007fffff, 0x00800000, 0x00800000},
		{0x1000001p-150, 0x00800000, 0x00800000, 0x00800001},
		{0x1fffffdp103, 0x7f7ffffe, 0x7f7ffffe, 0x7f7fffff},
		{0x1ffffffp103, 0x7f7fffff, 0x7f800000, 0x7f800000},
	} {
		narrows(t, of64(r.midway)-1, r.low)
		narrows(t, of64(r.midway), r.tie)
		narrows(t, of64(r.midway)+1, r.high)
	}
}

func TestWiden(t *testing.T) {
	widens(t, 0x3f800000, 0x3ff0000000000000)
	widens(t, 0, 0)
	widens(t, 0x7f800000, 0x7ff0000000000000)
	widens(t, 1, 0x36a0000000000000)
	widens(t, 0x007fffff, of64(0x7fffffp-149))
	widens(t, 0x00800000, of64(0x1p-126))
	widens(t, 0x7f7fffff, of64(0xffffffp104))
	widens(t, 0x3dcccccd, 0x3fb99999a0000000)
}

// Of every NaN, whatever its field m and its sign are, there is one answer.
func TestNaNs(t *testing.T) {
	for _, m := range []uint64{1, 2, 3, 1<<22 - 1, 1 << 22, 1<<22 + 1, 1<<23 - 1} {
		for _, neg := range []bool{false, true} {
			if got := nearest.Widen(uint32(narrow().signed(0x7f800000+m, neg))); got != 0x7ff8000000000001 {
				t.Errorf("Widen, m %x: %x", m, got)
			}
			for _, field := range []uint64{m, m << 29, 1<<52 - m} {
				if got := nearest.Narrow(wide().signed(0x7ff0000000000000+field, neg)); got != 0x7fc00001 {
					t.Errorf("Narrow, m %x: %x", field, got)
				}
			}
		}
	}
}

// The machine's own floats round alike.
func TestNarrowAgrees(t *testing.T) {
	for _, bits := range wide().floats(3000) {
		narrows(t, bits, math.Float32bits(float32(math.Float64frombits(bits))))
	}
	for _, bits := range narrow().floats(3000) {
		around := of64(narrow().float(bits))
		for _, near := range []uint64{around - 1<<28 - 1, around - 1<<28, around - 1<<28 + 1, around - 1, around, around + 1, around + 1<<28 - 1, around + 1<<28, around + 1<<28 + 1} {
			narrows(t, near, math.Float32bits(float32(math.Float64frombits(near))))
		}
	}
}

func TestWidenAgrees(t *testing.T) {
	for _, bits := range narrow().floats(3000) {
		widens(t, uint32(bits), of64(narrow().float(bits)))
	}
}
