package shortest_test

import (
	"math"
	"slices"
	"strconv"
	"testing"

	"quipu/api"
	"quipu/shortest"
)

func rising(all []uint64) []uint64 {
	slices.Sort(all)
	all = slices.Compact(all)
	if len(all) > 0 && all[0] == 0 {
		all = all[1:]
	}
	return all
}

// P3.4: so many digits at most, which some floats have.
func TestMostDigits(t *testing.T) {
	for _, k := range kinds() {
		mostOf, mostExact := 0, 0
		for _, bits := range k.floats(3000) {
			mostOf = max(mostOf, len(k.of(bits).Digits))
			mostExact = max(mostExact, len(k.exact(bits).Digits))
		}
		if mostOf != k.longOf || mostExact != k.longEx {
			t.Errorf("binary%s: %d and %d digits, not %d and %d", k.name, mostOf, mostExact, k.longOf, k.longEx)
		}
		if got := len(k.exact(2*k.step - 1).Digits); got != k.longEx {
			t.Errorf("binary%s: %d digits", k.name, got)
		}
	}
}

// A Dec is in its one form: no nought ahead or behind.
func TestOneForm(t *testing.T) {
	for _, k := range kinds() {
		for _, bits := range k.floats(500) {
			for _, d := range []api.Dec{k.of(bits), k.exact(bits)} {
				last := len(d.Digits) - 1
				if d.Digits[0] == '0' || d.Digits[last] == '0' {
					t.Errorf("binary%s: %x: %v", k.name, bits, d)
				}
			}
		}
	}
}

// P3.4: Of is in the float's reach, and the Decs rise with the floats, also from neighbour to neighbour.
func TestInReachAndRising(t *testing.T) {
	for _, k := range kinds() {
		var all []uint64
		for _, bits := range k.floats(200) {
			all = append(all, bits)
			if bits+1 < k.infinity {
				all = append(all, bits+1)
			}
		}
		before := amountOf(api.Dec{})
		for _, bits := range rising(all) {
			amount := amountOf(k.of(bits))
			if !k.reach(bits).holds(amount) {
				t.Errorf("binary%s: %x: %v is not in reach", k.name, bits, k.of(bits))
			}
			if amount.Cmp(before) <= 0 {
				t.Errorf("binary%s: %x: %v is not above the one ahead of it", k.name, bits, k.of(bits))
			}
			before = amount
		}
	}
}

// A sign changes nothing but the sign.
func TestSigns(t *testing.T) {
	for _, k := range kinds() {
		for _, bits := range k.floats(100) {
			for i, call := range []func(uint64) api.Dec{k.of, k.exact} {
				up, down := call(bits), call(bits|k.sign)
				if up.Neg || !down.Neg || up.Digits != down.Digits || up.Exp != down.Exp {
					t.Errorf("binary%s, call %d: %x: %v, %v", k.name, i, bits, up, down)
				}
			}
		}
	}
}

// P3.4: a float32 that is told as a float64 has the same Exact, whatever its class.
func TestFloat32AsFloat64(t *testing.T) {
	k := kinds()[1]
	for _, bits := range append(k.floats(2000), 0, k.infinity, k.infinity+1, k.infinity+k.step/2) {
		for _, neg := range []bool{false, true} {
			narrow := uint32(k.signed(bits, neg))
			wide := math.Float64bits(float64(math.Float32frombits(narrow)))
			if a, b := shortest.Exact32(narrow), shortest.Exact64(wide); a != b {
				t.Errorf("%x: %v, as a float64 %v", narrow, a, b)
			}
		}
	}
}

// W1: both Decs of a float are read back as that float.
func TestReadBack(t *testing.T) {
	for i, size := range []int{64, 32} {
		k := kinds()[i]
		for _, bits := range k.floats(2000) {
			for _, d := range []api.Dec{k.of(bits), k.exact(bits)} {
				back, err := strconv.ParseFloat(d.Digits+"e"+strconv.Itoa(d.Exp), size)
				if err != nil || back != k.float(bits) {
					t.Errorf("binary%s: %x: %v is read as %g", k.name, bits, d, back)
				}
			}
		}
	}
}

// R1, R5: any bits have an answer, and it is the same again.
func TestAnyBits(t *testing.T) {
	state := uint64(1)
	for range 5000 {
		state = state*6364136223846793005 + 1442695040888963407
		bits := state ^ state>>29
		for _, k := range kinds() {
			if k.of(bits) != k.of(bits) || k.exact(bits) != k.exact(bits) {
				t.Errorf("binary%s: %x: another answer", k.name, bits)
			}
		}
	}
}
