package shortest_test

import (
	"math"
	"math/big"
	"testing"

	"quipu/api"
	"quipu/shortest"
)

// row is a float, by its bits, and the digits and the exponent that are asked of it.
type row struct {
	bits   uint64
	digits string
	exp    int
}

func of64(f float64) uint64 { return math.Float64bits(f) }

func of32(f float32) uint64 { return uint64(math.Float32bits(f)) }

// check holds a call against rows, each with both signs.
func (k kind) check(t *testing.T, what string, call func(uint64) api.Dec, rows []row) {
	t.Helper()
	for _, r := range rows {
		for _, neg := range []bool{false, true} {
			want := api.Dec{Class: api.Finite, Neg: neg, Digits: r.digits, Exp: r.exp}
			if got := call(k.signed(r.bits, neg)); got != want {
				t.Errorf("%s%s of %x: %v, not %v", what, k.name, k.signed(r.bits, neg), got, want)
			}
		}
	}
}

func checkOf(t *testing.T, rows64, rows32 []row) {
	t.Helper()
	wide, narrow := kinds()[0], kinds()[1]
	wide.check(t, "Of", wide.of, rows64)
	narrow.check(t, "Of", narrow.of, rows32)
}

func checkExact(t *testing.T, rows64, rows32 []row) {
	t.Helper()
	wide, narrow := kinds()[0], kinds()[1]
	wide.check(t, "Exact", wide.exact, rows64)
	narrow.check(t, "Exact", narrow.exact, rows32)
}

// P3.1

func TestZerosAndInfinities(t *testing.T) {
	for _, k := range kinds() {
		for _, neg := range []bool{false, true} {
			for i, call := range []func(uint64) api.Dec{k.of, k.exact} {
				if got := call(k.signed(0, neg)); got != (api.Dec{Class: api.Finite, Neg: neg}) {
					t.Errorf("binary%s, call %d: zero, below %t: %v", k.name, i, neg, got)
				}
				if got := call(k.signed(k.infinity, neg)); got != (api.Dec{Class: api.Inf, Neg: neg}) {
					t.Errorf("binary%s, call %d: infinity, below %t: %v", k.name, i, neg, got)
				}
			}
		}
	}
}

func TestNaNs(t *testing.T) {
	for _, k := range kinds() {
		for _, m := range k.fields()[1:] {
			for _, bits := range []uint64{k.infinity + m, k.infinity + m + k.sign} {
				for i, call := range []func(uint64) api.Dec{k.of, k.exact} {
					if got := call(bits); got != (api.Dec{Class: api.NaN}) {
						t.Errorf("binary%s, call %d: %x: %v", k.name, i, bits, got)
					}
				}
			}
		}
	}
}

// Next to an infinity, and next to zero, the floats are finite, with their sign.
func TestNextToTheOtherClasses(t *testing.T) {
	for _, k := range kinds() {
		for _, m := range k.fields()[1:] {
			for _, bits := range []uint64{m, k.infinity - m} {
				for _, neg := range []bool{false, true} {
					for i, call := range []func(uint64) api.Dec{k.of, k.exact} {
						got := call(k.signed(bits, neg))
						if got.Class != api.Finite || got.Neg != neg || got.Digits == "" {
							t.Errorf("binary%s, call %d: %x: %v", k.name, i, k.signed(bits, neg), got)
						}
					}
				}
			}
		}
	}
}

// P3.2

func TestExact(t *testing.T) {
	checkExact(t, []row{
		{of64(1), "1", 0},
		{of64(2), "2", 0},
		{of64(10), "1", 1},
		{of64(1200), "12", 2},
		{of64(0.5), "5", -1},
		{of64(1.5), "15", -1},
		{of64(0.75), "75", -2},
		{of64(0.1), "1000000000000000055511151231257827021181583404541015625", -55},
		{of64(1 << 53), "9007199254740992", 0},
		{of64(1 << 60), "1152921504606846976", 0},
		{of64(1e22), "1", 22},
		{of64(1e23), "99999999999999991611392", 0},
		{of64(1<<50 + 0.25), "112589990684262425", -2},
	}, []row{
		{of32(1), "1", 0},
		{of32(30), "3", 1},
		{of32(0.5), "5", -1},
		{of32(0.1), "100000001490116119384765625", -27},
		{of32(1 << 24), "16777216", 0},
		{of32(1e10), "1", 10},
		{of32(1e11), "99999997952", 0},
		{of32(math.MaxFloat32), "34028234663852885981170418348451692544", 1},
	})
}

// The least float is a power of 5 and as many places; all of the greatest float's digits are ahead of the point.
func TestExactAtTheEnds(t *testing.T) {
	five := func(n int64) string { return new(big.Int).Exp(big.NewInt(5), big.NewInt(n), nil).String() }
	checkExact(t, []row{{1, five(1074), -1074}}, []row{{1, five(149), -149}})
	if len(five(1074)) != 751 || len(five(149)) != 105 {
		t.Error("powers of 5")
	}
	greatest := new(big.Int).Lsh(big.NewInt(1<<53-1), 971).String()
	checkExact(t, []row{{of64(math.MaxFloat64), greatest, 0}}, nil)
	if len(greatest) != 309 || len(shortest.Exact32(uint32(of32(math.MaxFloat32))).Digits) != 38 {
		t.Error("the greatest floats")
	}
}

func TestExactAgrees(t *testing.T) {
	for _, k := range kinds() {
		for _, bits := range k.floats(500) {
			want := k.exactly(bits)
			k.check(t, "Exact", k.exact, []row{{bits, want.Digits, want.Exp}})
		}
	}
}

// P3.3

func TestFewest(t *testing.T) {
	checkOf(t, []row{
		{of64(1), "1", 0},
		{of64(1.5), "15", -1},
		{of64(0.1), "1", -1},
		{of64(0.3), "3", -1},
		{of64(4.35), "435", -2},
		{of64(100), "1", 2},
		{of64(1230000), "123", 4},
		{of64(1.0 / 3), "3333333333333333", -16},
		{of64(2.0 / 3), "6666666666666666", -16},
		{of64(math.Pi), "3141592653589793", -15},
		{of64(1e22), "1", 22},
		{of64(1 << 53), "9007199254740992", 0},
		{of64(1<<53 + 2), "9007199254740994", 0},
	}, []row{
		{of32(1), "1", 0},
		{of32(1.5), "15", -1},
		{of32(0.1), "1", -1},
		{of32(0.3), "3", -1},
		{of32(100), "1", 2},
		{of32(1.0 / 3), "33333334", -8},
		{of32(math.Pi), "31415927", -7},
		{of32(1e10), "1", 10},
		{of32(1 << 24), "16777216", 0},
	})
}

// The least floats, of which the reach goes over many decimals of one digit; the greatest one with exponent field 0, the least one behind it (whose neighbours are as far on both sides); the greatest one.
func TestFewestAtTheEnds(t *testing.T) {
	checkOf(t, []row{
		{1, "5", -324},
		{2, "1", -323},
		{3, "15", -324},
		{4, "2", -323},
		{0x000fffffffffffff, "2225073858507201", -323},
		{0x0010000000000000, "22250738585072014", -324},
		{0x0010000000000001, "2225073858507202", -323},
		{0x7feffffffffffffe, "17976931348623155", 292},
		{0x7fefffffffffffff, "17976931348623157", 292},
	}, []row{
		{1, "1", -45},
		{2, "3", -45},
		{3, "4", -45},
		{4, "6", -45},
		{7, "1", -44},
		{0x007fffff, "11754942", -45},
		{0x00800000, "11754944", -45},
		{0x00800001, "11754945", -45},
		{0x7f7ffffe, "34028233", 31},
		{0x7f7fffff, "34028235", 31},
	})
}

// Below a power of 2 the reach ends sooner: of the first ones a decimal of fewer digits would be in reach otherwise, of the others one that is nearer, on that side.
func TestFewestOfPowersOfTwo(t *testing.T) {
	checkOf(t, []row{
		{0x0040000000000000, "17800590868057611", -323},
		{0x0050000000000000, "35601181736115222", -323},
		{0x00a0000000000000, "11392378155556871", -321},
		{0x0150000000000000, "23331590462580472", -318},
		{0x0060000000000000, "7120236347223045", -322},
		{0x0100000000000000, "7291122019556398", -319},
		{0x0420000000000000, "8209073602596753", -304},
	}, []row{
		{0x0c000000, "98607613", -39},
		{0x0f000000, "63108872", -37},
		{0x4c000000, "33554432", 0},
		{0x0f800000, "12621775", -36},
		{0x6b000000, "15474251", 19},
		{0x6c800000, "12379401", 20},
	})
}

// claim makes sure that rows are of the sort that a test is about.
func claim(t *testing.T, rows64, rows32 []row, sort func(near reach, d api.Dec) bool) {
	t.Helper()
	for i, rows := range [][]row{rows64, rows32} {
		k := kinds()[i]
		for _, r := range rows {
			if !sort(k.reach(r.bits), api.Dec{Digits: r.digits, Exp: r.exp}) {
				t.Errorf("binary%s: %x is not of that sort", k.name, r.bits)
			}
		}
	}
}

// The lowest bit of m is 0, and the only shortest decimal is at the very end of the reach, above or below.
func TestFewestAtTheEndOfReach(t *testing.T) {
	rows64 := []row{
		{0x44b52d02c7e14af6, "1", 23},
		{0x43b5d0d565801a00, "1571990901869904", 3},
		{0x435d7bac80000000, "3319502054673613", 1},
		{0x435e989fc0000000, "3444824475906867", 1},
		{0x4367c36d745e0308, "535103946841191", 2},
		{0x438463ef00000000, "183660085841494", 3},
	}
	rows32 := []row{
		{0x4c4fd5d4, "5448277", 1},
		{0x4fa860bc, "5649824", 3},
		{0x4cd60fbc, "11222986", 1},
		{0x4c9e71c0, "8307046", 1},
		{0x4efcc1d0, "212028", 4},
		{0x4c88c1e0, "7170022", 1},
	}
	checkOf(t, rows64, rows32)
	claim(t, rows64, rows32, func(near reach, d api.Dec) bool {
		end := amountOf(d)
		return near.closed && len(near.shortestOnes()) == 1 && (near.low.Cmp(end) == 0 || near.high.Cmp(end) == 0)
	})
}

// The lowest bit of m is 1, and a decimal of fewer digits is at the very end of the reach, above or below: it does not belong to it.
func TestFewestPastTheEndOfReach(t *testing.T) {
	rows64 := []row{
		{0x44b52d02c7e14af7, "10000000000000001", 7},
		{0x43b5d0d565801a01, "15719909018699041", 2},
		{0x435e989fc0000000 - 1, "34448244759068668", 0},
	}
	rows32 := []row{
		{0x4c4fd5d5, "54482772", 0},
		{0x4c9e71bf, "83070456", 0},
	}
	checkOf(t, rows64, rows32)
	claim(t, rows64, rows32, func(near reach, d api.Dec) bool {
		closed := near
		closed.closed = true
		return !near.closed && len(closed.shortestOnes()[0].Digits) < len(d.Digits)
	})
}

// Two or more shortest decimals are in reach: the nearer one counts, above or below.
func TestFewestOfMoreThanOne(t *testing.T) {
	rows64 := []row{
		{0x43a516c15c791cdb, "7598072635986036", 2},
		{0x437e1a6600000000, "13557239504489677", 1},
		{0x43e3c30fecb26503, "11391995331670972", 3},
	}
	rows32 := []row{
		{0x50e3529c, "30510735", 3},
		{0x4505464c, "21323936", -4},
		{0x2692ef5a, "10195661", -22},
		{0x7a4355ba, "25355916", 28},
		{0x1e000000, "67762636", -28},
	}
	checkOf(t, rows64, rows32)
	claim(t, rows64, rows32, func(near reach, _ api.Dec) bool {
		all := near.shortestOnes()
		return len(all) > 1 && len(near.nearest(all)) == 1
	})
}

// Two are as near: the even one counts, above or below.
func TestFewestOfTwoAsNear(t *testing.T) {
	rows64 := []row{
		{of64(1<<50 + 0.25), "11258999068426242", -1},
		{of64(1<<50 + 0.75), "11258999068426248", -1},
		{0x43033a0264ad91fe, "6764758138680958", -1},
		{0x4316f0bfe2df6203, "16142891058361608", -1},
		{0x4307e0e6ca133022, "8401507877125162", -1},
		{0x4315fe6fe85f9ae9, "15476827760821062", -1},
	}
	rows32 := []row{
		{of32(1<<21 + 0.25), "20971522", -1},
		{of32(1<<21 + 0.75), "20971528", -1},
		{0x45638f80, "36409688", -4},
		{0x4a7350b5, "39864772", -1},
		{0x4a11b199, "23870462", -1},
		{0x49bb6a0e, "15352978", -1},
	}
	checkOf(t, rows64, rows32)
	claim(t, rows64, rows32, func(near reach, _ api.Dec) bool {
		return len(near.nearest(near.shortestOnes())) == 2
	})
}

func TestFewestAgrees(t *testing.T) {
	for _, k := range kinds() {
		for _, bits := range k.floats(500) {
			want := k.fewest(bits)
			k.check(t, "Of", k.of, []row{{bits, want.Digits, want.Exp}})
		}
	}
}
