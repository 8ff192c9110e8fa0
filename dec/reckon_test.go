package dec_test

import (
	"math/big"
	"testing"

	"quipu/api"
	"quipu/dec"
)

// operation is what two Decs are put to.
type operation func(a, b api.Dec) (api.Dec, api.Errno)

// both holds it against what is asked, in both orders (P5.6).
func (call operation) both(t *testing.T, a, b api.Dec, want string) {
	t.Helper()
	first, second := show(a), show(b)
	expect(t, first+" and "+second, want)(call(a, b))
	expect(t, second+" and "+first, want)(call(b, a))
}

// rows: each tells two Decs, and what comes of them.
func (call operation) rows(t *testing.T, rows ...[3]string) {
	t.Helper()
	for _, row := range rows {
		call.both(t, of(row[0]), of(row[1]), row[2])
	}
}

// P5.5

func TestAdd(t *testing.T) {
	operation(dec.Add).rows(t, [][3]string{
		{"1e0", "-1e0", "0"}, {"1e1000", "1e-5", "range"}, {"1e999", "1e0", "1" + repeat("0", 998) + "1e0"},
		{"999e-2", "1e-2", "1e1"}, {"-999e-2", "-1e-2", "-1e1"}, {"999e-2", "-99e-1", "9e-2"}, {"1e1", "-1e-2", "999e-2"}, {"5e-1", "5e-1", "1e0"},
		{"15e-1", "-2e0", "-5e-1"}, {"123e0", "877e0", "1e3"}, {"123e4", "-123e4", "0"}, {"12e3", "34e-3", "12000034e-3"}, {"-7e0", "3e0", "-4e0"},
	}...)
}

func TestAddOfZeros(t *testing.T) {
	operation(dec.Add).rows(t, [][3]string{
		{"-0", "-0", "-0"}, {"0", "0", "0"}, {"0", "-0", "0"},
		{"0", "5e0", "5e0"}, {"-0", "5e0", "5e0"}, {"-0", "-5e0", "-5e0"}, {"0", "-5e0", "-5e0"},
		{"0", "1e-2001", "1e-2001"}, {"-0", "-1e1999", "-1e1999"}, {"0", repeat("9", 1000) + "e1000", repeat("9", 1000) + "e1000"}, {"-0", repeat("9", 1000) + "e-3000", repeat("9", 1000) + "e-3000"},
	}...)
}

func TestAddOfOtherClasses(t *testing.T) {
	operation(dec.Add).rows(t, [][3]string{
		{"inf", "-inf", "nan"}, {"inf", "inf", "inf"}, {"-inf", "-inf", "-inf"},
		{"inf", "0", "inf"}, {"-inf", "0", "-inf"}, {"-inf", "-0", "-inf"}, {"inf", "-1e1999", "inf"}, {"-inf", "1e1999", "-inf"}, {"-inf", "-1e0", "-inf"},
		{"nan", "nan", "nan"}, {"nan", "0", "nan"}, {"nan", "-0", "nan"}, {"nan", "inf", "nan"}, {"nan", "-inf", "nan"}, {"nan", "-1e0", "nan"},
	}...)
}

// Sums with as many digits as may be, at the greatest and the least places, and just beyond.
func TestAddAtTheEnds(t *testing.T) {
	nines := repeat("9", 1000)
	operation(dec.Add).rows(t, [][3]string{
		{"1e1000", "1e0", "range"}, {"1e1000", "-1e0", nines + "e0"}, {"1e1001", "-1e0", "range"}, {"-1e1000", "1e1", "-" + repeat("9", 999) + "e1"},
		{nines + "e0", "1e0", "1e1000"}, {nines + "e0", "2e0", "range"}, {nines + "e0", "-9e0", repeat("9", 999) + "e1"}, {nines + "e0", "1e-1", "range"},
		{"9e1999", "1e1999", "range"}, {"9e1999", "9e1998", "99e1998"}, {"-9e1999", "-1e1999", "range"}, {"5e1999", "5e1999", "range"}, {"9e1999", "-1e1999", "8e1999"},
		{nines + "e1000", "1e1000", "range"}, {nines + "e1000", "-" + nines + "e1000", "0"}, {"1e1999", "-" + repeat("9", 999) + "e1000", "1e1000"},
		{"11e-2002", "-1e-2001", "range"}, {"12e-2002", "-11e-2002", "range"}, {"2e-2001", "-1e-2001", "1e-2001"}, {"1e-2001", "-1e-2001", "0"}, {"1e-2001", "-11e-2002", "range"},
		{"1e1999", "1e-2001", "range"}, {"1e1999", "-1e-2001", "range"}, {nines + "e1000", "-" + nines + "e-3000", "range"},
	}...)
}

func TestMul(t *testing.T) {
	operation(dec.Mul).rows(t, [][3]string{
		{"-2e0", "5e-1", "-1e0"}, {"-2e0", "-5e-1", "1e0"}, {"2e0", "5e-1", "1e0"}, {"12e-1", "12e-1", "144e-2"}, {"1e0", "-37e5", "-37e5"},
		{"125e0", "8e3", "1e6"}, {"99999999999999999999e0", "99999999999999999999e-3", "9999999999999999999800000000000000000001e-3"},
	}...)
}

func TestMulOfZeros(t *testing.T) {
	operation(dec.Mul).rows(t, [][3]string{
		{"0", "-1e0", "-0"}, {"0", "1e0", "0"}, {"-0", "1e0", "-0"}, {"-0", "-1e0", "0"}, {"0", "0", "0"}, {"0", "-0", "-0"}, {"-0", "-0", "0"},
		{"0", "1e1999", "0"}, {"-0", "1e-2001", "-0"}, {"0", "-" + repeat("9", 1000) + "e-3000", "-0"},
	}...)
}

func TestMulOfOtherClasses(t *testing.T) {
	operation(dec.Mul).rows(t, [][3]string{
		{"0", "-inf", "nan"}, {"0", "inf", "nan"}, {"-0", "inf", "nan"}, {"-0", "-inf", "nan"},
		{"inf", "inf", "inf"}, {"inf", "-inf", "-inf"}, {"-inf", "-inf", "inf"}, {"inf", "1e-2001", "inf"}, {"inf", "-1e-2001", "-inf"}, {"-inf", "-2e0", "inf"}, {"-inf", "2e0", "-inf"},
		{"nan", "nan", "nan"}, {"nan", "0", "nan"}, {"nan", "-0", "nan"}, {"nan", "inf", "nan"}, {"nan", "-inf", "nan"}, {"nan", "-1e0", "nan"},
	}...)
}

func TestMulAtTheEnds(t *testing.T) {
	nines := repeat("9", 1000)
	operation(dec.Mul).rows(t, [][3]string{
		{"1e1500", "1e1500", "range"}, {"1e1000", "1e999", "1e1999"}, {"1e1000", "1e1000", "range"}, {"-1e1000", "1e1000", "range"}, {"2e1999", "5e-1", "1e1999"}, {"2e1999", "5e0", "range"}, {"3e1999", "3e0", "9e1999"}, {"4e1999", "3e0", "range"},
		{"1e-1000", "1e-1001", "1e-2001"}, {"1e-1001", "1e-1001", "range"}, {"2e-2001", "5e-1", "1e-2001"}, {"1e-2001", "1e-1", "range"}, {"11e-2002", "9e-1", "range"}, {"1e-2001", "1e-2001", "range"}, {"1e1999", "1e-2001", "1e-2"}, {"1e1999", "1e1999", "range"},
		{nines + "e0", nines + "e0", "range"}, {nines + "e0", "2e0", "range"}, {nines + "e1000", "1e0", nines + "e1000"}, {nines + "e1000", nines + "e1000", "range"}, {nines + "e-3000", nines + "e-3000", "range"},
		{repeat("3", 500) + "e0", "3e0", repeat("9", 500) + "e0"}, {repeat("5", 1000) + "e0", "2e-1", repeat("1", 1000) + "e0"}, {"1" + repeat("0", 498) + "1e0", "1" + repeat("0", 499) + "1e0", "1" + repeat("0", 498) + "11" + repeat("0", 498) + "1e0"}, {"1" + repeat("0", 499) + "1e0", "1" + repeat("0", 499) + "1e0", "range"},
	}...)
}

// Sums and products are held against another arithmetic.
func TestReckonedOtherwise(t *testing.T) {
	all, unit := valued(40), power(depth)
	for i, a := range all {
		for _, b := range all[i:] {
			operation(dec.Add).both(t, a.dec, b.dec, textOf(new(big.Int).Add(a.value, b.value), a.dec.Neg && b.dec.Neg))
			product := new(big.Int).Mul(a.value, b.value)
			operation(dec.Mul).both(t, a.dec, b.dec, textOf(product.Quo(product, unit), a.dec.Neg != b.dec.Neg))
		}
	}
}
