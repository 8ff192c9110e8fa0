package dec

import (
	"cmp"
	"strings"

	"quipu/api"
)

// Cmp: how two stand.
func Cmp(a, b api.Dec) (int, api.Errno) {
	if !May(a) || !May(b) {
		return 0, api.ErrDecForm
	}
	if order := cmp.Compare(rank(a), rank(b)); order != 0 {
		return order, api.OK
	}
	if a.Neg {
		a, b = b, a
	}
	return cmpAmounts(a, b), api.OK
}

// rank puts numbers of unlike kinds in their order; two of one rank have one sign or no digits.
func rank(d api.Dec) int {
	switch {
	case d.Class == api.NaN:
		return 3
	case d.Class == api.Inf:
		return signed(2, d.Neg)
	case d.Digits == "":
		return 0
	}
	return signed(1, d.Neg)
}

func signed(n int, neg bool) int {
	if neg {
		return -n
	}
	return n
}

// cmpAmounts: of one place, digits stand as their bytes do, because none of them begins or ends with a nought.
func cmpAmounts(a, b api.Dec) int {
	return cmp.Or(cmp.Compare(place(a), place(b)), strings.Compare(a.Digits, b.Digits))
}
