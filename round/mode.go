package round

import "quipu/api"

// roundingMode is one of the eight modes, by its number.
type roundingMode int

// rest is what a number has beyond its inner neighbour, that of the two multiples around it which is nearer to 0.
type rest struct {
	neg  bool // the number is below 0
	odd  bool // the inner neighbour is an odd number of times the unit
	half int  // -1, 0, 1: below half a unit, just that, above
}

// leaves answers what the mode does with a rest: does it leave the inner neighbour for the outer one?
func (m roundingMode) leaves() func(rest) bool {
	table := [api.Modes]func(rest) bool{
		api.Ceiling:  m.byValue,
		api.Floor:    m.byValue,
		api.Down:     m.byAmount,
		api.Up:       m.byAmount,
		api.HalfEven: m.halfByCount,
		api.HalfOdd:  m.halfByCount,
		api.HalfDown: m.halfByAmount,
		api.HalfUp:   m.halfByAmount,
	}
	return table[m]
}

// byValue: the outer neighbour is the lesser one just of numbers below 0.
func (m roundingMode) byValue(r rest) bool {
	return r.neg == (m == api.Floor)
}

func (m roundingMode) byAmount(_ rest) bool {
	return m == api.Up
}

// halfByCount: of the two neighbours one is even and one is odd, so midway the inner one is left if it is not what is asked for.
func (m roundingMode) halfByCount(r rest) bool {
	return r.half > 0 || r.half == 0 && r.odd == (m == api.HalfEven)
}

func (m roundingMode) halfByAmount(r rest) bool {
	return r.half > 0 || r.half == 0 && m == api.HalfUp
}
