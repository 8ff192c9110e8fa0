package notation

import (
	"quipu/api"
	"quipu/pattern"
)

// The Exps that may be in the table.
const (
	leastExp = 3
	mostExp  = 14
)

// choice is an Exp in the table, and its power; both are 0 where there is none.
type choice struct {
	exp, power int
}

// chooser answers what tells the Exp for a magnitude.
func chooser(rows []api.Compact) func(magnitude int) choice {
	return func(magnitude int) choice {
		for exp := min(magnitude, mostExp); exp >= leastExp; exp-- {
			if n := noughts(rows, exp); n > 0 {
				return choice{exp: exp, power: exp - n + 1}
			}
		}
		return choice{}
	}
}

// noughts answers those of an Exp; 0, if it is not in the table. The first row of Other alone is asked, be there a better one behind it.
func noughts(rows []api.Compact, exp int) int {
	text, ok := Row(rows, exp, api.Other)
	if !ok {
		return 0
	}
	p, err := pattern.Parse(text)
	half := p.Pos
	if err != api.OK || half.IntMin > exp+1 || len(half.Prefix)+len(half.Suffix) == 0 {
		return 0
	}
	return half.IntMin
}
