package rule

import (
	"strconv"
	"strings"

	"quipu/api"
)

const (
	operands   = "nivwftce"
	mostDigits = 9
)

// rule is a category, and its condition: a list of alls, each a list of relations.
type rule struct {
	category int
	alls     [][]relation
}

type relation struct {
	expr
	unequal bool
	ranges  []bounds
}

// expr is an operand's letter, and what its value is divided by; 0: it is not.
type expr struct {
	operand byte
	divisor int
}

// bounds are the first and the last number of a range.
type bounds struct {
	first, last int
}

// readRules panics at a text that is wrong, as all do that read here: nothing is left to be read then, and the faces recover.
func readRules(text string) []rule {
	list := gather(text)
	if len(list) == 0 {
		return nil
	}
	var rules []rule
	var taken [api.Categories]bool
	for row := range between(list, ";") {
		next := readRule(row)
		if taken[next.category] {
			panic(api.ErrRuleText)
		}
		taken[next.category] = true
		rules = append(rules, next)
	}
	return rules
}

func readRule(row []string) rule {
	if len(row) < 2 || row[1] != ":" {
		panic(api.ErrRuleText)
	}
	category := readCategory(row[0])
	if category == api.Other {
		panic(api.ErrRuleText)
	}
	return rule{category, readCondition(row[2:])}
}

func readCondition(list []string) [][]relation {
	var alls [][]relation
	for row := range between(list, "or") {
		alls = append(alls, readAll(row))
	}
	return alls
}

func readAll(list []string) []relation {
	var all []relation
	for row := range between(list, "and") {
		all = append(all, readRelation(row))
	}
	return all
}

func readRelation(row []string) relation {
	for i, part := range row {
		if part == "=" || part == "!=" {
			return relation{readExpr(row[:i]), part == "!=", readRanges(row[i+1:])}
		}
	}
	panic(api.ErrRuleText)
}

func readExpr(row []string) expr {
	switch {
	case len(row) == 1:
		return expr{operand: readOperand(row[0])}
	case len(row) == 3 && row[1] == "%":
		return expr{readOperand(row[0]), readDivisor(row[2])}
	}
	panic(api.ErrRuleText)
}

func readRanges(list []string) []bounds {
	var ranges []bounds
	for row := range between(list, ",") {
		ranges = append(ranges, readRange(row))
	}
	return ranges
}

func readRange(row []string) bounds {
	switch {
	case len(row) == 1:
		only := readNumber(row[0])
		return bounds{only, only}
	case len(row) == 3 && row[1] == "..":
		first, last := readNumber(row[0]), readNumber(row[2])
		if first <= last {
			return bounds{first, last}
		}
	}
	panic(api.ErrRuleText)
}

func readCategory(part string) int {
	switch part {
	case "zero":
		return api.Zero
	case "one":
		return api.One
	case "two":
		return api.Two
	case "few":
		return api.Few
	case "many":
		return api.Many
	case "other":
		return api.Other
	}
	panic(api.ErrRuleText)
}

func readOperand(part string) byte {
	if len(part) != 1 || !strings.Contains(operands, part) {
		panic(api.ErrRuleText)
	}
	return part[0]
}

func readDivisor(part string) int {
	divisor := readNumber(part)
	if divisor == 0 {
		panic(api.ErrRuleText)
	}
	return divisor
}

// readNumber leaves it to Atoi what digits are: a sign ahead of them, which it would take, is a part of its own.
func readNumber(part string) int {
	number, err := strconv.Atoi(part)
	if err != nil || len(part) > mostDigits {
		panic(api.ErrRuleText)
	}
	return number
}
