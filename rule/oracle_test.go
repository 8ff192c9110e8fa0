package rule_test

import (
	"fmt"
	"math/big"
	"math/rand/v2"
	"regexp"
	"slices"
	"strings"
	"testing"

	"quipu/api"
	"quipu/operand"
	"quipu/rule"
)

// The promises, word for word, by regular expressions and math/big: what the program is held against.

var (
	partForm  = regexp.MustCompile(`^ *([a-z]+|[0-9]+|[:;%=,+]|!=|\.\.)`)
	rulesForm = regexp.MustCompile(grammar())
	entryForm = regexp.MustCompile(`^E( ; E)*$`)
	oneEntry  = regexp.MustCompile(`(zero|one|two|few|many|other) \+ (zero|one|two|few|many|other) : (zero|one|two|few|many|other)`)
	byZero    = regexp.MustCompile(`% 0+( |$)`)
	fromTo    = regexp.MustCompile(`([0-9]+) \.\. ([0-9]+)`)
	ruleHead  = regexp.MustCompile(`([a-z]+) :`)
)

// grammar: of parts with one blank between any two.
func grammar() string {
	number := `[0-9]{1,9}`
	span := number + `(?: \.\. ` + number + `)?`
	list := span + `(?: , ` + span + `)*`
	relation := `[nivwftce](?: % ` + number + `)? !?= ` + list
	all := relation + `(?: and ` + relation + `)*`
	condition := all + `(?: or ` + all + `)*`
	one := `(?:zero|one|two|few|many) : ` + condition
	return `^(?:` + one + `(?: ; ` + one + `)*)?$`
}

func names() []string { return []string{"zero", "one", "two", "few", "many", "other"} }

// laidOut answers the parts with one blank between any two; false: something is no part.
func laidOut(text string) (string, bool) {
	var list []string
	for strings.Trim(text, " ") != "" {
		found := partForm.FindStringSubmatch(text)
		if found == nil {
			return "", false
		}
		list = append(list, found[1])
		text = text[len(found[0]):]
	}
	return strings.Join(list, " "), true
}

func big10(digits string) *big.Int {
	n, ok := new(big.Int).SetString(digits, 10)
	if !ok {
		panic(digits)
	}
	return n
}

// differ: are no two of them the same?
func differ(texts []string) bool {
	texts = slices.Sorted(slices.Values(texts))
	return len(slices.Compact(slices.Clone(texts))) == len(texts)
}

func checkByWords(text string) api.Errno {
	if len(text) > 1024 {
		return api.ErrRuleLong
	}
	laid, ok := laidOut(text)
	if !ok || !rulesForm.MatchString(laid) || byZero.MatchString(laid) || !differ(ruleHead.FindAllString(laid, -1)) {
		return api.ErrRuleText
	}
	for _, pair := range fromTo.FindAllStringSubmatch(laid, -1) {
		if big10(pair[1]).Cmp(big10(pair[2])) > 0 {
			return api.ErrRuleText
		}
	}
	return api.OK
}

func checkRangesByWords(text string) api.Errno {
	if len(text) > 1024 {
		return api.ErrRuleLong
	}
	laid, ok := laidOut(text)
	if ok && laid == "" {
		return api.OK
	}
	var heads []string
	for _, found := range oneEntry.FindAllStringSubmatch(laid, -1) {
		heads = append(heads, found[1]+found[2])
	}
	// What is left when each entry is one letter, which no part can be.
	if !ok || !entryForm.MatchString(oneEntry.ReplaceAllString(laid, "E")) || !differ(heads) {
		return api.ErrRuleText
	}
	return api.OK
}

// pickByWords takes a rules' text and operands that may be.
func pickByWords(text string, x api.Operands) int {
	laid, _ := laidOut(text)
	if laid == "" {
		return api.Other
	}
	for _, one := range strings.Split(laid, " ; ") {
		name, condition, _ := strings.Cut(one, " : ")
		if conditionByWords(condition, x) {
			return slices.Index(names(), name)
		}
	}
	return api.Other
}

func conditionByWords(condition string, x api.Operands) bool {
	return slices.ContainsFunc(strings.Split(condition, " or "), func(all string) bool {
		return !slices.ContainsFunc(strings.Split(all, " and "), func(relation string) bool {
			return !relationByWords(relation, x)
		})
	})
}

func relationByWords(relation string, x api.Operands) bool {
	expr, list, equal := strings.Cut(relation, " = ")
	if !equal {
		expr, list, _ = strings.Cut(relation, " != ")
	}
	letter, divisor, divided := strings.Cut(expr, " % ")
	value := valueByWords(letter, x)
	if divided {
		value = rest(value, big10(divisor))
	}
	return hasByWords(list, value) == equal
}

func hasByWords(list string, value *big.Rat) bool {
	if !value.IsInt() {
		return false
	}
	return slices.ContainsFunc(strings.Split(list, " , "), func(span string) bool {
		first, last, two := strings.Cut(span, " .. ")
		if !two {
			last = first
		}
		return big10(first).Cmp(value.Num()) <= 0 && value.Num().Cmp(big10(last)) <= 0
	})
}

func valueByWords(letter string, x api.Operands) *big.Rat {
	switch letter {
	case "n":
		fraction := new(big.Rat).SetFrac(big10(x.T), power(x.W))
		return fraction.Add(fraction, new(big.Rat).SetInt(big10(x.I)))
	case "i":
		return new(big.Rat).SetInt(big10(x.I))
	case "f":
		return new(big.Rat).SetInt(big10(x.F))
	case "t":
		return new(big.Rat).SetInt(big10(x.T))
	case "v":
		return big.NewRat(int64(x.V), 1)
	case "w":
		return big.NewRat(int64(x.W), 1)
	case "c", "e":
		return big.NewRat(int64(x.E), 1)
	}
	panic(letter)
}

func power(n int) *big.Int {
	return new(big.Int).Exp(big.NewInt(10), big.NewInt(int64(n)), nil)
}

// rest: less as many times the divisor as there are.
func rest(value *big.Rat, divisor *big.Int) *big.Rat {
	unit := new(big.Rat).SetInt(divisor)
	times := new(big.Rat).Quo(value, unit)
	whole := new(big.Rat).SetInt(new(big.Int).Div(times.Num(), times.Denom()))
	return new(big.Rat).Sub(value, whole.Mul(whole, unit))
}

// What is handed in.

func repeat(text string, times int) string { return strings.Repeat(text, times) }

// shown: the operands of a number as it is shown: 1.20, or 1.2c6 for a compact one.
func shown(text string) api.Operands {
	var s api.Shown
	digits, exp, compact := strings.Cut(text, "c")
	if compact {
		s.Compact, s.Exp = true, int(big10(exp).Int64())
	}
	s.Int, s.Frac, _ = strings.Cut(digits, ".")
	x, err := operand.Of(s)
	if err != api.OK {
		panic(text)
	}
	return x
}

func ops(i string, v, w int, f, t string, e int) api.Operands {
	return api.Operands{I: i, V: v, W: w, F: f, T: t, E: e}
}

// wrongOperands: none of them may be.
func wrongOperands() []api.Operands {
	return []api.Operands{
		{}, ops("", 0, 0, "0", "0", 0), ops("01", 0, 0, "0", "0", 0), ops("-1", 0, 0, "0", "0", 0), ops("1", 0, 0, "", "", 0), ops("1", 0, 0, "5", "5", 0), ops("1", 1, 2, "5", "5", 0), ops("1", 2, 1, "5", "5", 0), ops("1", 2, 1, "50", "50", 0), ops("1", 2, 2, "0", "5", 0), ops("1", 1, 1, "x", "x", 0), ops("1", 0, 0, "0", "0", -1), ops("1", 0, 0, "0", "0", 8193), ops("1", -1, -1, "0", "0", 0), ops("1", 8193, 0, "0", "0", 0), ops(repeat("7", 8193), 0, 0, "0", "0", 0), ops("\xff", 0, 0, "0", "0", 0),
	}
}

// someOperands: of small numbers, with and without fractions, and of large ones.
func someOperands() []api.Operands {
	list := []api.Operands{
		ops("1", 2, 2, "30", "30", 0), ops("1", 2, 2, "0", "0", 0), ops("5", 6, 3, "4000", "4", 2), // Nothing asks that W is as small as it could be.
		shown("999999999"), shown("1000000000"), shown("1000000001"), shown("4294967301"), shown("18446744073709551621"), shown("0.18446744073709551621"), shown(repeat("7", 4096)), shown("3." + repeat("7", 4096)), shown("3c2000"), ops(repeat("7", 8192), 8192, 8192, repeat("3", 8192), repeat("3", 8192), 8192),
	}
	for i := range 120 {
		list = append(list, shown(fmt.Sprint(i)), shown(fmt.Sprintf("%d.%d", i/10, i%10)), shown(fmt.Sprintf("%d.%02d", i%7, i%100)), shown(fmt.Sprintf("%d.%dc%d", i%12, i%50, i%9)))
	}
	return list
}

func source() *rand.Rand { return rand.New(rand.NewPCG(9, 2026)) }

func oneOf[T any](r *rand.Rand, list ...T) T { return list[r.IntN(len(list))] }

func someNumber(r *rand.Rand) int { return r.IntN(oneOf(r, 3, 8, 20, 200, 1000000000)) }

func someRange(r *rand.Rand) []string {
	first, last := someNumber(r), someNumber(r)
	if r.IntN(2) == 0 {
		return []string{fmt.Sprint(first)}
	}
	return []string{fmt.Sprint(min(first, last)), "..", fmt.Sprint(max(first, last))}
}

// joined: one to so many of what make answers, the separator between any two.
func joined(r *rand.Rand, most int, separator string, make func(r *rand.Rand) []string) []string {
	list := make(r)
	for range r.IntN(most) {
		list = append(append(list, separator), make(r)...)
	}
	return list
}

func someList(r *rand.Rand) []string { return joined(r, 3, ",", someRange) }

func someExpr(r *rand.Rand) []string {
	letter := oneOf(r, "n", "i", "v", "w", "f", "t", "c", "e")
	if r.IntN(2) == 0 {
		return []string{letter}
	}
	return []string{letter, "%", fmt.Sprint(1 + someNumber(r)%999999999)}
}

func someRelation(r *rand.Rand) []string {
	return append(append(someExpr(r), oneOf(r, "=", "!=")), someList(r)...)
}

func someAll(r *rand.Rand) []string { return joined(r, 3, "and", someRelation) }

func someCondition(r *rand.Rand) []string { return joined(r, 3, "or", someAll) }

// someRules: the parts of a rules' text of so many rules.
func someRules(r *rand.Rand, many int) []string {
	order := r.Perm(5)
	var list []string
	for i := range many {
		if i > 0 {
			list = append(list, ";")
		}
		list = append(append(list, names()[order[i]], ":"), someCondition(r)...)
	}
	return list
}

func someEntries(r *rand.Rand, many int) []string {
	order := r.Perm(36)
	var list []string
	for i := range many {
		if i > 0 {
			list = append(list, ";")
		}
		list = append(list, names()[order[i]/6], "+", names()[order[i]%6], ":", names()[r.IntN(6)])
	}
	return list
}

func isWord(part string) bool { return part != "" && part[0] >= 'a' && part[0] <= 'z' }

// withBlanks: some ahead of each part, and at the end; one at least where two words would run into one another.
func withBlanks(r *rand.Rand, list []string) string {
	var text strings.Builder
	for i, part := range list {
		many := oneOf(r, 0, 0, 1, 1, 3)
		if i > 0 && isWord(list[i-1]) && isWord(part) {
			many++
		}
		text.WriteString(repeat(" ", many) + part)
	}
	return text.String() + repeat(" ", r.IntN(3))
}

func plainly(list []string) string { return strings.Join(list, " ") }

// What is expected.

func short(text string) string {
	if len(text) > 300 {
		return fmt.Sprintf("%q.. (%d bytes)", text[:200], len(text))
	}
	return fmt.Sprintf("%q", text)
}

func operandsText(x api.Operands) string {
	return fmt.Sprintf("%s %d %d %s %s %d", short(x.I), x.V, x.W, short(x.F), short(x.T), x.E)
}

// expectCheck asks Check, and that Pick tells the same error, whatever the operands are.
func expectCheck(t *testing.T, text string, want api.Errno) {
	t.Helper()
	if got := rule.Check(text); got != want {
		t.Errorf("Check of %s: error %d, not %d", short(text), got, want)
	}
	for _, x := range []api.Operands{shown("1"), {}} {
		wanted := want
		if want == api.OK && x == (api.Operands{}) {
			wanted = api.ErrRuleForm
		}
		if category, err := rule.Pick(text, x); err != wanted || err != api.OK && category != 0 {
			t.Errorf("Pick by %s of %s: %d, error %d, not %d", short(text), operandsText(x), category, err, wanted)
		}
	}
}

func expectPick(t *testing.T, text string, x api.Operands, want int) {
	t.Helper()
	if got, err := rule.Pick(text, x); got != want || err != api.OK {
		t.Errorf("Pick by %s of %s: %d, error %d, not %d", short(text), operandsText(x), got, err, want)
	}
}

// expectCheckRanges asks CheckRanges, and that PickRange tells the same error, whatever the categories are.
func expectCheckRanges(t *testing.T, text string, want api.Errno) {
	t.Helper()
	if got := rule.CheckRanges(text); got != want {
		t.Errorf("CheckRanges of %s: error %d, not %d", short(text), got, want)
	}
	for _, start := range []int{api.One, 6} {
		wanted := want
		if want == api.OK && start == 6 {
			wanted = api.ErrArg
		}
		if category, err := rule.PickRange(text, start, api.Two); err != wanted || err != api.OK && category != 0 {
			t.Errorf("PickRange by %s of %d: %d, error %d, not %d", short(text), start, category, err, wanted)
		}
	}
}

func expectRange(t *testing.T, text string, start, end, want int) {
	t.Helper()
	if got, err := rule.PickRange(text, start, end); got != want || err != api.OK {
		t.Errorf("PickRange by %s of %d, %d: %d, error %d, not %d", short(text), start, end, got, err, want)
	}
}
