package pattern_test

import (
	"fmt"
	"math/rand/v2"
	"reflect"
	"regexp"
	"slices"
	"strings"
	"testing"
	"unicode/utf8"

	"quipu/affix"
	"quipu/api"
	"quipu/pattern"
)

// The chapter's words, by another way than the program's: what the program is held against.

func source() *rand.Rand { return rand.New(rand.NewPCG(14, 1)) }

func repeat(s string, n int) string { return strings.Repeat(s, n) }

func text(s string) api.Token { return api.Token{Kind: api.TokText, Text: s} }

func coin(many int) api.Token { return api.Token{Kind: api.TokCoin, Many: many} }

func tokens(l ...api.Token) []api.Token { return l }

var (
	minus    = api.Token{Kind: api.TokMinus}
	plus     = api.Token{Kind: api.TokPlus}
	percent  = api.Token{Kind: api.TokPercent}
	permille = api.Token{Kind: api.TokPermille}
)

func one(h api.Sub) api.Pattern { return api.Pattern{Pos: h} }

func two(pos, neg api.Sub) api.Pattern { return api.Pattern{Pos: pos, HasNeg: true, Neg: neg} }

func short(x any) string { return fmt.Sprintf("%.500q", fmt.Sprintf("%+v", x)) }

// sameHalf: a nil list and an empty one are the same.
func sameHalf(a, b api.Sub) bool {
	same := slices.Equal(a.Prefix, b.Prefix) && slices.Equal(a.Suffix, b.Suffix)
	a.Prefix, a.Suffix, b.Prefix, b.Suffix = nil, nil, nil, nil
	return same && reflect.DeepEqual(a, b)
}

func same(a, b api.Pattern) bool {
	return a.HasNeg == b.HasNeg && sameHalf(a.Pos, b.Pos) && sameHalf(a.Neg, b.Neg)
}

func runesByWords(l []api.Token) int {
	n := 0
	for _, t := range l {
		n += utf8.RuneCountInString(t.Text) + t.Many
		if t.Kind >= 1 && t.Kind <= 4 {
			n++
		}
	}
	return n
}

// placesByWords: so many `#` and IntMin times `0`, with their groups; false, if they are none.
func placesByWords(h api.Sub, signs int) (string, bool) {
	row := repeat("#", signs) + repeat("0", h.IntMin)
	var all []byte
	for i := range len(row) {
		behind := len(row) - i
		if h.Primary > 0 && (behind == h.Primary || h.Secondary > 0 && behind == h.Primary+h.Secondary) {
			if i == 0 {
				return "", false
			}
			all = append(all, ',')
		}
		all = append(all, row[i])
	}
	commas := 0
	for _, n := range []int{h.Primary, h.Secondary} {
		if n > 0 {
			commas++
		}
	}
	return string(all), len(row) > 0 && strings.Count(string(all), ",") == commas
}

// digitsByWords: as few `#` as may be, or as many as make it at least that long.
func digitsByWords(h api.Sub, long int) string {
	behind := ""
	if h.FracMax > 0 {
		behind = "." + repeat("0", h.FracMin) + repeat("#", h.FracMax-h.FracMin)
	}
	if h.ExpMin > 0 {
		behind += "E" + map[bool]string{true: "+"}[h.ExpPlus] + repeat("0", h.ExpMin)
	}
	for signs := 0; ; signs++ {
		if places, ok := placesByWords(h, signs); ok && len(places+behind) >= long {
			return places + behind
		}
	}
}

func mayByWords(h api.Sub) bool {
	switch {
	case affix.Check(h.Prefix) != 0 || affix.Check(h.Suffix) != 0:
		return false
	case h.IntMin < 0 || h.IntMin > 32 || h.FracMin < 0 || h.FracMin > h.FracMax || h.FracMax > 32:
		return false
	case h.Primary < 0 || h.Primary > 16 || h.Secondary < 0 || h.Secondary > 16 || h.Primary == 0 && h.Secondary != 0:
		return false
	case h.ExpMin < 0 || h.ExpMin > 9 || h.ExpMin == 0 && h.ExpPlus || h.ExpMin > 0 && h.Primary > 0:
		return false
	case h.Pad == "":
		return h.PadAt == 0 && h.Width == 0
	case !utf8.ValidString(h.Pad) || utf8.RuneCountInString(h.Pad) != 1:
		return false
	case h.PadAt < 0 || h.PadAt > 3 || h.PadAt == 1 && len(h.Prefix) == 0 || h.PadAt == 3 && len(h.Suffix) == 0:
		return false
	}
	least := runesByWords(h.Prefix) + len(digitsByWords(h, 0)) + runesByWords(h.Suffix)
	return h.Width >= least && h.Width <= 99
}

func halfByWords(h api.Sub) string {
	prefix, _ := affix.Print(h.Prefix)
	suffix, _ := affix.Print(h.Suffix)
	if h.Pad == "" {
		return prefix + digitsByWords(h, 0) + suffix
	}
	digits := digitsByWords(h, h.Width-runesByWords(h.Prefix)-runesByWords(h.Suffix))
	filler := "*" + h.Pad
	switch h.PadAt {
	case 0:
		return filler + prefix + digits + suffix
	case 1:
		return prefix + filler + digits + suffix
	case 2:
		return prefix + digits + filler + suffix
	}
	return prefix + digits + suffix + filler
}

func printByWords(p api.Pattern) (string, api.Errno) {
	if !mayByWords(p.Pos) || p.HasNeg && !mayByWords(p.Neg) || !p.HasNeg && !sameHalf(p.Neg, api.Sub{}) {
		return "", 141
	}
	s := halfByWords(p.Pos)
	if p.HasNeg {
		s += ";" + halfByWords(p.Neg)
	}
	if len(s) > 128 {
		return "", 142
	}
	return s, 0
}

func checkByWords(p api.Pattern) api.Errno {
	_, err := printByWords(p)
	return err
}

const (
	affixWords = `((?:[^'0-9#@,.;*]|''|'(?:[^']|'')*')*)`
	padWords   = `(?:\*(.))?`
	halfWords  = padWords + affixWords + padWords + `([#0,]+)(?:\.([0#]+))?(?:E(\+?)(0+))?` + padWords + affixWords + padWords
)

var (
	wholeWords  = regexp.MustCompile(`(?s)^` + halfWords + `(?:(;)` + halfWords + `)?$`)
	placesWords = regexp.MustCompile(`^#*0*$`)
	fracWords   = regexp.MustCompile(`^0*#*$`)
)

// readByWords: the half that the parts of the expression say: what the filler ahead is, the prefix, a filler, the places, the fraction, the plus and the noughts of the exponent, a filler, the suffix, a filler.
func readByWords(part []string) (h api.Sub, ok bool) {
	var err, err2 api.Errno
	h.Prefix, err = affix.Parse(part[1])
	h.Suffix, err2 = affix.Parse(part[8])
	if err != 0 || err2 != 0 {
		return h, false
	}
	whole := strings.ReplaceAll(part[3], ",", "")
	rows := strings.Split(part[3], ",")
	if !placesWords.MatchString(whole) || len(rows) > 3 || len(rows) != len(strings.FieldsFunc(part[3], func(r rune) bool { return r == ',' })) {
		return h, false
	}
	slices.Reverse(rows)
	h.IntMin = strings.Count(whole, "0")
	if len(rows) > 1 {
		h.Primary = len(rows[0])
	}
	if len(rows) > 2 {
		h.Secondary = len(rows[1])
	}
	h.FracMin, h.FracMax = strings.Count(part[4], "0"), len(part[4])
	h.ExpPlus, h.ExpMin = part[5] == "+", len(part[6])
	length := runesByWords(h.Prefix) + len(part[3]+part[4]+part[5]+part[6]) + runesByWords(h.Suffix)
	if part[4] != "" {
		length++
	}
	if part[6] != "" {
		length++
	}
	fillers := 0
	for at, pad := range []string{part[0], part[2], part[7], part[9]} {
		if pad != "" {
			fillers++
			h.Pad, h.PadAt, h.Width = pad, at, length
		}
	}
	if h.PadAt == 1 && part[1] == "" {
		h.PadAt = 0
	}
	if h.PadAt == 3 && part[8] == "" {
		h.PadAt = 2
	}
	return h, fillers < 2 && fracWords.MatchString(part[4])
}

func parseByWords(s string) (api.Pattern, api.Errno) {
	if len(s) > 128 {
		return api.Pattern{}, 142
	}
	part := wholeWords.FindStringSubmatch(s)
	if !utf8.ValidString(s) || part == nil {
		return api.Pattern{}, 140
	}
	pos, ok := readByWords(part[1:11])
	p := one(pos)
	if part[11] == ";" {
		neg, second := readByWords(part[12:])
		p, ok = two(pos, neg), ok && second
	}
	if !ok {
		return api.Pattern{}, 140
	}
	if err := checkByWords(p); err != 0 {
		return api.Pattern{}, err
	}
	return p, 0
}

func expectCheck(t *testing.T, p api.Pattern, want api.Errno) {
	t.Helper()
	if err := pattern.Check(p); err != want {
		t.Errorf("Check(%s): %d, not %d", short(p), err, want)
	}
	if err := checkByWords(p); err != want {
		t.Errorf("Check(%s) by the words: %d, not %d", short(p), err, want)
	}
}

func expectParse(t *testing.T, s string, want api.Pattern) {
	t.Helper()
	expectParsed(t, s, want, api.OK)
}

func expectParseError(t *testing.T, want api.Errno, texts ...string) {
	t.Helper()
	for _, s := range texts {
		expectParsed(t, s, api.Pattern{}, want)
	}
}

func expectParsed(t *testing.T, s string, want api.Pattern, wantErr api.Errno) {
	t.Helper()
	if p, err := pattern.Parse(s); err != wantErr || !same(p, want) {
		t.Errorf("Parse(%q): %s, %d, not %s, %d", s, short(p), err, short(want), wantErr)
	}
	if p, err := parseByWords(s); err != wantErr || !same(p, want) {
		t.Errorf("Parse(%q) by the words: %s, %d, not %s, %d", s, short(p), err, short(want), wantErr)
	}
}

// expectPrint holds what Print tells against the words, and reads it again.
func expectPrint(t *testing.T, want string, p api.Pattern) {
	t.Helper()
	if s, err := pattern.Print(p); err != api.OK || s != want {
		t.Errorf("Print(%s): %q, %d, not %q", short(p), s, err, want)
	}
	if s, err := printByWords(p); err != api.OK || s != want {
		t.Errorf("Print(%s) by the words: %q, %d, not %q", short(p), s, err, want)
	}
	expectCheck(t, p, api.OK)
	expectParse(t, want, p)
}

func expectPrintError(t *testing.T, want api.Errno, p api.Pattern) {
	t.Helper()
	if s, err := pattern.Print(p); err != want || s != "" {
		t.Errorf("Print(%s): %q, %d, not %d", short(p), s, err, want)
	}
	expectCheck(t, p, want)
}
