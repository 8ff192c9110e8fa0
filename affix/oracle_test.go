package affix_test

import (
	"fmt"
	"math/rand/v2"
	"regexp"
	"slices"
	"strings"
	"testing"
	"unicode/utf8"

	"quipu/affix"
	"quipu/api"
)

// The chapter's words, by another way than the program's: what the program is held against.

func source() *rand.Rand { return rand.New(rand.NewPCG(13, 1)) }

func repeat(s string, n int) string { return strings.Repeat(s, n) }

func text(s string) api.Token { return api.Token{Kind: api.TokText, Text: s} }

func coin(many int) api.Token { return api.Token{Kind: api.TokCoin, Many: many} }

func tokens(l ...api.Token) []api.Token { return l }

// times: the tokens, so many times one behind the other.
func times(n int, l ...api.Token) []api.Token { return slices.Repeat(l, n) }

func join(lists ...[]api.Token) []api.Token { return slices.Concat(lists...) }

var (
	minus    = api.Token{Kind: api.TokMinus}
	plus     = api.Token{Kind: api.TokPlus}
	percent  = api.Token{Kind: api.TokPercent}
	permille = api.Token{Kind: api.TokPermille}
)

func short(x any) string { return fmt.Sprintf("%.300q", fmt.Sprintf("%+v", x)) }

func mayByWords(t api.Token) bool {
	if t.Kind == 0 {
		return len(t.Text) > 0 && utf8.ValidString(t.Text) && t.Many == 0
	}
	if t.Kind == 5 {
		return t.Text == "" && (t.Many == 1 || t.Many == 2 || t.Many == 3)
	}
	return (t.Kind == 1 || t.Kind == 2 || t.Kind == 3 || t.Kind == 4) && t.Text == "" && t.Many == 0
}

func checkByWords(l []api.Token) api.Errno {
	all := ""
	for _, t := range l {
		if !mayByWords(t) {
			return 131
		}
		all += t.Text
	}
	for i := 1; i < len(l); i++ {
		if l[i-1].Kind == 0 && l[i].Kind == 0 || l[i-1].Kind == 5 && l[i].Kind == 5 {
			return 131
		}
	}
	if len(l) > 64 || len(all) > 64 {
		return 132
	}
	return 0
}

// said is a rune of a text: itself, or what its sign is.
type said struct {
	rune string
	kind int
}

// runesByWords: the runes of a text, up to the first byte that begins none, which stands alone then.
func runesByWords(s string) ([]string, bool) {
	var list []string
	for i, r := range s {
		if r == utf8.RuneError && !strings.HasPrefix(s[i:], "\ufffd") {
			return list, false
		}
		list = append(list, string(r))
	}
	return list, true
}

// saidByWords looks ahead for the rune behind an apostrophe. Runes are left out from the first byte on that begins none, so a quote that does not end has been cut there.
func saidByWords(runes []string, whole bool) ([]said, api.Errno) {
	var list []said
	at := func(i int) string { return strings.Join(runes[i:min(i+1, len(runes))], "") }
	cut := api.Errno(131)
	if whole {
		cut = 130
	}
	kinds := map[string]int{"-": 1, "+": 2, "%": 3, "‰": 4, "¤": 5}
	for i := 0; i < len(runes); i++ {
		switch {
		case at(i) == "'" && at(i+1) == "'":
			list = append(list, said{"'", 0})
			i++
		case at(i) == "'":
			for i++; at(i) != "'" || at(i+1) == "'"; i++ {
				if i >= len(runes) {
					return nil, cut
				}
				if at(i) == "'" {
					i++
				}
				list = append(list, said{at(i), 0})
			}
		case slices.Contains(strings.Fields("0 1 2 3 4 5 6 7 8 9 # @ , . ; *"), at(i)):
			return nil, 131
		case at(i) == "¤" && i >= 3 && slices.Equal(runes[i-3:i], []string{"¤", "¤", "¤"}):
			return nil, 131
		default:
			list = append(list, said{at(i), kinds[at(i)]})
		}
	}
	if !whole {
		return nil, 131
	}
	return list, 0
}

func parseByWords(s string) ([]api.Token, api.Errno) {
	all, err := saidByWords(runesByWords(s))
	if err != 0 {
		return nil, err
	}
	var l []api.Token
	for len(all) > 0 {
		many := 1
		for many < len(all) && all[many].kind == all[0].kind && (all[0].kind == 0 || all[0].kind == 5) {
			many++
		}
		t := api.Token{Kind: all[0].kind}
		switch t.Kind {
		case 0:
			for _, x := range all[:many] {
				t.Text += x.rune
			}
		case 5:
			t.Many = many
		}
		l = append(l, t)
		all = all[many:]
	}
	if err := checkByWords(l); err != 0 {
		return nil, err
	}
	return l, 0
}

var rows = regexp.MustCompile(`[-+%‰¤0-9#@,.;*']+`)

func printByWords(l []api.Token) (string, api.Errno) {
	if err := checkByWords(l); err != 0 {
		return "", err
	}
	s := ""
	for _, t := range l {
		switch t.Kind {
		case 0:
			s += rows.ReplaceAllStringFunc(t.Text, rowByWords)
		case 5:
			s += repeat("¤", t.Many)
		default:
			s += []string{1: "-", 2: "+", 3: "%", 4: "‰"}[t.Kind]
		}
	}
	return s, 0
}

func rowByWords(row string) string {
	twice, alone := "", true
	for _, r := range row {
		twice += string(r)
		if r == '\'' {
			twice += "'"
		} else {
			alone = false
		}
	}
	if alone {
		return twice
	}
	return "'" + twice + "'"
}

func expectCheck(t *testing.T, l []api.Token, want api.Errno) {
	t.Helper()
	if err := affix.Check(l); err != want {
		t.Errorf("Check(%s): %d, not %d", short(l), err, want)
	}
	if err := checkByWords(l); err != want {
		t.Errorf("Check(%s) by the words: %d, not %d", short(l), err, want)
	}
}

func expectParse(t *testing.T, s string, want ...api.Token) {
	t.Helper()
	expectParsed(t, s, want, api.OK)
}

func expectParseError(t *testing.T, s string, want api.Errno) {
	t.Helper()
	expectParsed(t, s, nil, want)
}

func expectParsed(t *testing.T, s string, want []api.Token, wantErr api.Errno) {
	t.Helper()
	if l, err := affix.Parse(s); err != wantErr || !slices.Equal(l, want) {
		t.Errorf("Parse(%.200q): %s, %d, not %s, %d", s, short(l), err, short(want), wantErr)
	}
	if l, err := parseByWords(s); err != wantErr || !slices.Equal(l, want) {
		t.Errorf("Parse(%.200q) by the words: %s, %d, not %s, %d", s, short(l), err, short(want), wantErr)
	}
}

// expectPrint holds what Print tells against the words, and reads it again.
func expectPrint(t *testing.T, want string, l ...api.Token) {
	t.Helper()
	if s, err := affix.Print(l); err != api.OK || s != want {
		t.Errorf("Print(%s): %q, %d, not %q", short(l), s, err, want)
	}
	if s, err := printByWords(l); err != api.OK || s != want {
		t.Errorf("Print(%s) by the words: %q, %d, not %q", short(l), s, err, want)
	}
	expectParse(t, want, l...)
}

func expectPrintError(t *testing.T, want api.Errno, l ...api.Token) {
	t.Helper()
	if s, err := affix.Print(l); err != want || s != "" {
		t.Errorf("Print(%s): %q, %d, not %d", short(l), s, err, want)
	}
	expectCheck(t, l, want)
}
