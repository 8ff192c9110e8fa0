package pattern

import (
	"strings"

	"quipu/affix"
	"quipu/api"
)

// Print answers a text of which Parse tells the pattern again: each half in the one form.
func Print(p api.Pattern) (string, api.Errno) {
	if err := Check(p); err != api.OK {
		return "", err
	}
	return textOf(p), api.OK
}

// textOf: the text of a pattern whose halves may be.
func textOf(p api.Pattern) string {
	if p.HasNeg {
		return halfText(p.Pos) + ";" + halfText(p.Neg)
	}
	return halfText(p.Pos)
}

func halfText(h api.Sub) string {
	prefix, _ := affix.Print(h.Prefix)
	suffix, _ := affix.Print(h.Suffix)
	var filler [api.PadAfterSuffix + 1]string
	if h.Pad != "" {
		filler[h.PadAt] = "*" + h.Pad
	}
	return filler[api.PadBeforePrefix] + prefix + filler[api.PadAfterPrefix] + digits(h, shownPlaces(h)) +
		filler[api.PadBeforeSuffix] + suffix + filler[api.PadAfterSuffix]
}

// shownPlaces: the places of the one form. Each one more makes the half longer by one, for the groups stand in the least ones already.
func shownPlaces(h api.Sub) int {
	least := leastPlaces(h)
	if h.Pad == "" {
		return least
	}
	return least + h.Width - length(h, least)
}

// digits of a half that has so many places.
func digits(h api.Sub, places int) string {
	text := grouped(row("#", places-h.IntMin)+row("0", h.IntMin), h)
	if h.FracMax > 0 {
		text += "." + row("0", h.FracMin) + row("#", h.FracMax-h.FracMin)
	}
	if h.ExpPlus {
		return text + "E+" + row("0", h.ExpMin)
	}
	if h.ExpMin > 0 {
		return text + "E" + row("0", h.ExpMin)
	}
	return text
}

func grouped(places string, h api.Sub) string {
	at := len(places)
	for _, size := range [...]int{h.Primary, h.Secondary} {
		if size > 0 {
			at -= size
			places = places[:at] + "," + places[at:]
		}
	}
	return places
}

func row(r string, many int) string { return strings.Repeat(r, many) }
