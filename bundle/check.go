package bundle

import (
	"math"
	"slices"

	"quipu/api"
	"quipu/cursor"
)

// none is the place of a table that is not there: the parent of a table without one.
const none = -1

// Check tells whether a bundle may be.
func Check(b api.Bundle) api.Errno {
	if !mayCounts(b.Tables) {
		return api.ErrBundleMany
	}
	for place := range b.Tables {
		if err := checkTable(b.Tables, place); err != api.OK {
			return err
		}
	}
	if tooManyTexts(b.Tables) {
		return api.ErrBundleMany
	}
	return api.OK
}

func mayCounts(tables []api.Table) bool {
	for _, t := range tables {
		if len(t.Entries) > api.MaxEntries {
			return false
		}
	}
	return 1 <= len(tables) && len(tables) <= api.MaxTables
}

func checkTable(tables []api.Table, place int) api.Errno {
	t, ahead := tables[place], tables[:place]
	switch {
	case !mayName(t.Name):
		return api.ErrBundleForm
	case placeOf(ahead, t.Name) != none || t.Parent < none || t.Parent >= place:
		return api.ErrBundleOrder
	}
	return checkEntries(t.Entries)
}

// checkEntries begins with the empty key, above which each key rises that may be the first.
func checkEntries(entries []api.Entry) api.Errno {
	last := ""
	for _, e := range entries {
		switch {
		case !mayName(e.Key):
			return api.ErrBundleForm
		case e.Key <= last:
			return api.ErrBundleOrder
		case !mayValue(e):
			return api.ErrBundleForm
		}
		last = e.Key
	}
	return api.OK
}

func mayValue(e api.Entry) bool {
	switch e.Kind {
	case api.EntryText:
		return mayText(e.Text) && e.Num == 0
	case api.EntryNumber:
		return e.Text == "" && 0 <= e.Num && e.Num <= math.MaxUint32
	case api.EntryAlias:
		return mayName(e.Text) && e.Num == 0
	}
	return false
}

// mayName tells of names and of keys.
func mayName(s string) bool { return s != "" && mayText(s) }

func mayText(s string) bool { return len(s) <= api.MaxString && cursor.Valid(s) }

func placeOf(tables []api.Table, name string) int {
	return slices.IndexFunc(tables, func(t api.Table) bool { return t.Name == name })
}

// tooManyTexts gathers the texts only where they could be too many, because each key that is looked for asks it anew.
func tooManyTexts(tables []api.Table) bool {
	most := len(tables)
	for _, t := range tables {
		most += 2 * len(t.Entries)
	}
	return most > api.MaxPool && len(textsOf(tables)) > api.MaxPool
}
