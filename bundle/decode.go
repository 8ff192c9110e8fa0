package bundle

import (
	"quipu/api"
	"quipu/cursor"
)

// reader reads what a writer has laid.
type reader struct {
	from  *cursor.Cursor
	texts []string
}

// Decode reads bytes as if they were a bundle's, and then holds what it has read against them: it is their bundle just if they are its bytes. So the reader may take anything for what can't be read.
func Decode(s string) (api.Bundle, api.Errno) {
	r := reader{from: cursor.New(s)}
	b := r.bundle()
	laid, err := Encode(b)
	if err != api.OK || laid != s {
		return api.Bundle{}, api.ErrBundleForm
	}
	return b, api.OK
}

func (r *reader) bundle() api.Bundle {
	r.texts = row(r.from.Get16, api.MaxPool, r.text)
	return api.Bundle{Tables: row(r.from.Get8, api.MaxTables, r.table)}
}

func (r *reader) text() string { return r.from.Text(api.MaxString) }

func (r *reader) table() api.Table {
	name := r.textAt(r.from.Get16)
	parent := r.parent()
	entries := row(r.from.Get16, api.MaxEntries, r.entry)
	return api.Table{Name: name, Parent: parent, Entries: entries}
}

func (r *reader) parent() int {
	place := r.from.Get8()
	if place == noParent {
		return none
	}
	return place
}

func (r *reader) entry() api.Entry {
	e := api.Entry{Key: r.textAt(r.from.Get16)}
	e.Kind = r.from.Get8()
	if e.Kind == api.EntryNumber {
		e.Num = r.from.Get32()
		return e
	}
	e.Text = r.textAt(r.from.Get32)
	return e
}

// textAt: the text at the place that is read.
func (r *reader) textAt(get func() int) string {
	place := get()
	if place >= len(r.texts) {
		return ""
	}
	return r.texts[place]
}

// row reads how many items there are, and each of them; none, if that is more than may be.
func row[T any](get func() int, most int, item func() T) []T {
	many := get()
	if many > most {
		return nil
	}
	items := make([]T, many)
	for i := range items {
		items[i] = item()
	}
	return items
}
