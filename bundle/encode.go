package bundle

import (
	"strings"

	"quipu/api"
	"quipu/cursor"
)

// noParent is the byte of a table without a parent.
const noParent = 255

// writer lays bytes one behind the other, and places instead of texts.
type writer struct {
	laid   strings.Builder
	places map[string]int
}

// Encode is its body; Decode reads it.
func Encode(b api.Bundle) (string, api.Errno) {
	if err := Check(b); err != api.OK {
		return "", err
	}
	w := writer{places: map[string]int{}}
	w.texts(textsOf(b.Tables).rising())
	w.put(cursor.Put8(len(b.Tables)))
	for _, t := range b.Tables {
		w.table(t)
	}
	return w.laid.String(), api.OK
}

func (w *writer) put(bytes string) { w.laid.WriteString(bytes) }

// texts lays texts that Check has taken, so PutText takes them too.
func (w *writer) texts(list []string) {
	w.put(cursor.Put16(len(list)))
	for place, text := range list {
		form, _ := cursor.PutText(text)
		w.put(form)
		w.places[text] = place
	}
}

func (w *writer) table(t api.Table) {
	w.put(cursor.Put16(w.places[t.Name]))
	w.put(cursor.Put8(parentByte(t.Parent)))
	w.put(cursor.Put16(len(t.Entries)))
	for _, e := range t.Entries {
		w.entry(e)
	}
}

func (w *writer) entry(e api.Entry) {
	w.put(cursor.Put16(w.places[e.Key]))
	w.put(cursor.Put8(e.Kind))
	if e.Kind == api.EntryNumber {
		w.put(cursor.Put32(e.Num))
		return
	}
	w.put(cursor.Put32(w.places[e.Text]))
}

func parentByte(place int) int {
	if place == none {
		return noParent
	}
	return place
}
