package locale

import "quipu/api"

// slot is where a record holds what a key says: a text, or else a number.
type slot struct {
	key    string
	text   *string
	number *int
	must   bool // the key may not be left out
}

func textSlot(key string, text *string) slot { return slot{key: key, text: text} }

func numberSlot(key string, number *int) slot { return slot{key: key, number: number} }

// must: slots whose keys may not be left out; of may they may be.
func must(list ...slot) []slot {
	for i := range list {
		list[i].must = true
	}
	return list
}

func may(list ...slot) []slot { return list }

// put answers false, if the entry is of the other kind.
func (s slot) put(e api.Entry) bool {
	switch {
	case s.text != nil && e.Kind == api.EntryText:
		*s.text = e.Text
	case s.number != nil && e.Kind == api.EntryNumber:
		*s.number = e.Num
	default:
		return false
	}
	return true
}

// speaks: an empty text says no more than a key that is left out, where it may be.
func (s slot) speaks() bool { return s.must || s.text == nil || *s.text != "" }

func (s slot) entry() api.Entry {
	if s.text != nil {
		return api.Entry{Key: s.key, Kind: api.EntryText, Text: *s.text}
	}
	return api.Entry{Key: s.key, Kind: api.EntryNumber, Num: *s.number}
}
