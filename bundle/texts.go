package bundle

import (
	"slices"

	"quipu/api"
)

// texts are some, each once.
type texts map[string]struct{}

func (found texts) add(text string) { found[text] = struct{}{} }

// rising sorts them, because a map has no order of its own.
func (found texts) rising() []string {
	list := make([]string, 0, len(found))
	for text := range found {
		list = append(list, text)
	}
	slices.Sort(list)
	return list
}

func textsOf(tables []api.Table) texts {
	found := texts{}
	for _, t := range tables {
		found.add(t.Name)
		for _, e := range t.Entries {
			found.add(e.Key)
			if e.Kind != api.EntryNumber {
				found.add(e.Text)
			}
		}
	}
	return found
}
