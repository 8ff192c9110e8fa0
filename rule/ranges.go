package rule

import "quipu/api"

// entry of a ranges' text: from start to end it is of that category.
type entry struct {
	start, end, category int
}

func readEntries(text string) []entry {
	list := gather(text)
	if len(list) == 0 {
		return nil
	}
	var entries []entry
	var taken [api.Categories][api.Categories]bool
	for row := range between(list, ";") {
		next := readEntry(row)
		if taken[next.start][next.end] {
			panic(api.ErrRuleText)
		}
		taken[next.start][next.end] = true
		entries = append(entries, next)
	}
	return entries
}

func readEntry(row []string) entry {
	if len(row) != 5 || row[1] != "+" || row[3] != ":" {
		panic(api.ErrRuleText)
	}
	return entry{readCategory(row[0]), readCategory(row[2]), readCategory(row[4])}
}

func isCategory(category int) bool {
	return category >= 0 && category < api.Categories
}

func entryOf(entries []entry, start, end int) int {
	for _, e := range entries {
		if e.start == start && e.end == end {
			return e.category
		}
	}
	return end
}
