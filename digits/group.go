package digits

// A grouping has sizes of 1 and more; a first one of 0 or below: there are no groups.
type grouping struct {
	first, further, least int
}

func grouped(first, further, least int) grouping {
	if further <= 0 {
		further = first
	}
	return grouping{first, further, max(1, least)}
}

// cut answers the groups of digits, the foremost one first, as parts of the one list; without separators all digits are one group.
func (g grouping) cut(texts []string) [][]string {
	var groups [][]string
	for from := 0; from < len(texts); {
		to := g.end(from, len(texts))
		groups = append(groups, texts[from:to:to])
		from = to
	}
	return groups
}

// end answers where the group ends that begins there, of n digits.
func (g grouping) end(from, n int) int {
	switch {
	case from == 0:
		return g.foremost(n)
	case n-from > g.first:
		return from + g.further
	}
	return n
}

// foremost answers how many digits stand ahead of all separators. The sizes may be as large as an int, so they are taken off, never put together.
func (g grouping) foremost(n int) int {
	if g.first <= 0 || n-g.first < g.least {
		return n
	}
	if rest := (n - g.first) % g.further; rest > 0 {
		return rest
	}
	return g.further
}
