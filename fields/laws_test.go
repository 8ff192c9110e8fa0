package fields_test

import (
	"slices"
	"testing"

	"quipu/api"
	"quipu/fields"
)

// P17.5

func TestWhatBuildTellsMayBe(t *testing.T) {
	r := source()
	for range 30000 {
		l := somePieces(r)
		o, e := fields.Build(l)
		if e != api.OK || fields.Check(o) != api.OK || !mayByWords(o) {
			t.Fatalf("of %s is built %s", toldPieces(l, 0), told(o, e))
		}
	}
}

func TestWhatWrapTellsMayBe(t *testing.T) {
	r := source()
	met := 0
	for range 60000 {
		o := someOut(r)
		places := placesInOrder(o.Text)
		wrapped, e := fields.Wrap(o, 1+r.IntN(17), oneOf(r, places...), oneOf(r, places...))
		if e != api.OK {
			continue
		}
		met++
		if fields.Check(wrapped) != api.OK || !mayByWords(wrapped) {
			t.Fatalf("%s has become %s", told(o, 0), told(wrapped, e))
		}
	}
	if met < 10000 {
		t.Error("too few are wrapped:", met)
	}
}

// without: the list but for one span at a place of it.
func without(l []api.Span, i int) []api.Span { return slices.Delete(slices.Clone(l), i, i+1) }

func TestWrapChangesNothingElse(t *testing.T) {
	r := source()
	for range 30000 {
		o := someOut(r)
		places := placesInOrder(o.Text)
		s := api.Span{Field: 1 + r.IntN(17), From: oneOf(r, places...), To: oneOf(r, places...)}
		wrapped, e := fields.Wrap(o, s.Field, s.From, s.To)
		if e != api.OK {
			continue
		}
		i := slices.Index(wrapped.Spans, s)
		if wrapped.Text != o.Text || i < 0 || !slices.Equal(without(wrapped.Spans, i), o.Spans) {
			t.Fatalf("%s has become %s", told(o, 0), told(wrapped, e))
		}
	}
}

func TestLeavesAreTheText(t *testing.T) {
	r := source()
	for range 30000 {
		o := someOut(r)
		l, e := fields.Leaves(o)
		text := ""
		for _, p := range l {
			if p.Text == "" || p.Field < 0 || p.Field > 17 {
				t.Fatalf("the leaves of %s: %s", told(o, 0), toldPieces(l, e))
			}
			text += p.Text
		}
		if e != api.OK || text != o.Text {
			t.Fatalf("the leaves of %s: %s", told(o, 0), toldPieces(l, e))
		}
	}
}

// betweenLeaves: the places where one ends or begins, both ends of the text among them.
func betweenLeaves(l []api.Piece) []int {
	places := []int{0}
	for _, p := range l {
		places = append(places, places[len(places)-1]+len(p.Text))
	}
	return places
}

func TestBoundariesOfSpansAreBetweenLeaves(t *testing.T) {
	r := source()
	for range 30000 {
		o := someOut(r)
		l, e := fields.Leaves(o)
		places := betweenLeaves(l)
		told := told(o, e)
		for _, s := range o.Spans {
			if !slices.Contains(places, s.From) || !slices.Contains(places, s.To) {
				t.Fatalf("%s: leaves at %v", told, places)
			}
		}
		for _, place := range places[1:max(1, len(places)-1)] {
			if !slices.ContainsFunc(o.Spans, func(s api.Span) bool { return s.From == place || s.To == place }) {
				t.Fatalf("%s: a leaf without need at %d", told, place)
			}
		}
	}
}

// Build's spans tell each byte of a piece that is no Literal in its field: the leaves are the pieces, but for those of Literal or of Integer that stand beside one another.
func TestLeavesOfWhatIsBuiltAreThePieces(t *testing.T) {
	r := source()
	for range 30000 {
		l := somePieces(r)
		o, e := fields.Build(l)
		leaves, _ := fields.Leaves(o)
		if e != api.OK || !slices.Equal(byByte(leaves), byByte(l)) || !slices.Equal(leaves, joinedAlike(l)) {
			t.Fatalf("of %s is built %s, with the leaves %s", toldPieces(l, 0), told(o, e), toldPieces(leaves, 0))
		}
	}
}

func byByte(l []api.Piece) []api.Piece {
	var all []api.Piece
	for _, p := range l {
		for i := range len(p.Text) {
			all = append(all, api.Piece{Text: p.Text[i : i+1], Field: p.Field})
		}
	}
	return all
}

func joinedAlike(l []api.Piece) []api.Piece {
	var all []api.Piece
	for _, p := range l {
		last := len(all) - 1
		switch {
		case p.Text == "":
		case last >= 0 && all[last].Field == p.Field && (p.Field == api.Literal || p.Field == api.Integer):
			all[last].Text += p.Text
		default:
			all = append(all, p)
		}
	}
	return all
}

// What the leaves are built into has the same leaves, but for their spans' nesting.
func TestLeavesBuiltAgain(t *testing.T) {
	r := source()
	for range 20000 {
		l, e := fields.Leaves(someOut(r))
		if e != api.OK {
			t.Fatal(e)
		}
		o, e := fields.Build(l)
		again, _ := fields.Leaves(o)
		if e != api.OK || !slices.Equal(again, joinedAlike(l)) {
			t.Fatalf("%s, built again: %s", toldPieces(l, 0), toldPieces(again, e))
		}
	}
}

// To wrap in one span and then another is the same the other way round, but for spans of one place.
func TestWrapInAnyOrder(t *testing.T) {
	r := source()
	met := 0
	for range 60000 {
		o := someOut(r)
		places := placesInOrder(o.Text)
		a, b, c, d := oneOf(r, places...), oneOf(r, places...), oneOf(r, places...), oneOf(r, places...)
		if a == c && b == d {
			continue
		}
		first, e := fields.Wrap(o, 16, a, b)
		first, f := fields.Wrap(first, 17, c, d)
		second, g := fields.Wrap(o, 17, c, d)
		second, h := fields.Wrap(second, 16, a, b)
		if e+f+g+h == api.OK {
			met++
			if told(first, 0) != told(second, 0) {
				t.Fatalf("%s in %d-%d and %d-%d: %s, or %s", told(o, 0), a, b, c, d, told(first, 0), told(second, 0))
			}
		}
	}
	if met < 2000 {
		t.Error("too few are wrapped twice:", met)
	}
}

func TestManySpans(t *testing.T) {
	const most = 1 << 16
	nested, flat := api.Out{Text: repeat("a", 2*most)}, api.Out{Text: repeat("a", 2*most)}
	for i := range most {
		nested.Spans = append(nested.Spans, api.Span{Field: 1 + i%17, From: i, To: 2*most - i})
		flat.Spans = append(flat.Spans, api.Span{Field: 1 + i%17, From: 2 * i, To: 2*i + 1})
	}
	for i, o := range []api.Out{nested, flat} {
		l, e := fields.Leaves(o)
		if want := 2*most - 1 + i; e != api.OK || len(l) != want {
			t.Errorf("%d leaves, not %d", len(l), want)
		}
		wrapped, e := fields.Wrap(o, 17, most, most+1)
		if e != api.OK || len(wrapped.Spans) != most+1 || fields.Check(wrapped) != api.OK {
			t.Error("not wrapped:", e)
		}
		if n := len(all(wrapped)); n != most+1 {
			t.Error("not all:", n)
		}
		last := o.Spans[most-1]
		o.Spans[most-1].From = o.Spans[0].From
		if e := fields.Check(o); e != api.ErrFieldsForm {
			t.Error("out of order:", e)
		}
		o.Spans[most-1] = last
	}
}
