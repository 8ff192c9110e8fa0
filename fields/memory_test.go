package fields_test

import (
	"slices"
	"sync"
	"testing"

	"quipu/api"
	"quipu/fields"
)

// R3, R4, R5

// roomy answers the same list with room behind it, and that room, which is to stay as it is.
func roomy[T any](l []T, mark T) (list, room []T) {
	list = append(slices.Clone(l), mark, mark, mark)[: len(l) : len(l)+3]
	return list, list[:len(l)+3][len(l):]
}

func scribbleSpans(l []api.Span) {
	l = l[:cap(l)]
	for i := range l {
		l[i] = api.Span{Field: 77, From: -7, To: -77}
	}
}

func scribblePieces(l []api.Piece) {
	l = l[:cap(l)]
	for i := range l {
		l[i] = api.Piece{Text: "scribble", Field: 77}
	}
}

func TestWhatIsHandedInStays(t *testing.T) {
	r := source()
	mark, other := api.Span{Field: 5, From: 55, To: 555}, api.Piece{Text: "mark", Field: 5}
	for range 20000 {
		o, l := anyOut(r), somePieces(r)
		spans, behind := roomy(o.Spans, mark)
		list, room := roomy(l, other)
		handed := api.Out{Text: o.Text, Spans: spans}
		fields.Check(handed)
		wrapped, _ := fields.Wrap(handed, 1+r.IntN(17), r.IntN(5), r.IntN(9))
		leaves, _ := fields.Leaves(handed)
		firstOf(fields.All(handed), 3)
		built, _ := fields.Build(list)
		scribbleSpans(wrapped.Spans)
		scribbleSpans(built.Spans)
		scribblePieces(leaves)
		if handed.Text != o.Text || !slices.Equal(handed.Spans, o.Spans) || !slices.Equal(behind, []api.Span{mark, mark, mark}) {
			t.Fatalf("%s has become %s", told(o, 0), told(handed, 0))
		}
		if !slices.Equal(list, l) || !slices.Equal(room, []api.Piece{other, other, other}) {
			t.Fatalf("%s has become %s", toldPieces(l, 0), toldPieces(list, 0))
		}
	}
}

func TestWhatIsAnsweredIsItsOwners(t *testing.T) {
	r := source()
	for range 10000 {
		o, l := someOut(r), somePieces(r)
		first, _ := fields.Build(l)
		second, e := fields.Build(l)
		scribbleSpans(first.Spans)
		if got, want := told(second, e), told(buildByWords(l)); got != want {
			t.Fatalf("both answers of Build share memory: %s, not %s", got, want)
		}
		if o.Text != "" {
			n := len(o.Text)
			former, _ := fields.Wrap(o, 1, 0, n)
			latter, e := fields.Wrap(o, 1, 0, n)
			scribbleSpans(former.Spans)
			if got, want := told(latter, e), told(wrapByWords(o, 1, 0, n)); got != want {
				t.Fatalf("both answers of Wrap share memory: %s, not %s", got, want)
			}
		}
		ahead, _ := fields.Leaves(o)
		behind, e := fields.Leaves(o)
		scribblePieces(ahead)
		if got, want := toldPieces(behind, e), toldPieces(leavesByWords(o)); got != want {
			t.Fatalf("both answers of Leaves share memory: %s, not %s", got, want)
		}
	}
}

// The caller's list may change after the call, ahead of the first span and among them.
func TestAllKeepsNoListOfItsCaller(t *testing.T) {
	r := source()
	for range 10000 {
		o := anyOut(r)
		want := allByWords(o)
		l := fields.All(o)
		scribbleSpans(o.Spans)
		if got := firstOf(l, 99); !slices.Equal(got, want) {
			t.Fatalf("%v, not %v", got, want)
		}
	}
	o := number()
	var got []item
	for s, text := range fields.All(o) {
		got = append(got, item{s, text})
		scribbleSpans(o.Spans)
	}
	if !slices.Equal(got, allByWords(number())) {
		t.Error(got)
	}
}

// One that might not be at the call stays so.
func TestAllTellsByTheCallsOwnTime(t *testing.T) {
	o := out("abc", "S0-1 I0-2")
	l := fields.All(o)
	o.Spans[1].From = 1
	if got := firstOf(l, 9); len(got) != 0 || fields.Check(o) != api.OK {
		t.Error(got)
	}
}

// R3: a nil list and an empty one are the same.
func TestNilListsAreEmptyOnes(t *testing.T) {
	for _, text := range []string{"", "abc"} {
		for _, o := range []api.Out{{Text: text}, {Text: text, Spans: []api.Span{}}} {
			expectCheck(t, o, true)
			expectWrapByWords(t, o, 1, 0, 3)
			expectLeavesByWords(t, o)
			expectAllByWords(t, o)
		}
	}
	expectBuild(t, nil, ":")
	expectBuild(t, []api.Piece{}, ":")
}

// What comes before a call changes nothing in it.
func TestCallsKeepNothing(t *testing.T) {
	r := source()
	for range 5000 {
		o, l := anyOut(r), somePieces(r)
		fields.Build([]api.Piece{{Text: "1", Field: api.Integer}, {Text: ",", Field: api.Group}})
		fields.Wrap(anyOut(r), 3, 0, 1)
		fields.Leaves(anyOut(r))
		firstOf(fields.All(someOut(r)), 1)
		expectCheckByWords(t, o)
		expectBuildByWords(t, l)
		expectWrapByWords(t, o, 4, 0, len(o.Text))
		expectLeavesByWords(t, o)
		expectAllByWords(t, o)
	}
}

func TestCallsSideBySide(t *testing.T) {
	o := number()
	l := fields.All(o)
	var wait sync.WaitGroup
	for i := range 8 {
		wait.Go(func() {
			for range 200 {
				expectWrapByWords(t, o, 1+i, 0, 8)
				expectLeavesByWords(t, o)
				expectBuildByWords(t, pieces("S-|I1|G,|I234|D.|F5")[i%6:])
				if got := firstOf(l, 9); !slices.Equal(got, allByWords(o)) {
					t.Error(got)
				}
			}
		})
	}
	wait.Wait()
}
