package dedup_test

import (
	"slices"
	"testing"

	"quickset/api"
	"quickset/dedup"
)

// A model of the document's words by another hand than the program's: of each one who asked, below which id all is Gone, and the Kind of each answer that is kept.
type model map[int]known

type known struct {
	below int
	kinds map[int]int
}

// said is the answer of a Kind, which tells it from all others.
func said(kind int) api.Msg {
	return api.Msg{Kind: kind, Args: []int{kind, 1}, Data: []byte{byte(kind)}}
}

func (m model) clone() model {
	out := model{}
	for from, k := range m {
		kinds := map[int]int{}
		for id, kind := range k.kinds {
			kinds[id] = kind
		}
		out[from] = known{k.below, kinds}
	}
	return out
}

// list is the list that there should be.
func (m model) list() []api.Seen {
	var l []api.Seen
	for from, k := range m {
		s := api.Seen{From: from, Below: k.below}
		for id, kind := range k.kinds {
			s.L = append(s.L, api.Said{Id: id, M: said(kind)})
		}
		slices.SortFunc(s.L, func(a, b api.Said) int { return a.Id - b.Id })
		l = append(l, s)
	}
	slices.SortFunc(l, func(a, b api.Seen) int { return a.From - b.From })
	return l
}

func (m model) ask(from, id int) (kind, is int) {
	k := m[from]
	kind, old := k.kinds[id]
	switch {
	case id < 0, id < k.below:
		return 0, dedup.Gone
	case old:
		return kind, dedup.Old
	}
	return 0, dedup.New
}

// done is the model behind an answer, and what is told.
func (m model) done(from, id, kind int) (model, api.Errno) {
	_, is := m.ask(from, id)
	switch {
	case from < 0, id < 0:
		return m, api.ErrArg
	case is == dedup.Gone:
		return m, api.ErrStale
	case is == dedup.Old:
		return m, api.ErrHeld
	}
	out := m.clone()
	k := out[from]
	if k.kinds == nil {
		k.kinds = map[int]int{}
	}
	k.kinds[id] = kind
	if len(k.kinds) == 9 {
		least := id
		for x := range k.kinds {
			least = min(least, x)
		}
		delete(k.kinds, least)
		k.below = least + 1
	}
	out[from] = k
	return out, api.OK
}

func (m model) forget(from ...int) model {
	out := m.clone()
	for _, x := range from {
		delete(out, x)
	}
	return out
}

// wantTold holds what is told of a list against the model, of names and ids up to these.
func wantTold(t *testing.T, l []api.Seen, m model, names, ids int) {
	t.Helper()
	want := m.list()
	if text(l) != text(want) || !dedup.Same(l, want) || dedup.Check(l) != api.OK {
		t.Fatalf("got %v, want %v", l, want)
	}
	for from := -1; from < names; from++ {
		for id := -1; id < ids; id++ {
			kind, is := m.ask(from, id)
			answer := api.Msg{}
			if is == dedup.Old {
				answer = said(kind)
			}
			if got, state := dedup.Ask(l, from, id); text(got) != text(answer) || state != is {
				t.Fatalf("%v, %d of %d: got %v, %d, want %v, %d", l, id, from, got, state, answer, is)
			}
		}
	}
}

// wantDone holds a Done against the model, and tells what is known behind it: what was ahead of it, where it came to an error.
func wantDone(t *testing.T, l []api.Seen, m model, from, id, kind int) ([]api.Seen, model) {
	t.Helper()
	got, e := dedup.Done(l, from, id, said(kind))
	want, wantE := m.done(from, id, kind)
	if e != wantE {
		t.Fatalf("%v, %d of %d: got %d, want %d", l, id, from, e, wantE)
	}
	if e != api.OK {
		wantError(t, l, got, e, wantE)
		return l, m
	}
	return got, want
}

// walkAll goes all ways of so many steps from there on: of two names, and ids below that.
func walkAll(t *testing.T, l []api.Seen, m model, steps, ids int) {
	t.Helper()
	wantTold(t, l, m, 3, ids)
	if steps == 0 {
		return
	}
	for from := -1; from < 2; from++ {
		for id := -1; id < ids; id++ {
			got, want := wantDone(t, l, m, from, id, 10*steps+id)
			if text(want) != text(m) {
				walkAll(t, got, want, steps-1, ids)
			}
		}
		want := m.forget(from)
		got := dedup.Forget(l, from)
		if len(want) < len(m) {
			walkAll(t, got, want, steps-1, ids)
		} else if text(got) != text(l) {
			t.Fatalf("Forget of %d of %v: got %v", from, l, got)
		}
	}
}

func TestAllShortWays(t *testing.T) {
	walkAll(t, nil, model{}, 4, 3)
	for _, first := range [][]int{{1, 2, 3, 4, 5, 6, 8, 9}, {2, 4, 5, 6, 7, 8, 9}, {0, 2, 3, 4, 6, 7, 8, 9}} {
		var l []api.Seen
		m := model{}
		for i, id := range first {
			l, m = wantDone(t, l, m, 1, id, 100+i)
		}
		walkAll(t, l, m, 3, 11)
	}
}

// numbers makes a row that is always the same.
func numbers(row uint64) func(n int) int {
	return func(n int) int {
		row = row*6364136223846793005 + 1442695040888963407
		return int(row>>33) % n
	}
}

func TestLongWays(t *testing.T) {
	for row, names := range []int{1, 2, 3, 6} {
		next := numbers(uint64(14 + row))
		var l []api.Seen
		m := model{}
		w := witness{}
		many := [3]int{}
		for i := range 4000 {
			if next(200) == 0 {
				gone := []int{next(names), next(names + 1)}
				l, m = dedup.Forget(l, gone...), m.forget(gone...)
				w.forget(gone...)
			}
			from, id := next(names+1)-next(2), i/(16*names)+next(14)-next(3)
			_, is := dedup.Ask(l, from, id)
			many[is]++
			l, m = wantDone(t, l, m, from, id, i)
			w.see(t, l, names, 4000/(16*names)+14)
			if i%20 == 0 {
				wantTold(t, l, m, names+1, 4000/(16*names)+14)
			}
		}
		if slices.Min(many[:]) < 100 {
			t.Errorf("of %d names: New, Old, Gone were met %v times", names, many)
		}
	}
}

// A witness holds P14.4 against what is told alone: what each request was when it was asked last, and its answer.
type witness map[[2]int]told

type told struct {
	is   int
	text string
}

func (w witness) forget(from ...int) {
	for at := range w {
		if slices.Contains(from, at[0]) {
			delete(w, at)
		}
	}
}

// see asks for all: what is Old keeps its answer until it is Gone, what is Gone stays so, and nothing is New again.
func (w witness) see(t *testing.T, l []api.Seen, names, ids int) {
	t.Helper()
	for from := range names + 1 {
		for id := range ids {
			m, is := dedup.Ask(l, from, id)
			at, now := [2]int{from, id}, told{is: is}
			if is == dedup.Old {
				now.text = text(m)
			}
			ahead := w[at] // New, if it was never asked for
			if now.is < ahead.is || now.is == ahead.is && now.text != ahead.text {
				t.Fatalf("%v: it was %v, and is %v", at, ahead, now)
			}
			w[at] = now
		}
	}
}
