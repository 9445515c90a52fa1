package span_test

import (
	"slices"
	"testing"

	"quickset/api"
	"quickset/span"
)

// whose is a block's owner and epoch.
type whose struct{ owner, epoch int }

// A model of the document's words by another hand than the program's: each block by itself, and whether it is cut off from the one ahead of it.
type model struct {
	of  []whose
	cut []bool
}

// modelOf reads spans block by block.
func modelOf(l []api.Span) model {
	m := model{}
	for _, s := range l {
		for lba := s.From; lba < s.To; lba++ {
			m.of = append(m.of, whose{s.Owner, s.Epoch})
			m.cut = append(m.cut, lba == s.From)
		}
	}
	return m
}

// spans is the model as the program would tell it, from a block on up to another one.
func (m model) spans(from, to int) []api.Span {
	var l []api.Span
	for lba := from; lba < to; lba++ {
		if lba == from || m.cut[lba] {
			l = append(l, api.Span{From: lba, Owner: m.of[lba].owner, Epoch: m.of[lba].epoch})
		}
		l[len(l)-1].To = lba + 1
	}
	return l
}

func (m model) all() []api.Span { return m.spans(0, len(m.of)) }

// joined is the model with no more cuts than where owner or epoch change.
func (m model) joined() model {
	j := model{slices.Clone(m.of), make([]bool, len(m.of))}
	for lba := range j.of {
		j.cut[lba] = lba == 0 || j.of[lba] != j.of[lba-1]
	}
	return j
}

func (m model) give(from, to int, w whose) (model, api.Errno) {
	none := w == whose{-1, 0}
	if from < 0 || to > len(m.of) || from >= to || !none && (w.owner < 0 || w.owner > 7 || w.epoch < 1) {
		return model{}, api.ErrArg
	}
	g := model{slices.Clone(m.of), m.cut}
	for lba := from; lba < to; lba++ {
		if m.of[lba].owner >= 0 && m.of[lba].epoch >= w.epoch && !none {
			return model{}, api.ErrStale
		}
		g.of[lba] = w
	}
	return g.joined(), api.OK
}

func (m model) take(owner int) (model, []api.Span, api.Errno) {
	if owner < 0 || owner > 7 {
		return model{}, nil, api.ErrArg
	}
	var were []api.Span
	for _, s := range m.all() {
		if s.Owner == owner {
			were = append(were, s)
		}
	}
	k := model{slices.Clone(m.of), m.cut}
	for lba := range k.of {
		if k.of[lba].owner == owner {
			k.of[lba] = whose{-1, 0}
		}
	}
	return k.joined(), were, api.OK
}

func (m model) cutAt(at []int) (model, api.Errno) {
	c := model{m.of, slices.Clone(m.cut)}
	for _, place := range at {
		if place <= 0 || place >= len(m.of) {
			return model{}, api.ErrArg
		}
		c.cut[place] = true
	}
	return c, api.OK
}

// wantSame holds what the program told against what the model tells, and answers the error.
func wantSame(t *testing.T, what any, got []api.Span, e api.Errno, want model, wantE api.Errno) {
	t.Helper()
	if !slices.Equal(got, want.all()) || e != wantE {
		t.Fatalf("%v: got %v, %d, want %v, %d", what, got, e, want.all(), wantE)
	}
	if e == api.OK && span.Check(got) != api.OK {
		t.Fatalf("%v: %v may not be", what, got)
	}
}

// wantTold looks what the calls that tell of spans say of them, P7.4's first promise among it.
func wantTold(t *testing.T, l []api.Span, m model) {
	t.Helper()
	n := len(m.of)
	for lba := -1; lba <= n; lba++ {
		s, e := span.Find(l, lba)
		if lba < 0 || lba >= n {
			if s != (api.Span{}) || e != api.ErrArg {
				t.Fatalf("Find %d of %v: got %v, %d", lba, l, s, e)
			}
			continue
		}
		has := func(s api.Span) bool { return s.From <= lba && lba < s.To }
		i := slices.IndexFunc(l, has)
		if i < 0 || slices.ContainsFunc(l[i+1:], has) || s != l[i] || e != api.OK || m.of[lba] != (whose{s.Owner, s.Epoch}) {
			t.Fatalf("Find %d of %v: got %v, %d", lba, l, s, e)
		}
	}
	for owner := -2; owner < 9; owner++ {
		want := 0
		for _, w := range m.of {
			if w.owner == owner {
				want++
			}
		}
		if got := span.Owned(l, owner); got != want {
			t.Fatalf("Owned %d of %v: got %d, want %d", owner, l, got, want)
		}
	}
	for from := -1; from <= n; from++ {
		for to := -1; to <= n+1; to++ {
			p, e := span.Parts(l, from, to)
			if from < 0 || from >= to || to > n {
				wantError(t, l, p, e, api.ErrArg)
			} else if !slices.Equal(p, m.spans(from, to)) || e != api.OK {
				t.Fatalf("Parts %d, %d of %v: got %v, %d", from, to, l, p, e)
			}
		}
	}
}

// wantGive gives by both; P7.4: what is given changes no other block's owner.
func wantGive(t *testing.T, l []api.Span, m model, from, to int, w whose) ([]api.Span, model, api.Errno) {
	t.Helper()
	got, e := span.Give(l, from, to, w.owner, w.epoch)
	g, wantE := m.give(from, to, w)
	wantSame(t, []any{"Give", l, from, to, w}, got, e, g, wantE)
	if e != api.OK {
		return l, m, e
	}
	for lba, is := range modelOf(got).of {
		within := from <= lba && lba < to
		if !within && is != m.of[lba] || within && is != w {
			t.Fatalf("Give %d, %d, %v of %v: got %v", from, to, w, l, got)
		}
	}
	return got, g, e
}

func wantTake(t *testing.T, l []api.Span, m model, owner int) ([]api.Span, model, api.Errno) {
	t.Helper()
	got, were, e := span.Take(l, owner)
	k, wantWere, wantE := m.take(owner)
	wantSame(t, []any{"Take", l, owner}, got, e, k, wantE)
	if !slices.Equal(were, wantWere) {
		t.Fatalf("Take %d of %v: got %v, want %v", owner, l, were, wantWere)
	}
	if e != api.OK {
		return l, m, e
	}
	return got, k, e
}

// wantCut cuts by both; P7.4: cut and joined, it is the same whose blocks are whose.
func wantCut(t *testing.T, l []api.Span, m model, at ...int) ([]api.Span, model, api.Errno) {
	t.Helper()
	got, e := span.Cut(l, at...)
	c, wantE := m.cutAt(at)
	wantSame(t, []any{"Cut", l, at}, got, e, c, wantE)
	if e != api.OK {
		return l, m, e
	}
	for _, place := range at {
		if slices.ContainsFunc(got, func(s api.Span) bool { return s.From < place && place < s.To }) {
			t.Fatalf("Cut %v of %v: got %v", at, l, got)
		}
	}
	j, e := span.Join(got)
	wantSame(t, []any{"Join", got}, j, e, m.joined(), api.OK)
	if !slices.Equal(modelOf(j).of, m.of) {
		t.Fatalf("Join of %v: got %v", got, j)
	}
	return got, c, e
}

// All volumes of five blocks, each no one's or one of three owners' and epochs', cut wherever that can be: whatever is done to them.
func TestAllSmallOnes(t *testing.T) {
	kinds := []whose{{-1, 0}, {0, 1}, {0, 2}, {1, 1}}
	const n = 5
	for code := range 1 << (2 * n) {
		m := model{}
		for lba := range n {
			m.of = append(m.of, kinds[code>>(2*lba)&3])
		}
		m = m.joined()
		wantAll(t, m)
		for lba := 1; lba < n; lba++ {
			if !m.cut[lba] {
				c, _ := m.cutAt([]int{lba})
				wantAll(t, c)
			}
		}
	}
}

func wantAll(t *testing.T, m model) {
	t.Helper()
	l, n := m.all(), len(m.of)
	wantTold(t, l, m)
	j, e := span.Join(l)
	wantSame(t, l, j, e, m.joined(), api.OK)
	for from := range n {
		for to := from + 1; to <= n; to++ {
			for _, w := range []whose{{-1, 0}, {0, 1}, {0, 2}, {1, 2}, {7, 3}} {
				wantGive(t, l, m, from, to, w)
			}
		}
	}
	for owner := range 3 {
		wantTake(t, l, m, owner)
	}
	for place := range n + 1 {
		wantCut(t, l, m, place)
		wantCut(t, l, m, place, n-1, place)
	}
}

// cameTo is which step came to which error.
type cameTo struct {
	do string
	e  api.Errno
}

// Long ways, whose steps a row of numbers tells that is always the same.
func TestLongWay(t *testing.T) {
	row := uint64(1)
	next := func(n int) int {
		row = row*6364136223846793005 + 1442695040888963407
		return int(row>>33) % n
	}
	l, _ := span.New(24)
	m := modelOf(l)
	done := map[cameTo]int{}
	epoch := 1
	for i := range 12000 {
		before := slices.Clone(l)
		handed, do, e := l, "", api.OK
		switch next(6) {
		case 0, 1, 2:
			w := whose{next(10) - 1, epoch + next(3) - 1}
			if next(4) == 0 {
				w = whose{-1, 0}
			}
			from := next(27) - 1
			do = "Give"
			l, m, e = wantGive(t, l, m, from, from+next(6), w)
			epoch += next(2)
		case 3:
			do = "Take"
			l, m, e = wantTake(t, l, m, next(10)-1)
		case 4:
			do = "Cut"
			l, m, e = wantCut(t, l, m, next(26), next(24), next(24))
		case 5:
			do = "Join"
			var j []api.Span
			j, e = span.Join(l)
			m = m.joined()
			wantSame(t, l, j, e, m, api.OK)
			l = j
		}
		if !slices.Equal(handed, before) {
			t.Fatalf("%s changed %v to %v", do, before, handed)
		}
		done[cameTo{do, e}]++
		if i%8 == 0 {
			wantTold(t, l, m)
		}
	}
	for _, c := range []cameTo{
		{"Give", api.OK}, {"Give", api.ErrArg}, {"Give", api.ErrStale},
		{"Take", api.OK}, {"Take", api.ErrArg},
		{"Cut", api.OK}, {"Cut", api.ErrArg},
		{"Join", api.OK},
	} {
		if done[c] < 50 {
			t.Errorf("%s came to %d only %d times", c.do, c.e, done[c])
		}
	}
}

// Many spans: a great volume, cut at very many places, and joined again.
func TestManySpans(t *testing.T) {
	const n = 200000
	l, _ := span.New(most)
	at := make([]int, n)
	for i := range at {
		at[i] = (n - i) * 1000
	}
	c, e := span.Cut(l, at...)
	if len(c) != n+1 || c[0].To != 1000 || c[n].From != n*1000 || e != api.OK {
		t.Fatalf("got %d spans, %d", len(c), e)
	}
	for i := range c {
		c[i].Owner, c[i].Epoch = i%8, 1+i%3
	}
	if s, e := span.Find(c, 123456789); s != c[123456] || e != api.OK {
		t.Errorf("got %v, %d", s, e)
	}
	left, were, e := span.Take(c, 3)
	if len(were) != 25000 || len(left) != n+1 || span.Owned(left, -1) != 25000*1000 || e != api.OK {
		t.Errorf("got %d, %d, %d", len(were), len(left), e)
	}
	g, e := span.Give(c, 0, most, 1, 4)
	wantSpans(t, "Give of all", g, e, spans([4]int{0, most, 1, 4}))
}
