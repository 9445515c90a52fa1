package dedup_test

import (
	"fmt"
	"math"
	"slices"
	"testing"

	"quickset/api"
	"quickset/dedup"
)

// reply is an answer, told from all others by whose it is and to which request, with numbers and bytes of its own.
func reply(from, id int) api.Msg {
	return api.Msg{Kind: api.RepM, From: 3, To: from, Id: id, Args: []int{from, id}, Data: []byte{byte(from), byte(id)}}
}

// seen is what is known of one who asked: the replies to these ids.
func seen(from, below int, ids ...int) api.Seen {
	s := api.Seen{From: from, Below: below}
	for _, id := range ids {
		s.L = append(s.L, api.Said{Id: id, M: reply(from, id)})
	}
	return s
}

func list(l ...api.Seen) []api.Seen { return l }

// three is a list that may be: one has all the answers that are kept, one has none.
func three() []api.Seen {
	return list(seen(1, 4, 4, 5, 7, 8, 9, 12, 13, 20), seen(2, 6), seen(5, 0, 3, 6))
}

// text tells all of a list; a list without elements is the same, nil or empty.
func text(l any) string { return fmt.Sprint(l) }

func wantList(t *testing.T, what any, got []api.Seen, e api.Errno, want []api.Seen) {
	t.Helper()
	if text(got) != text(want) || e != api.OK {
		t.Errorf("%v: got %v, %d, want %v", what, got, e, want)
	}
}

func wantError(t *testing.T, what any, got []api.Seen, e, want api.Errno) {
	t.Helper()
	if len(got) != 0 || e != want {
		t.Errorf("%v: got %v, %d, want %d", what, got, e, want)
	}
}

// wantAsk wants a request to be so, and its reply if it is Old.
func wantAsk(t *testing.T, l []api.Seen, from, id, want int) {
	t.Helper()
	m := api.Msg{}
	if want == dedup.Old {
		m = reply(from, id)
	}
	if got, is := dedup.Ask(l, from, id); text(got) != text(m) || is != want {
		t.Errorf("%d of %d: got %v, %d, want %v, %d", id, from, got, is, m, want)
	}
}

// badLists are those that may not be, each by one thing alone.
func badLists() [][]api.Seen {
	l := [][]api.Seen{
		list(seen(-1, 0)),
		list(seen(math.MinInt, 0, 3)),
		list(seen(-1, 0), seen(0, 0)),
		list(seen(0, 0), seen(0, 0)),
		list(seen(1, 0, 3), seen(1, 4, 5)),
		list(seen(2, 0), seen(1, 0)),
		list(seen(0, 0), seen(1, 0), seen(1, 0)),
		list(seen(0, 0), seen(2, 0), seen(1, 0)),
		list(seen(1, 0), seen(2, 0), seen(1, 0)),
		list(seen(math.MaxInt, 0), seen(0, 0)),
		list(seen(math.MaxInt, 0), seen(math.MinInt, 0)),
		list(seen(0, 0), seen(math.MaxInt, 0), seen(math.MaxInt, 0)),
	}
	for _, bad := range []api.Seen{
		seen(0, -1),
		seen(0, -1, 5),
		seen(0, math.MinInt),
		seen(0, 0, -1),
		seen(0, 0, -1, 0, 1),
		seen(0, 0, math.MinInt, 1),
		seen(0, 5, 4),
		seen(0, 5, 4, 5, 6),
		seen(0, math.MaxInt, math.MaxInt-1),
		seen(0, 0, 4, 4),
		seen(0, 0, 4, 5, 5),
		seen(0, 0, 5, 4),
		seen(0, 0, 3, 5, 4),
		seen(0, 0, 3, 5, 3),
		seen(0, 0, math.MaxInt, 0),
		seen(0, 0, math.MaxInt, math.MaxInt),
		seen(0, 0, math.MaxInt, math.MinInt),
		seen(0, 0, 0, 1, 2, 3, 4, 5, 6, 7, 8),
		seen(0, 3, 10, 11, 12, 13, 14, 15, 16, 17, 18, 19, 20),
	} {
		for i := range 3 {
			x := list(seen(0, 0, 3), seen(1, 2, 3), seen(2, 0))
			x[i].Below, x[i].L = bad.Below, bad.L
			l = append(l, x)
		}
		l = append(l, list(bad))
	}
	return l
}

// P14.1

func TestCheck(t *testing.T) {
	for _, l := range [][]api.Seen{
		nil,
		{},
		list(seen(0, 0)),
		list(seen(0, 0, 0)),
		list(seen(math.MaxInt, math.MaxInt, math.MaxInt)),
		list(seen(0, 0), seen(1, 0), seen(math.MaxInt, 0)),
		list(seen(4, 7, 7)),
		list(seen(4, 7, 8, math.MaxInt)),
		list(seen(4, 0, 0, 1, 2, 3, 4, 5, 6, 7)),
		list(seen(4, 9, 9, 10, 12, 13, 24, 35, 46, 57), seen(5, 2, 2), seen(6, 1, 1)),                          // neither Below nor Id rise from one to the next
		list(api.Seen{L: []api.Said{{M: api.Msg{Kind: -1, From: -2, To: -3, Id: -4, Args: make([]int, 99)}}}}), // what an answer is does not count
		three(),
	} {
		if e := dedup.Check(l); e != api.OK {
			t.Errorf("%v: got %d", l, e)
		}
	}
	for _, l := range badLists() {
		if e := dedup.Check(l); e != api.ErrArg {
			t.Errorf("%v: got %d, want ErrArg", l, e)
		}
	}
}

// Of a list that may not be nothing is told, also of those in it of whom all is well.
func TestListsThatMayNotBe(t *testing.T) {
	for _, l := range badLists() {
		for _, from := range []int{-1, 0, 1, 2, 3, 9, math.MaxInt, math.MinInt} {
			for _, id := range []int{-1, 0, 1, 3, 4, 5, 21, math.MaxInt, math.MinInt} {
				if m, is := dedup.Ask(l, from, id); text(m) != text(api.Msg{}) || is != dedup.Gone {
					t.Errorf("Ask of %v: got %v, %d", l, m, is)
				}
				got, e := dedup.Done(l, from, id, reply(from, id))
				wantError(t, l, got, e, api.ErrArg)
			}
			if got := dedup.Forget(l, from); len(got) != 0 {
				t.Errorf("Forget of %v: got %v", l, got)
			}
		}
		if got := dedup.Forget(l); len(got) != 0 {
			t.Errorf("Forget of %v: got %v", l, got)
		}
	}
}

func TestStates(t *testing.T) {
	if got := []int{dedup.New, dedup.Old, dedup.Gone}; !slices.Equal(got, []int{0, 1, 2}) {
		t.Errorf("got %v", got)
	}
}

func TestAsk(t *testing.T) {
	l := three()
	for _, s := range l {
		answered := map[int]bool{}
		for _, a := range s.L {
			answered[a.Id] = true
		}
		for id := -2; id < 25; id++ {
			switch {
			case id < s.Below:
				wantAsk(t, l, s.From, id, dedup.Gone)
			case answered[id]:
				wantAsk(t, l, s.From, id, dedup.Old)
			default:
				wantAsk(t, l, s.From, id, dedup.New)
			}
		}
		wantAsk(t, l, s.From, math.MinInt, dedup.Gone)
		wantAsk(t, l, s.From, math.MaxInt, dedup.New)
	}
}

func TestAskOfThoseOfWhomNothingIsKnown(t *testing.T) {
	for _, l := range [][]api.Seen{nil, {}, three(), list(seen(4, 9, 9))} {
		for _, from := range []int{math.MinInt, -1, 0, 3, 6, 7, math.MaxInt} {
			for _, id := range []int{0, 1, 4, 9, math.MaxInt} {
				wantAsk(t, l, from, id, dedup.New)
			}
			for _, id := range []int{-1, -9, math.MinInt} {
				wantAsk(t, l, from, id, dedup.Gone)
			}
		}
	}
}

func TestAskAtTheEnds(t *testing.T) {
	l := list(seen(0, 0, 0), seen(math.MaxInt, math.MaxInt, math.MaxInt))
	wantAsk(t, l, 0, 0, dedup.Old)
	wantAsk(t, l, 0, 1, dedup.New)
	wantAsk(t, l, math.MaxInt, math.MaxInt, dedup.Old)
	wantAsk(t, l, math.MaxInt, math.MaxInt-1, dedup.Gone)
	wantAsk(t, list(seen(3, math.MaxInt)), 3, math.MaxInt, dedup.New)
}

// An answer that is all zero is one too.
func TestAskOfAnAnswerOfZeros(t *testing.T) {
	l, e := dedup.Done(nil, 0, 0, api.Msg{})
	wantList(t, "Done", l, e, list(api.Seen{L: []api.Said{{}}}))
	if m, is := dedup.Ask(l, 0, 0); text(m) != text(api.Msg{}) || is != dedup.Old {
		t.Errorf("got %v, %d", m, is)
	}
}

// changes are those of a list by one thing alone.
func changes() map[string]func(l []api.Seen) []api.Seen {
	return map[string]func(l []api.Seen) []api.Seen{
		"From":           func(l []api.Seen) []api.Seen { l[2].From++; return l },
		"Below":          func(l []api.Seen) []api.Seen { l[1].Below++; return l },
		"Id":             func(l []api.Seen) []api.Seen { l[0].L[7].Id++; return l },
		"Kind":           func(l []api.Seen) []api.Seen { l[2].L[1].M.Kind++; return l },
		"M.From":         func(l []api.Seen) []api.Seen { l[2].L[1].M.From++; return l },
		"M.To":           func(l []api.Seen) []api.Seen { l[2].L[1].M.To++; return l },
		"M.Id":           func(l []api.Seen) []api.Seen { l[2].L[1].M.Id++; return l },
		"a number":       func(l []api.Seen) []api.Seen { l[2].L[1].M.Args[1]++; return l },
		"a number more":  func(l []api.Seen) []api.Seen { l[2].L[1].M.Args = append(l[2].L[1].M.Args, 0); return l },
		"a number less":  func(l []api.Seen) []api.Seen { l[2].L[1].M.Args = l[2].L[1].M.Args[:1]; return l },
		"a byte":         func(l []api.Seen) []api.Seen { l[2].L[1].M.Data[0]++; return l },
		"a byte more":    func(l []api.Seen) []api.Seen { l[2].L[1].M.Data = append(l[2].L[1].M.Data, 0); return l },
		"no bytes":       func(l []api.Seen) []api.Seen { l[2].L[1].M.Data = nil; return l },
		"an answer more": func(l []api.Seen) []api.Seen { l[1].L = append(l[1].L, api.Said{}); return l },
		"an answer less": func(l []api.Seen) []api.Seen { l[2].L = l[2].L[:1]; return l },
		"no answers":     func(l []api.Seen) []api.Seen { l[2].L = nil; return l },
		"one more":       func(l []api.Seen) []api.Seen { return append(l, seen(9, 0)) },
		"one less":       func(l []api.Seen) []api.Seen { return l[:2] },
		"none":           func(l []api.Seen) []api.Seen { return nil },
		"in turn":        func(l []api.Seen) []api.Seen { l[0], l[1] = l[1], l[0]; return l },
	}
}

func TestSame(t *testing.T) {
	for name, change := range changes() {
		if dedup.Same(three(), change(three())) || dedup.Same(change(three()), three()) {
			t.Errorf("%s: got the same", name)
		}
		if !dedup.Same(change(three()), change(three())) {
			t.Errorf("%s: got another", name)
		}
	}
	full, bare := list(api.Seen{From: 1, L: []api.Said{}}), list(api.Seen{From: 1})
	if !dedup.Same(nil, []api.Seen{}) || !dedup.Same([]api.Seen{}, nil) || !dedup.Same(nil, nil) || !dedup.Same(full, bare) || !dedup.Same(bare, full) {
		t.Errorf("nil and empty: got another")
	}
	full, bare = list(api.Seen{L: []api.Said{{M: api.Msg{Args: []int{}, Data: []byte{}}}}}), list(api.Seen{L: []api.Said{{}}})
	if !dedup.Same(full, bare) || !dedup.Same(bare, full) {
		t.Errorf("nil and empty in an answer: got another")
	}
	l := badLists()
	for i, x := range l { // also of lists that may not be
		for j, y := range l {
			if got, want := dedup.Same(x, y), text(x) == text(y); got != want {
				t.Errorf("%d, %d: got %v", i, j, got)
			}
		}
	}
}

// P14.2

func TestDone(t *testing.T) {
	for _, c := range []struct {
		l        []api.Seen
		from, id int
		want     []api.Seen
	}{
		{nil, 0, 0, list(seen(0, 0, 0))},
		{nil, 7, 5, list(seen(7, 0, 5))},
		{nil, math.MaxInt, math.MaxInt, list(seen(math.MaxInt, 0, math.MaxInt))},
		{list(seen(3, 0, 5)), 3, 6, list(seen(3, 0, 5, 6))},
		{list(seen(3, 0, 5)), 3, 4, list(seen(3, 0, 4, 5))},
		{list(seen(3, 0, 5, 9)), 3, 7, list(seen(3, 0, 5, 7, 9))},
		{list(seen(3, 2, 5, 9)), 3, 2, list(seen(3, 2, 2, 5, 9))}, // Below itself is not below
		{list(seen(3, 2)), 3, 2, list(seen(3, 2, 2))},
		{list(seen(3, 2, 5)), 1, 0, list(seen(1, 0, 0), seen(3, 2, 5))}, // of another one Below is 0
		{list(seen(3, 2, 5)), 4, 5, list(seen(3, 2, 5), seen(4, 0, 5))},
		{list(seen(3, 2, 5), seen(6, 1)), 4, 1, list(seen(3, 2, 5), seen(4, 0, 1), seen(6, 1))},
		{list(seen(3, 2, 5), seen(6, 1)), 6, 1, list(seen(3, 2, 5), seen(6, 1, 1))},
	} {
		got, e := dedup.Done(c.l, c.from, c.id, reply(c.from, c.id))
		wantList(t, c, got, e, c.want)
		if dedup.Check(got) != api.OK {
			t.Errorf("%v may not be", got)
		}
	}
}

// With the ninth answer the one of the least Id is no more, and all up to it is Gone.
func TestDoneOfMoreThanAreKept(t *testing.T) {
	for _, c := range []struct {
		s    api.Seen
		id   int
		want api.Seen
	}{
		{seen(3, 0, 0, 1, 2, 3, 4, 5, 6), 7, seen(3, 0, 0, 1, 2, 3, 4, 5, 6, 7)}, // the eighth
		{seen(3, 0, 0, 1, 2, 3, 4, 5, 6, 7), 8, seen(3, 1, 1, 2, 3, 4, 5, 6, 7, 8)},
		{seen(3, 0, 4, 5, 7, 8, 9, 12, 13, 20), 21, seen(3, 5, 5, 7, 8, 9, 12, 13, 20, 21)},
		{seen(3, 0, 4, 9, 10, 11, 12, 13, 14, 20), 15, seen(3, 5, 9, 10, 11, 12, 13, 14, 15, 20)}, // Below is behind the one that went, not the next one's
		{seen(3, 0, 4, 9, 10, 11, 12, 13, 14, 20), 5, seen(3, 5, 5, 9, 10, 11, 12, 13, 14, 20)},
		{seen(3, 0, 4, 9, 10, 11, 12, 13, 14, 20), math.MaxInt, seen(3, 5, 9, 10, 11, 12, 13, 14, 20, math.MaxInt)},
		// The least one may be the one that came.
		{seen(3, 0, 4, 9, 10, 11, 12, 13, 14, 20), 3, seen(3, 4, 4, 9, 10, 11, 12, 13, 14, 20)},
		{seen(3, 0, 4, 9, 10, 11, 12, 13, 14, 20), 0, seen(3, 1, 4, 9, 10, 11, 12, 13, 14, 20)},
		{seen(3, 2, 4, 9, 10, 11, 12, 13, 14, 20), 2, seen(3, 3, 4, 9, 10, 11, 12, 13, 14, 20)},
	} {
		l := list(seen(1, 0, 0, 1, 2, 3, 4, 5, 6, 7), c.s, seen(8, 2, 2, 3, 4, 5, 6, 7, 8, 9))
		got, e := dedup.Done(l, 3, c.id, reply(3, c.id))
		wantList(t, c, got, e, list(l[0], c.want, l[2]))
		for _, a := range c.s.L {
			if a.Id < c.want.Below {
				wantAsk(t, got, 3, a.Id, dedup.Gone)
			} else {
				wantAsk(t, got, 3, a.Id, dedup.Old)
			}
		}
		if c.id < c.want.Below {
			wantAsk(t, got, 3, c.id, dedup.Gone)
		} else {
			wantAsk(t, got, 3, c.id, dedup.Old)
		}
		if dedup.Check(got) != api.OK {
			t.Errorf("%v may not be", got)
		}
	}
}

func TestDoneErrors(t *testing.T) {
	for _, x := range []struct {
		from, id int
		want     api.Errno
	}{
		{-1, 0, api.ErrArg},
		{-1, 5, api.ErrArg},
		{math.MinInt, 3, api.ErrArg},
		{0, -1, api.ErrArg},
		{1, -1, api.ErrArg}, // ahead of ErrStale, though it is Gone
		{5, -1, api.ErrArg},
		{5, math.MinInt, api.ErrArg},
		{-1, -1, api.ErrArg},
		{1, 0, api.ErrStale},
		{1, 3, api.ErrStale},
		{2, 0, api.ErrStale},
		{2, 5, api.ErrStale},
		{1, 4, api.ErrHeld},
		{1, 9, api.ErrHeld},
		{1, 20, api.ErrHeld},
		{5, 3, api.ErrHeld},
		{5, 6, api.ErrHeld},
	} {
		for _, m := range []api.Msg{reply(x.from, x.id), reply(7, 77), {}} { // the same answer too
			got, e := dedup.Done(three(), x.from, x.id, m)
			wantError(t, x, got, e, x.want)
		}
	}
	for _, l := range [][]api.Seen{nil, {}, list(seen(3, 3, 3))} {
		for _, x := range [][2]int{{-1, 0}, {0, -1}, {3, -1}, {math.MinInt, math.MinInt}} {
			got, e := dedup.Done(l, x[0], x[1], api.Msg{})
			wantError(t, x, got, e, api.ErrArg)
		}
	}
}

// Whatever was answered is kept as it is.
func TestDoneOfAnyMessage(t *testing.T) {
	for _, m := range []api.Msg{
		{},
		{Kind: -1, From: -2, To: math.MinInt, Id: math.MaxInt},
		{Args: []int{}, Data: []byte{}},
		{Kind: 7, Args: make([]int, api.MaxArgs+1), Data: make([]byte, api.MaxData+1)},
		{Kind: 2, From: 3, To: 101, Id: 44, Args: []int{-1, math.MinInt, 9}, Data: []byte{0, 255, 7}},
	} {
		want := three()
		want[2].L = slices.Insert(want[2].L, 1, api.Said{Id: 4, M: m})
		got, e := dedup.Done(three(), 5, 4, m)
		if text(got) != text(want) || e != api.OK {
			t.Errorf("got %v, %d", got, e)
		}
		if a, is := dedup.Ask(got, 5, 4); text(a) != text(m) || is != dedup.Old {
			t.Errorf("got %v, %d", a, is)
		}
	}
}

// P14.3

func TestForget(t *testing.T) {
	x := three()
	for _, c := range []struct {
		from []int
		want []api.Seen
	}{
		{nil, x},
		{[]int{}, x},
		{[]int{1}, list(x[1], x[2])},
		{[]int{2}, list(x[0], x[2])},
		{[]int{5}, list(x[0], x[1])},
		{[]int{1, 2}, list(x[2])},
		{[]int{5, 1}, list(x[1])}, // in whatever order
		{[]int{2, 2, 2}, list(x[0], x[2])},
		{[]int{5, 2, 1}, nil},
		{[]int{1, 2, 3, 4, 5, 5, 1}, nil},
		{[]int{0, 3, 4, 6, 8, 12, -1, math.MinInt, math.MaxInt}, x}, // neither Below nor Id are names
		{[]int{6, 5, 0}, list(x[0], x[1])},
		{[]int{-5, -1}, x},
	} {
		if got := dedup.Forget(three(), c.from...); text(got) != text(c.want) {
			t.Errorf("%v: got %v, want %v", c.from, got, c.want)
		}
	}
	for _, l := range [][]api.Seen{nil, {}} {
		if got := dedup.Forget(l, 0, 1); len(got) != 0 {
			t.Errorf("got %v", got)
		}
	}
	l := list(seen(0, 0, 0), seen(math.MaxInt, 3))
	if got := dedup.Forget(l, 0, math.MaxInt); len(got) != 0 {
		t.Errorf("got %v", got)
	}
}

// Of who was forgotten Below is 0 again.
func TestForgottenIsNew(t *testing.T) {
	l := dedup.Forget(three(), 1)
	for _, id := range []int{0, 3, 4, 20} {
		wantAsk(t, l, 1, id, dedup.New)
	}
	wantAsk(t, l, 1, -1, dedup.Gone)
	wantAsk(t, l, 2, 5, dedup.Gone)
	wantAsk(t, l, 5, 3, dedup.Old)
	got, e := dedup.Done(l, 1, 3, reply(1, 3))
	wantList(t, "Done", got, e, list(seen(1, 0, 3), l[0], l[1]))
}

// The chapter's examples, and DOC.md's ninth: it is done if it is New.
func TestExamples(t *testing.T) {
	l, e := dedup.Done(nil, 1, 3, reply(1, 3))
	if e != api.OK {
		t.Errorf("got %d", e)
	}
	wantAsk(t, l, 1, 3, dedup.Old)
	wantAsk(t, l, 1, 4, dedup.New)
	wantAsk(t, l, 2, 3, dedup.New)
}

// Very many end soon too.
func TestVeryMany(t *testing.T) {
	const many = 200_000
	l := make([]api.Seen, many)
	names := make([]int, 0, many)
	for i := range l {
		l[i] = seen(2*i, i, i)
		if i%4 > 0 {
			names = append(names, 2*i, 2*i+1)
		}
	}
	slices.Reverse(names)
	got := dedup.Forget(l, names...)
	if len(got) != many/4 {
		t.Fatalf("got %d", len(got))
	}
	for i, s := range got {
		if text(s) != text(l[4*i]) {
			t.Fatalf("%d: got %v", i, s)
		}
	}
	wantAsk(t, l, many, many/2, dedup.Old)
	got, e := dedup.Done(l, many+1, 7, reply(many+1, 7))
	if len(got) != many+1 || text(got[many/2+1]) != text(seen(many+1, 0, 7)) || e != api.OK || !dedup.Same(slices.Delete(got, many/2+1, many/2+2), l) {
		t.Errorf("got %d, %d", len(got), e)
	}
}
