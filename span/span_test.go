package span_test

import (
	"math"
	"slices"
	"testing"

	"quickset/api"
	"quickset/span"
)

const most = 1 << 40

// spans makes some that are written as from, to, owner, epoch.
func spans(l ...[4]int) []api.Span {
	var out []api.Span
	for _, s := range l {
		out = append(out, api.Span{From: s[0], To: s[1], Owner: s[2], Epoch: s[3]})
	}
	return out
}

// five are spans that may be: of an owner under two epochs, side by side and apart, of another one, and of no one.
func five() []api.Span {
	return spans([4]int{0, 4, 2, 5}, [4]int{4, 5, 2, 9}, [4]int{5, 12, -1, 0}, [4]int{12, 15, 7, 1}, [4]int{15, 20, 2, 5})
}

// cutUp are spans that may be and are not joined.
func cutUp() []api.Span {
	return spans([4]int{0, 3, -1, 0}, [4]int{3, 5, -1, 0}, [4]int{5, 6, 1, 4}, [4]int{6, 9, 1, 4}, [4]int{9, 10, 1, 6}, [4]int{10, 12, 3, 6}, [4]int{12, 14, 3, 6})
}

// badSpans are those that may not be, each by one thing alone where that can be.
func badSpans() [][]api.Span {
	l := [][]api.Span{
		nil,
		{},
		spans([4]int{1, 5, -1, 0}),
		spans([4]int{-1, 5, -1, 0}),
		spans([4]int{math.MinInt, 5, -1, 0}),
		spans([4]int{0, 0, -1, 0}),
		spans([4]int{0, -1, -1, 0}),
		spans([4]int{0, math.MinInt, -1, 0}),
		spans([4]int{0, most + 1, -1, 0}),
		spans([4]int{0, math.MaxInt, -1, 0}),
		spans([4]int{0, 5, -1, 0}, [4]int{5, most + 1, 1, 1}),
		spans([4]int{0, 5, -1, 0}, [4]int{6, 9, 1, 1}),
		spans([4]int{0, 5, -1, 0}, [4]int{4, 9, 1, 1}),
		spans([4]int{0, 5, -1, 0}, [4]int{0, 5, 1, 1}),
		spans([4]int{0, 5, -1, 0}, [4]int{5, 5, 1, 1}, [4]int{5, 9, -1, 0}),
		spans([4]int{0, 5, -1, 0}, [4]int{5, 3, 1, 1}, [4]int{3, 9, -1, 0}),
		spans([4]int{5, 9, -1, 0}, [4]int{0, 5, 1, 1}),
	}
	for i := range 5 {
		for _, x := range [][2]int{{-1, 1}, {-1, -1}, {-1, math.MaxInt}, {-2, 0}, {-2, 1}, {8, 1}, {8, 0}, {math.MinInt, 0}, {math.MaxInt, 1}, {0, 0}, {7, 0}, {3, -1}, {3, math.MinInt}} {
			s := five()
			s[i].Owner, s[i].Epoch = x[0], x[1]
			l = append(l, s)
		}
		for _, by := range []int{-1, 1} {
			s := five()
			s[i].From += by
			l = append(l, s)
			if i < 4 {
				s = five()
				s[i].To += by
				l = append(l, s)
			}
		}
	}
	return l
}

func wantSpans(t *testing.T, what string, got []api.Span, e api.Errno, want []api.Span) {
	t.Helper()
	if !slices.Equal(got, want) || e != api.OK {
		t.Errorf("%s: got %v, %d, want %v", what, got, e, want)
	}
}

func wantError(t *testing.T, what any, got []api.Span, e, want api.Errno) {
	t.Helper()
	if len(got) != 0 || e != want {
		t.Errorf("%v: got %v, %d, want the error %d", what, got, e, want)
	}
}

// P7.1

func TestNew(t *testing.T) {
	for _, blocks := range []int{1, 2, 10, most - 1, most} {
		got, e := span.New(blocks)
		wantSpans(t, "New", got, e, spans([4]int{0, blocks, -1, 0}))
		if span.Check(got) != api.OK {
			t.Errorf("%v may not be", got)
		}
	}
	for _, blocks := range []int{0, -1, math.MinInt, most + 1, math.MaxInt} {
		got, e := span.New(blocks)
		wantError(t, blocks, got, e, api.ErrArg)
	}
}

func TestCheck(t *testing.T) {
	for _, l := range [][]api.Span{
		spans([4]int{0, 1, -1, 0}),
		spans([4]int{0, most, -1, 0}),
		spans([4]int{0, 1, 0, 1}),
		spans([4]int{0, 1, 7, 1}),
		spans([4]int{0, most, 7, math.MaxInt}),
		spans([4]int{0, 1, 0, 1}, [4]int{1, most, 0, 1}),
		spans([4]int{0, most - 1, 0, 2}, [4]int{most - 1, most, 1, 2}),
		five(),
		cutUp(),
	} {
		if e := span.Check(l); e != api.OK {
			t.Errorf("%v: got %d", l, e)
		}
	}
	for _, l := range badSpans() {
		if e := span.Check(l); e != api.ErrArg {
			t.Errorf("%v: got %d, want ErrArg", l, e)
		}
	}
}

// Of spans that may not be ErrArg is told (or 0), also where what is asked for stands in them, or where there would be another error.
func TestSpansThatMayNotBe(t *testing.T) {
	for _, l := range badSpans() {
		for _, n := range []int{-1, 0, 1, 2, 4, 7, 11, 13, 19, 20, 100} {
			if s, e := span.Find(l, n); s != (api.Span{}) || e != api.ErrArg {
				t.Errorf("Find %d of %v: got %v, %d", n, l, s, e)
			}
			got, e := span.Parts(l, n, n+1)
			wantError(t, l, got, e, api.ErrArg)
			got, e = span.Parts(l, 0, n)
			wantError(t, l, got, e, api.ErrArg)
			got, e = span.Give(l, n, n+1, 1, 1)
			wantError(t, l, got, e, api.ErrArg)
			got, e = span.Give(l, 0, n, -1, 0)
			wantError(t, l, got, e, api.ErrArg)
			got, e = span.Cut(l, n)
			wantError(t, l, got, e, api.ErrArg)
			got, were, e := span.Take(l, n)
			wantError(t, l, got, e, api.ErrArg)
			wantError(t, l, were, e, api.ErrArg)
			if k := span.Owned(l, n); k != 0 {
				t.Errorf("Owned %d of %v: got %d", n, l, k)
			}
		}
		got, e := span.Cut(l)
		wantError(t, l, got, e, api.ErrArg)
		got, e = span.Join(l)
		wantError(t, l, got, e, api.ErrArg)
	}
}

func TestFind(t *testing.T) {
	for _, l := range [][]api.Span{five(), cutUp(), spans([4]int{0, 1, 4, 9})} {
		for _, s := range l {
			for lba := s.From; lba < s.To; lba++ {
				if got, e := span.Find(l, lba); got != s || e != api.OK {
					t.Errorf("%d of %v: got %v, %d", lba, l, got, e)
				}
			}
		}
		for _, lba := range []int{-1, math.MinInt, l[len(l)-1].To, l[len(l)-1].To + 1, math.MaxInt} {
			if got, e := span.Find(l, lba); got != (api.Span{}) || e != api.ErrArg {
				t.Errorf("%d of %v: got %v, %d", lba, l, got, e)
			}
		}
	}
	great := spans([4]int{0, most - 1, -1, 0}, [4]int{most - 1, most, 7, 3})
	for lba, s := range map[int]api.Span{0: great[0], most - 2: great[0], most - 1: great[1]} {
		if got, e := span.Find(great, lba); got != s || e != api.OK {
			t.Errorf("%d: got %v, %d", lba, got, e)
		}
	}
}

func TestOwned(t *testing.T) {
	for _, c := range []struct {
		l    []api.Span
		want map[int]int
	}{
		{five(), map[int]int{-1: 7, 2: 10, 7: 3}},
		{cutUp(), map[int]int{-1: 5, 1: 5, 3: 4}},
		{spans([4]int{0, most, 0, 1}), map[int]int{0: most}},
	} {
		for _, owner := range []int{math.MinInt, -2, -1, 0, 1, 2, 3, 4, 5, 6, 7, 8, math.MaxInt} {
			if got := span.Owned(c.l, owner); got != c.want[owner] {
				t.Errorf("%d of %v: got %d, want %d", owner, c.l, got, c.want[owner])
			}
		}
	}
}

func TestParts(t *testing.T) {
	for _, c := range []struct {
		from, to int
		want     []api.Span
	}{
		{0, 20, five()},
		{0, 1, spans([4]int{0, 1, 2, 5})},
		{0, 4, spans([4]int{0, 4, 2, 5})},
		{1, 3, spans([4]int{1, 3, 2, 5})},
		{3, 4, spans([4]int{3, 4, 2, 5})},
		{4, 5, spans([4]int{4, 5, 2, 9})},
		{3, 5, spans([4]int{3, 4, 2, 5}, [4]int{4, 5, 2, 9})},
		{3, 6, spans([4]int{3, 4, 2, 5}, [4]int{4, 5, 2, 9}, [4]int{5, 6, -1, 0})},
		{5, 12, spans([4]int{5, 12, -1, 0})},
		{11, 16, spans([4]int{11, 12, -1, 0}, [4]int{12, 15, 7, 1}, [4]int{15, 16, 2, 5})},
		{19, 20, spans([4]int{19, 20, 2, 5})},
	} {
		got, e := span.Parts(five(), c.from, c.to)
		wantSpans(t, "Parts", got, e, c.want)
	}
	got, e := span.Parts(cutUp(), 4, 13)
	wantSpans(t, "not joined", got, e, spans([4]int{4, 5, -1, 0}, [4]int{5, 6, 1, 4}, [4]int{6, 9, 1, 4}, [4]int{9, 10, 1, 6}, [4]int{10, 12, 3, 6}, [4]int{12, 13, 3, 6}))
}

// noBlocks are pairs that are no blocks of twenty.
func noBlocks() [][2]int {
	return [][2]int{
		{0, 0}, {5, 5}, {20, 20}, {19, 19}, {6, 5}, {20, 0}, {-1, 0}, {-1, 5}, {-1, -1}, {-5, -1}, {0, 21}, {20, 21}, {21, 22}, {19, 21}, {-1, 21},
		{math.MinInt, math.MaxInt}, {math.MaxInt, math.MinInt}, {math.MinInt, 5}, {5, math.MaxInt}, {math.MinInt, math.MinInt}, {math.MaxInt, math.MaxInt}, {5, math.MinInt},
	}
}

func TestPartsErrors(t *testing.T) {
	for _, x := range noBlocks() {
		got, e := span.Parts(five(), x[0], x[1])
		wantError(t, x, got, e, api.ErrArg)
	}
}

// P7.2

func TestCut(t *testing.T) {
	whole := spans([4]int{0, 20, 1, 3})
	halves := spans([4]int{0, 9, 1, 3}, [4]int{9, 20, 1, 3})
	for _, c := range []struct {
		l    []api.Span
		at   []int
		want []api.Span
	}{
		{five(), nil, five()},
		{cutUp(), nil, cutUp()},
		{cutUp(), []int{3, 6, 12}, cutUp()},
		{five(), []int{4, 5, 12, 15}, five()},
		{whole, []int{9}, halves},
		{whole, []int{9, 9, 9}, halves},
		{halves, []int{9}, halves},
		{whole, []int{1}, spans([4]int{0, 1, 1, 3}, [4]int{1, 20, 1, 3})},
		{whole, []int{19}, spans([4]int{0, 19, 1, 3}, [4]int{19, 20, 1, 3})},
		{whole, []int{15, 3, 9, 3}, spans([4]int{0, 3, 1, 3}, [4]int{3, 9, 1, 3}, [4]int{9, 15, 1, 3}, [4]int{15, 20, 1, 3})},
		{five(), []int{13, 1, 15, 6, 7, 2}, spans([4]int{0, 1, 2, 5}, [4]int{1, 2, 2, 5}, [4]int{2, 4, 2, 5}, [4]int{4, 5, 2, 9}, [4]int{5, 6, -1, 0}, [4]int{6, 7, -1, 0}, [4]int{7, 12, -1, 0}, [4]int{12, 13, 7, 1}, [4]int{13, 15, 7, 1}, [4]int{15, 20, 2, 5})},
		{spans([4]int{0, most, -1, 0}), []int{most - 1, 1}, spans([4]int{0, 1, -1, 0}, [4]int{1, most - 1, -1, 0}, [4]int{most - 1, most, -1, 0})},
		{spans([4]int{0, 1, 3, 3}), nil, spans([4]int{0, 1, 3, 3})},
	} {
		got, e := span.Cut(c.l, c.at...)
		wantSpans(t, "Cut", got, e, c.want)
	}
}

func TestCutErrors(t *testing.T) {
	for _, bad := range []int{0, -1, 20, 21, math.MinInt, math.MaxInt} {
		for _, places := range [][]int{{bad}, {bad, 5}, {5, bad}, {5, bad, 6}, {4, 4, 4, bad}} {
			got, e := span.Cut(five(), places...)
			wantError(t, places, got, e, api.ErrArg)
		}
	}
	got, e := span.Cut(spans([4]int{0, 1, 3, 3}), 1)
	wantError(t, "a single block", got, e, api.ErrArg)
}

func TestJoin(t *testing.T) {
	for _, c := range []struct{ l, want []api.Span }{
		{five(), five()}, // one owner's, but of two epochs; or apart
		{cutUp(), spans([4]int{0, 5, -1, 0}, [4]int{5, 9, 1, 4}, [4]int{9, 10, 1, 6}, [4]int{10, 14, 3, 6})},
		{spans([4]int{0, 1, 4, 4}), spans([4]int{0, 1, 4, 4})},
		{spans([4]int{0, 1, 4, 4}, [4]int{1, 2, 4, 4}, [4]int{2, most, 4, 4}), spans([4]int{0, most, 4, 4})},
		{spans([4]int{0, 1, 4, 4}, [4]int{1, 2, 5, 4}, [4]int{2, 3, 4, 4}), spans([4]int{0, 1, 4, 4}, [4]int{1, 2, 5, 4}, [4]int{2, 3, 4, 4})},
	} {
		got, e := span.Join(c.l)
		wantSpans(t, "Join", got, e, c.want)
	}
}

// P7.3

func TestGive(t *testing.T) {
	for _, c := range []struct {
		from, to, owner, epoch int
		want                   []api.Span
	}{
		// To a new owner: of no one's blocks some at each side, all, and with others'.
		{5, 12, 0, 1, spans([4]int{0, 4, 2, 5}, [4]int{4, 5, 2, 9}, [4]int{5, 12, 0, 1}, [4]int{12, 15, 7, 1}, [4]int{15, 20, 2, 5})},
		{5, 7, 0, 1, spans([4]int{0, 4, 2, 5}, [4]int{4, 5, 2, 9}, [4]int{5, 7, 0, 1}, [4]int{7, 12, -1, 0}, [4]int{12, 15, 7, 1}, [4]int{15, 20, 2, 5})},
		{11, 12, 0, 1, spans([4]int{0, 4, 2, 5}, [4]int{4, 5, 2, 9}, [4]int{5, 11, -1, 0}, [4]int{11, 12, 0, 1}, [4]int{12, 15, 7, 1}, [4]int{15, 20, 2, 5})},
		{7, 9, 0, 1, spans([4]int{0, 4, 2, 5}, [4]int{4, 5, 2, 9}, [4]int{5, 7, -1, 0}, [4]int{7, 9, 0, 1}, [4]int{9, 12, -1, 0}, [4]int{12, 15, 7, 1}, [4]int{15, 20, 2, 5})},
		{11, 14, 0, 2, spans([4]int{0, 4, 2, 5}, [4]int{4, 5, 2, 9}, [4]int{5, 11, -1, 0}, [4]int{11, 14, 0, 2}, [4]int{14, 15, 7, 1}, [4]int{15, 20, 2, 5})},
		{0, 1, 3, 6, spans([4]int{0, 1, 3, 6}, [4]int{1, 4, 2, 5}, [4]int{4, 5, 2, 9}, [4]int{5, 12, -1, 0}, [4]int{12, 15, 7, 1}, [4]int{15, 20, 2, 5})},
		{19, 20, 3, 6, spans([4]int{0, 4, 2, 5}, [4]int{4, 5, 2, 9}, [4]int{5, 12, -1, 0}, [4]int{12, 15, 7, 1}, [4]int{15, 19, 2, 5}, [4]int{19, 20, 3, 6})},
		{0, 20, 3, 10, spans([4]int{0, 20, 3, 10})},
		{0, 20, 3, math.MaxInt, spans([4]int{0, 20, 3, math.MaxInt})},
		// What is joined: with what stands ahead, behind, at both sides.
		{5, 6, 2, 9, spans([4]int{0, 4, 2, 5}, [4]int{4, 6, 2, 9}, [4]int{6, 12, -1, 0}, [4]int{12, 15, 7, 1}, [4]int{15, 20, 2, 5})},
		{10, 12, 7, 1, spans([4]int{0, 4, 2, 5}, [4]int{4, 5, 2, 9}, [4]int{5, 10, -1, 0}, [4]int{10, 15, 7, 1}, [4]int{15, 20, 2, 5})},
		{12, 15, 2, 5, spans([4]int{0, 4, 2, 5}, [4]int{4, 5, 2, 9}, [4]int{5, 12, -1, 0}, [4]int{12, 20, 2, 5})},
		{0, 4, 2, 9, spans([4]int{0, 5, 2, 9}, [4]int{5, 12, -1, 0}, [4]int{12, 15, 7, 1}, [4]int{15, 20, 2, 5})},
		// To no one: of whichever epoch.
		{4, 5, -1, 0, spans([4]int{0, 4, 2, 5}, [4]int{4, 12, -1, 0}, [4]int{12, 15, 7, 1}, [4]int{15, 20, 2, 5})},
		{6, 7, -1, 0, five()},
		{0, 20, -1, 0, spans([4]int{0, 20, -1, 0})},
		{16, 18, -1, 0, spans([4]int{0, 4, 2, 5}, [4]int{4, 5, 2, 9}, [4]int{5, 12, -1, 0}, [4]int{12, 15, 7, 1}, [4]int{15, 16, 2, 5}, [4]int{16, 18, -1, 0}, [4]int{18, 20, 2, 5})},
	} {
		got, e := span.Give(five(), c.from, c.to, c.owner, c.epoch)
		wantSpans(t, "Give", got, e, c.want)
	}
}

// All is joined, what was given and what was not.
func TestGiveJoinsAll(t *testing.T) {
	got, e := span.Give(cutUp(), 13, 14, 0, 9)
	wantSpans(t, "at the end", got, e, spans([4]int{0, 5, -1, 0}, [4]int{5, 9, 1, 4}, [4]int{9, 10, 1, 6}, [4]int{10, 13, 3, 6}, [4]int{13, 14, 0, 9}))
	got, e = span.Give(cutUp(), 0, 1, 0, 9)
	wantSpans(t, "at the beginning", got, e, spans([4]int{0, 1, 0, 9}, [4]int{1, 5, -1, 0}, [4]int{5, 9, 1, 4}, [4]int{9, 10, 1, 6}, [4]int{10, 14, 3, 6}))
}

func TestGiveErrors(t *testing.T) {
	for _, x := range noBlocks() {
		for _, who := range [][2]int{{1, 99}, {1, 1}, {-1, 0}} {
			got, e := span.Give(five(), x[0], x[1], who[0], who[1])
			wantError(t, x, got, e, api.ErrArg)
		}
	}
	for _, x := range []struct {
		from, to, owner, epoch int
		want                   api.Errno
	}{
		{5, 6, -1, 1, api.ErrArg},
		{5, 6, -1, -1, api.ErrArg},
		{5, 6, -2, 0, api.ErrArg},
		{5, 6, -2, 9, api.ErrArg},
		{5, 6, 8, 9, api.ErrArg},
		{5, 6, 0, 0, api.ErrArg},
		{5, 6, 7, -1, api.ErrArg},
		{5, 6, 7, math.MinInt, api.ErrArg},
		{5, 6, math.MinInt, 1, api.ErrArg},
		{5, 6, math.MaxInt, 1, api.ErrArg},
		{0, 1, 8, 1, api.ErrArg}, // ahead of ErrStale
		{0, 1, 1, 0, api.ErrArg},
		{0, 1, 1, 5, api.ErrStale},
		{0, 1, 1, 4, api.ErrStale},
		{0, 1, 1, 1, api.ErrStale},
		{0, 4, 2, 5, api.ErrStale}, // also where it is the owner's already
		{4, 5, 2, 9, api.ErrStale},
		{0, 5, 1, 6, api.ErrStale}, // one of two
		{3, 6, 1, 9, api.ErrStale},
		{4, 12, 1, 9, api.ErrStale},
		{11, 13, 1, 1, api.ErrStale},
		{14, 16, 1, 5, api.ErrStale}, // the last one
		{0, 20, 1, 9, api.ErrStale},  // one in the middle
	} {
		got, e := span.Give(five(), x.from, x.to, x.owner, x.epoch)
		wantError(t, x, got, e, x.want)
	}
}

func TestTake(t *testing.T) {
	for _, c := range []struct {
		l          []api.Span
		owner      int
		want, were []api.Span
	}{
		{five(), 2, spans([4]int{0, 12, -1, 0}, [4]int{12, 15, 7, 1}, [4]int{15, 20, -1, 0}), spans([4]int{0, 4, 2, 5}, [4]int{4, 5, 2, 9}, [4]int{15, 20, 2, 5})},
		{five(), 7, spans([4]int{0, 4, 2, 5}, [4]int{4, 5, 2, 9}, [4]int{5, 15, -1, 0}, [4]int{15, 20, 2, 5}), spans([4]int{12, 15, 7, 1})},
		{five(), 0, five(), nil},
		{five(), 6, five(), nil},
		{cutUp(), 1, spans([4]int{0, 10, -1, 0}, [4]int{10, 14, 3, 6}), spans([4]int{5, 6, 1, 4}, [4]int{6, 9, 1, 4}, [4]int{9, 10, 1, 6})},
		{cutUp(), 0, spans([4]int{0, 5, -1, 0}, [4]int{5, 9, 1, 4}, [4]int{9, 10, 1, 6}, [4]int{10, 14, 3, 6}), nil},
		{spans([4]int{0, most, 0, 1}), 0, spans([4]int{0, most, -1, 0}), spans([4]int{0, most, 0, 1})},
	} {
		got, were, e := span.Take(c.l, c.owner)
		wantSpans(t, "Take", got, e, c.want)
		wantSpans(t, "those that were its", were, e, c.were)
	}
	for _, owner := range []int{-1, -2, 8, math.MinInt, math.MaxInt} {
		got, were, e := span.Take(five(), owner)
		wantError(t, owner, got, e, api.ErrArg)
		wantError(t, owner, were, e, api.ErrArg)
	}
}

// The chapter's examples.
func TestExamples(t *testing.T) {
	l, _ := span.New(10)
	l, e := span.Give(l, 2, 5, 1, 3)
	wantSpans(t, "Give", l, e, spans([4]int{0, 2, -1, 0}, [4]int{2, 5, 1, 3}, [4]int{5, 10, -1, 0}))
	got, e := span.Give(l, 4, 6, 2, 3)
	wantError(t, "Give", got, e, api.ErrStale)
	got, e = span.Give(l, 4, 6, 2, 4)
	wantSpans(t, "Give", got, e, spans([4]int{0, 2, -1, 0}, [4]int{2, 4, 1, 3}, [4]int{4, 6, 2, 4}, [4]int{6, 10, -1, 0}))
}

// R2: nothing that was handed in is changed, and nothing is shared with what is told.
func TestNothingIsShared(t *testing.T) {
	for name, call := range map[string]func(l []api.Span) []api.Span{
		"Parts":         func(l []api.Span) []api.Span { p, _ := span.Parts(l, 1, 19); return p },
		"Parts, all":    func(l []api.Span) []api.Span { p, _ := span.Parts(l, 0, 20); return p },
		"Parts, one":    func(l []api.Span) []api.Span { p, _ := span.Parts(l, 16, 17); return p },
		"Give":          func(l []api.Span) []api.Span { g, _ := span.Give(l, 7, 9, 0, 1); return g },
		"Give, first":   func(l []api.Span) []api.Span { g, _ := span.Give(l, 0, 1, 0, 9); return g },
		"Give, last":    func(l []api.Span) []api.Span { g, _ := span.Give(l, 19, 20, 0, 9); return g },
		"Give, nothing": func(l []api.Span) []api.Span { g, _ := span.Give(l, 6, 7, -1, 0); return g },
		"Give, stale":   func(l []api.Span) []api.Span { g, _ := span.Give(l, 0, 20, 0, 1); return g },
		"Take":          func(l []api.Span) []api.Span { k, _, _ := span.Take(l, 2); return k },
		"Take, were":    func(l []api.Span) []api.Span { _, w, _ := span.Take(l, 2); return w },
		"Take, none":    func(l []api.Span) []api.Span { k, _, _ := span.Take(l, 0); return k },
		"Cut":           func(l []api.Span) []api.Span { c, _ := span.Cut(l, 3, 18); return c },
		"Cut, nowhere":  func(l []api.Span) []api.Span { c, _ := span.Cut(l); return c },
		"Join":          func(l []api.Span) []api.Span { j, _ := span.Join(l); return j },
	} {
		l := append(make([]api.Span, 0, 9), five()...) // with room that a call could write into
		told := call(l)
		if !slices.Equal(l, five()) || !slices.Equal(l[5:9], make([]api.Span, 4)) {
			t.Errorf("%s changed what was handed in: %v", name, l[:9])
		}
		want := slices.Clone(told)
		for i := range l {
			l[i] = api.Span{From: -1}
		}
		if !slices.Equal(told, want) {
			t.Errorf("%s: what was told changed with what was handed in", name)
		}
		copy(l, five())
		told = told[:cap(told)]
		for i := range told {
			told[i] = api.Span{From: -2}
		}
		if !slices.Equal(l, five()) {
			t.Errorf("%s: what was handed in changed with what was told", name)
		}
	}
}

func TestTakeTellsTwoLists(t *testing.T) {
	l, were, _ := span.Take(five(), 2)
	want := slices.Clone(l)
	for were = were[:cap(were)]; len(were) > 0; were = were[1:] {
		were[0] = api.Span{From: -1}
	}
	if !slices.Equal(l, want) {
		t.Errorf("got %v, want %v", l, want)
	}
}

func TestCutLeavesItsPlaces(t *testing.T) {
	places := []int{9, 3, 7, 3}
	span.Cut(five(), places...)
	if !slices.Equal(places, []int{9, 3, 7, 3}) {
		t.Errorf("got %v", places)
	}
}
