package extent_test

import (
	"math"
	"slices"
	"testing"

	"quickset/api"
	"quickset/extent"
)

const (
	mostLba = 1 << 40
	mostEnd = 1 << 50
)

// exts makes some that are written as Lba, N, Ver, Zone, Off.
func exts(l ...[5]int) []api.Ext {
	var out []api.Ext
	for _, x := range l {
		out = append(out, api.Ext{Lba: x[0], N: x[1], Ver: x[2], Zone: x[3], Off: x[4]})
	}
	return out
}

// four is a list with a gap ahead, one within, and two that stand side by side and do not go on.
func four() []api.Ext {
	return exts([5]int{10, 4, 1, 3, 64}, [5]int{14, 2, 2, -1, 0}, [5]int{16, 4, 1, 3, 160}, [5]int{25, 3, 7, 0, 5})
}

// loose is a list that is not joined.
func loose() []api.Ext {
	return exts([5]int{0, 2, 0, 1, 8}, [5]int{2, 1, 0, 1, 40}, [5]int{3, 1, 0, 1, 57}, [5]int{4, 1, 0, -1, 0}, [5]int{5, 2, 0, -1, 0}, [5]int{8, 1, 0, -1, 0})
}

// badExts are extents that may not be, each by one thing alone.
func badExts() []api.Ext {
	return exts(
		[5]int{-1, 1, 1, 3, 64},
		[5]int{-1, 2, 1, 3, 64},
		[5]int{math.MinInt, 1, 1, 3, 64},
		[5]int{5, 0, 1, 3, 64},
		[5]int{5, -1, 1, 3, 64},
		[5]int{5, math.MinInt, 1, 3, 64},
		[5]int{5, math.MaxInt, 1, 3, 64},
		[5]int{0, mostLba + 1, 1, 3, 64},
		[5]int{1, mostLba, 1, 3, 64},
		[5]int{mostLba, 1, 1, 3, 64},
		[5]int{mostLba - 1, 2, 1, 3, 64},
		[5]int{math.MaxInt, 1, 1, 3, 64},
		[5]int{math.MaxInt, math.MaxInt, 1, 3, 64},
		[5]int{5, 2, -1, 3, 64},
		[5]int{5, 2, -1, -1, 0},
		[5]int{5, 2, math.MinInt, 3, 64},
		[5]int{5, 2, 1, -2, 0},
		[5]int{5, 2, 1, -2, 64},
		[5]int{5, 2, 1, math.MinInt, 0},
		[5]int{5, 2, 1, mostLba + 1, 64},
		[5]int{5, 2, 1, math.MaxInt, 64},
		[5]int{5, 2, 1, -1, 1},
		[5]int{5, 2, 1, -1, -1},
		[5]int{5, 2, 1, -1, 16},
		[5]int{0, mostLba + 1, 1, -1, 0},
		[5]int{5, 2, 1, 3, -1},
		[5]int{5, 2, 1, 0, math.MinInt},
		[5]int{5, 2, 1, 3, mostEnd - 31},
		[5]int{5, 1, 1, 3, mostEnd - 15},
		[5]int{5, 1, 1, 3, mostEnd},
		[5]int{0, mostLba, 1, 3, mostEnd - 16*mostLba + 1},
		[5]int{5, 2, 1, 3, math.MaxInt},
		[5]int{},
	)
}

// badLists are those that may not be.
func badLists() [][]api.Ext {
	var l [][]api.Ext
	for _, x := range badExts() {
		l = append(l, []api.Ext{x}, append(exts([5]int{0, 5, 1, 3, 64}), x), []api.Ext{x, {Lba: 20, N: 1, Zone: -1}})
	}
	for _, next := range [][5]int{{13, 1, 1, 3, 112}, {13, 3, 2, -1, 0}, {10, 4, 1, 3, 64}, {10, 1, 9, 3, 64}, {12, 1, 1, 3, 0}, {9, 1, 1, 3, 0}, {5, 9, 1, 3, 0}, {0, 20, 1, -1, 0}, {0, 1, 1, 3, 0}} {
		l = append(l, exts([5]int{10, 4, 1, 3, 64}, next), exts([5]int{10, 4, 1, 3, 64}, next, [5]int{30, 1, 1, 3, 0}))
		l = append(l, exts([5]int{2, 1, 1, 3, 0}, [5]int{10, 4, 1, 3, 64}, next))
	}
	return l
}

func wantList(t *testing.T, what string, got []api.Ext, e api.Errno, want []api.Ext) {
	t.Helper()
	if !slices.Equal(got, want) || e != api.OK {
		t.Errorf("%s: got %v, %d, want %v", what, got, e, want)
	}
}

func wantError(t *testing.T, what any, got []api.Ext, e, want api.Errno) {
	t.Helper()
	if len(got) != 0 || e != want {
		t.Errorf("%v: got %d extents, %d, want the error %d", what, len(got), e, want)
	}
}

// P9.1

func TestCheck(t *testing.T) {
	for _, l := range [][]api.Ext{
		nil,
		{},
		four(),
		loose(),
		exts([5]int{0, 1, 0, 0, 0}),
		exts([5]int{0, 1, 0, -1, 0}),
		exts([5]int{mostLba - 1, 1, 0, 0, 0}),
		exts([5]int{0, mostLba, math.MaxInt, mostLba, mostEnd - 16*mostLba}),
		exts([5]int{0, mostLba, math.MaxInt, -1, 0}),
		exts([5]int{7, 1, 3, mostLba, mostEnd - 16}),
		exts([5]int{7, 2, 3, 4, mostEnd - 32}),
		exts([5]int{0, 1, 5, 0, 0}, [5]int{1, mostLba - 1, 4, -1, 0}),
		exts([5]int{0, 1, 5, 0, 0}, [5]int{mostLba - 1, 1, 5, 0, 0}),
		exts([5]int{3, 2, 5, 0, 0}, [5]int{5, 2, 5, 0, 0}, [5]int{8, 2, 5, 0, 0}), // several blocks may stand at one place
	} {
		if e := extent.Check(l); e != api.OK {
			t.Errorf("%v: got %d", l, e)
		}
	}
	for _, l := range badLists() {
		if e := extent.Check(l); e != api.ErrArg {
			t.Errorf("%v: got %d, want ErrArg", l, e)
		}
	}
}

// Of a list that may not be ErrArg is told, or none, or 0, also where what is asked for stands in it.
func TestListsThatMayNotBe(t *testing.T) {
	for _, l := range badLists() {
		if n := extent.Many(l); n != 0 {
			t.Errorf("Many of %v: got %d", l, n)
		}
		if got := extent.Join(l); len(got) != 0 {
			t.Errorf("Join of %v: got %v", l, got)
		}
		if extent.Same(l, l) || extent.Same(l, nil) || extent.Same(nil, l) || extent.Same(l, four()) || extent.Same(four(), l) {
			t.Errorf("%v is the same as something", l)
		}
		for _, lba := range []int{-1, 0, 2, 5, 10, 13, 20, 100, mostLba, math.MaxInt} {
			if got, is := extent.At(l, lba); got != (api.Ext{}) || is {
				t.Errorf("At %d of %v: got %v, %v", lba, l, got, is)
			}
			for _, n := range []int{-1, 0, 1, 30} {
				got, e := extent.Part(l, lba, n)
				wantError(t, l, got, e, api.ErrArg)
				got, e = extent.Gaps(l, lba, n)
				wantError(t, l, got, e, api.ErrArg)
				got, e = extent.Cut(l, lba, n)
				wantError(t, l, got, e, api.ErrArg)
			}
		}
		got, e := extent.Put(l)
		wantError(t, l, got, e, api.ErrArg)
		got, e = extent.Put(l, four()...)
		wantError(t, l, got, e, api.ErrArg)
		got, e = extent.Put(l, api.Ext{N: mostLba, Zone: -1})
		wantError(t, l, got, e, api.ErrArg)
	}
}

func TestMany(t *testing.T) {
	for _, c := range []struct {
		l    []api.Ext
		want int
	}{
		{nil, 0},
		{four(), 13},
		{loose(), 8},
		{exts([5]int{3, 6, 1, -1, 0}), 6},
		{exts([5]int{0, mostLba, 1, 2, 0}), mostLba},
		{exts([5]int{0, mostLba - 1, 1, 2, 0}, [5]int{mostLba - 1, 1, 1, -1, 0}), mostLba},
	} {
		if got := extent.Many(c.l); got != c.want {
			t.Errorf("%v: got %d, want %d", c.l, got, c.want)
		}
	}
}

// joins are lists, and what they are when they are joined.
func joins() [][2][]api.Ext {
	return [][2][]api.Ext{
		{nil, nil},
		{four(), four()},
		{loose(), exts([5]int{0, 3, 0, 1, 8}, [5]int{3, 1, 0, 1, 57}, [5]int{4, 3, 0, -1, 0}, [5]int{8, 1, 0, -1, 0})},
		{exts([5]int{0, 2, 1, 1, 0}, [5]int{2, 3, 1, 1, 32}, [5]int{5, 1, 1, 1, 80}), exts([5]int{0, 6, 1, 1, 0})},
		{exts([5]int{0, 2, 1, 1, 0}, [5]int{3, 3, 1, 1, 32}), exts([5]int{0, 2, 1, 1, 0}, [5]int{3, 3, 1, 1, 32})},   // a block between
		{exts([5]int{0, 2, 1, 1, 0}, [5]int{3, 3, 1, 1, 48}), exts([5]int{0, 2, 1, 1, 0}, [5]int{3, 3, 1, 1, 48})},   // likewise
		{exts([5]int{0, 2, 1, 1, 0}, [5]int{2, 3, 2, 1, 32}), exts([5]int{0, 2, 1, 1, 0}, [5]int{2, 3, 2, 1, 32})},   // another version
		{exts([5]int{0, 2, 1, 1, 0}, [5]int{2, 3, 1, 2, 32}), exts([5]int{0, 2, 1, 1, 0}, [5]int{2, 3, 1, 2, 32})},   // another zone
		{exts([5]int{0, 2, 1, 1, 0}, [5]int{2, 3, 1, 1, 31}), exts([5]int{0, 2, 1, 1, 0}, [5]int{2, 3, 1, 1, 31})},   // another place
		{exts([5]int{0, 2, 1, 1, 0}, [5]int{2, 3, 1, 1, 33}), exts([5]int{0, 2, 1, 1, 0}, [5]int{2, 3, 1, 1, 33})},   // likewise
		{exts([5]int{0, 2, 1, 1, 0}, [5]int{2, 3, 1, 1, 0}), exts([5]int{0, 2, 1, 1, 0}, [5]int{2, 3, 1, 1, 0})},     // the same place
		{exts([5]int{0, 2, 1, 0, 0}, [5]int{2, 3, 1, -1, 0}), exts([5]int{0, 2, 1, 0, 0}, [5]int{2, 3, 1, -1, 0})},   // trimmed or not
		{exts([5]int{0, 2, 1, -1, 0}, [5]int{2, 3, 2, -1, 0}), exts([5]int{0, 2, 1, -1, 0}, [5]int{2, 3, 2, -1, 0})}, // trimmed twice
		{exts([5]int{0, 2, 1, -1, 0}, [5]int{2, 3, 1, -1, 0}, [5]int{5, mostLba - 5, 1, -1, 0}), exts([5]int{0, mostLba, 1, -1, 0})},
		{exts([5]int{0, 2, 1, 0, mostEnd - 48}, [5]int{2, 1, 1, 0, mostEnd - 16}), exts([5]int{0, 3, 1, 0, mostEnd - 48})},
	}
}

func TestJoin(t *testing.T) {
	for _, c := range joins() {
		got := extent.Join(c[0])
		wantList(t, "Join", got, extent.Check(got), c[1])
	}
}

func TestSame(t *testing.T) {
	all := joins()
	for i, c := range all {
		for k, d := range all {
			if got := extent.Same(c[0], d[1]); got != (i == k) {
				t.Errorf("%v, %v: got %v", c[0], d[1], got)
			}
			if got := extent.Same(d[1], c[0]); got != (i == k) {
				t.Errorf("%v, %v: got %v", d[1], c[0], got)
			}
		}
	}
	for i := range four() {
		for _, by := range [][5]int{{1, -1, 0, 0, 0}, {0, -1, 0, 0, 0}, {0, 0, 1, 0, 0}, {0, 0, 0, 1, 0}, {0, 0, 0, 0, 1}} {
			l := four()
			l[i] = api.Ext{Lba: l[i].Lba + by[0], N: l[i].N + by[1], Ver: l[i].Ver + by[2], Zone: l[i].Zone + by[3], Off: l[i].Off + by[4]}
			if extent.Same(l, four()) || extent.Same(four(), l) {
				t.Errorf("%v is the same as %v", l, four())
			}
		}
		l := slices.Delete(four(), i, i+1)
		if extent.Same(l, four()) || extent.Same(four(), l) {
			t.Errorf("%v is the same as %v", l, four())
		}
	}
	five := exts([5]int{0, 5, 1, -1, 0})
	for _, more := range [][5]int{{5, 0, 1, -1, 0}, {5, -1, 1, -1, 0}} { // they go on, and come to five and to four blocks
		l := append(slices.Clone(five), exts(more)...)
		want := exts([5]int{0, 5 + more[1], 1, -1, 0})
		if extent.Same(l, want) || extent.Same(want, l) {
			t.Errorf("%v, which may not be, is the same as %v", l, want)
		}
	}
}

// P9.2

func TestAt(t *testing.T) {
	for lba, want := range map[int][5]int{
		10: {10, 1, 1, 3, 64},
		11: {11, 1, 1, 3, 80},
		13: {13, 1, 1, 3, 112},
		14: {14, 1, 2, -1, 0},
		15: {15, 1, 2, -1, 0},
		16: {16, 1, 1, 3, 160},
		19: {19, 1, 1, 3, 208},
		25: {25, 1, 7, 0, 5},
		27: {27, 1, 7, 0, 37},
	} {
		if got, is := extent.At(four(), lba); got != exts(want)[0] || !is {
			t.Errorf("%d: got %v, %v", lba, got, is)
		}
	}
	for _, lba := range []int{math.MinInt, -1, 0, 9, 20, 24, 28, mostLba - 1, mostLba, math.MaxInt} {
		if got, is := extent.At(four(), lba); got != (api.Ext{}) || is {
			t.Errorf("%d: got %v, %v", lba, got, is)
		}
		if got, is := extent.At(nil, lba); got != (api.Ext{}) || is {
			t.Errorf("%d of nothing: got %v, %v", lba, got, is)
		}
	}
	whole := exts([5]int{0, mostLba, 4, 1, 3})
	for _, lba := range []int{0, 1, mostLba / 2, mostLba - 1} {
		if got, is := extent.At(whole, lba); got != (api.Ext{Lba: lba, N: 1, Ver: 4, Zone: 1, Off: 3 + 16*lba}) || !is {
			t.Errorf("%d: got %v, %v", lba, got, is)
		}
	}
}

func TestPart(t *testing.T) {
	for _, c := range []struct {
		l      []api.Ext
		lba, n int
		want   []api.Ext
	}{
		{four(), 0, mostLba, four()},
		{four(), 10, 18, four()},
		{four(), 10, 4, four()[:1]},
		{four(), 11, 2, exts([5]int{11, 2, 1, 3, 80})},
		{four(), 10, 1, exts([5]int{10, 1, 1, 3, 64})},
		{four(), 13, 1, exts([5]int{13, 1, 1, 3, 112})},
		{four(), 13, 2, exts([5]int{13, 1, 1, 3, 112}, [5]int{14, 1, 2, -1, 0})},
		{four(), 15, 2, exts([5]int{15, 1, 2, -1, 0}, [5]int{16, 1, 1, 3, 160})},
		{four(), 13, 4, exts([5]int{13, 1, 1, 3, 112}, [5]int{14, 2, 2, -1, 0}, [5]int{16, 1, 1, 3, 160})},
		{four(), 19, 7, exts([5]int{19, 1, 1, 3, 208}, [5]int{25, 1, 7, 0, 5})},
		{four(), 0, 10, nil},
		{four(), 0, 11, exts([5]int{10, 1, 1, 3, 64})},
		{four(), 9, 1, nil},
		{four(), 20, 5, nil},
		{four(), 22, 1, nil},
		{four(), 27, 100, exts([5]int{27, 1, 7, 0, 37})},
		{four(), 28, mostLba - 28, nil},
		{four(), mostLba - 1, 1, nil},
		{nil, 0, mostLba, nil},
		{loose(), 0, 20, loose()}, // cut, not joined
		{loose(), 1, 5, exts([5]int{1, 1, 0, 1, 24}, [5]int{2, 1, 0, 1, 40}, [5]int{3, 1, 0, 1, 57}, [5]int{4, 1, 0, -1, 0}, [5]int{5, 1, 0, -1, 0})},
		{exts([5]int{0, mostLba, 4, 1, 3}), mostLba - 1, 1, exts([5]int{mostLba - 1, 1, 4, 1, 16*(mostLba-1) + 3})},
	} {
		got, e := extent.Part(c.l, c.lba, c.n)
		wantList(t, "Part", got, e, c.want)
	}
}

func TestGaps(t *testing.T) {
	for _, c := range []struct {
		l      []api.Ext
		lba, n int
		want   []api.Ext
	}{
		{four(), 0, mostLba, exts([5]int{0, 10, 0, -1, 0}, [5]int{20, 5, 0, -1, 0}, [5]int{28, mostLba - 28, 0, -1, 0})},
		{four(), 10, 18, exts([5]int{20, 5, 0, -1, 0})},
		{four(), 10, 10, nil},
		{four(), 13, 2, nil},
		{four(), 13, 4, nil},
		{four(), 14, 1, nil}, // what is trimmed is no gap
		{four(), 0, 10, exts([5]int{0, 10, 0, -1, 0})},
		{four(), 9, 1, exts([5]int{9, 1, 0, -1, 0})},
		{four(), 9, 2, exts([5]int{9, 1, 0, -1, 0})},
		{four(), 19, 2, exts([5]int{20, 1, 0, -1, 0})},
		{four(), 22, 2, exts([5]int{22, 2, 0, -1, 0})},
		{four(), 22, 4, exts([5]int{22, 3, 0, -1, 0})},
		{four(), 27, 2, exts([5]int{28, 1, 0, -1, 0})},
		{four(), mostLba - 1, 1, exts([5]int{mostLba - 1, 1, 0, -1, 0})},
		{nil, 0, mostLba, exts([5]int{0, mostLba, 0, -1, 0})},
		{nil, 7, 3, exts([5]int{7, 3, 0, -1, 0})},
		{loose(), 0, 20, exts([5]int{7, 1, 0, -1, 0}, [5]int{9, 11, 0, -1, 0})},
		{exts([5]int{0, mostLba, 4, 1, 3}), 0, mostLba, nil},
	} {
		got, e := extent.Gaps(c.l, c.lba, c.n)
		wantList(t, "Gaps", got, e, c.want)
	}
}

// Blocks that may not be: of Part, Gaps and Cut alike.
func TestBlocksThatMayNotBe(t *testing.T) {
	for _, x := range [][2]int{
		{-1, 1}, {-1, 2}, {-5, 20}, {math.MinInt, 1}, {math.MinInt, math.MaxInt}, {math.MinInt, math.MinInt},
		{12, 0}, {0, 0}, {12, -1}, {12, math.MinInt}, {mostLba, 0}, {mostLba + 1, -1},
		{mostLba, 1}, {mostLba - 1, 2}, {0, mostLba + 1}, {1, mostLba}, {12, math.MaxInt}, {math.MaxInt, 1}, {math.MaxInt, math.MaxInt}, {math.MaxInt, math.MinInt},
	} {
		for _, l := range [][]api.Ext{four(), nil, exts([5]int{0, mostLba, 4, 1, 3})} {
			got, e := extent.Part(l, x[0], x[1])
			wantError(t, x, got, e, api.ErrArg)
			got, e = extent.Gaps(l, x[0], x[1])
			wantError(t, x, got, e, api.ErrArg)
			got, e = extent.Cut(l, x[0], x[1])
			wantError(t, x, got, e, api.ErrArg)
		}
	}
}

// P9.3

func TestCut(t *testing.T) {
	for _, c := range []struct {
		l      []api.Ext
		lba, n int
		want   []api.Ext
	}{
		{four(), 0, mostLba, nil},
		{four(), 10, 18, nil},
		{four(), 0, 10, four()},
		{four(), 20, 5, four()},
		{four(), 28, mostLba - 28, four()},
		{four(), mostLba - 1, 1, four()},
		{four(), 10, 4, four()[1:]},
		{four(), 14, 2, slices.Delete(four(), 1, 2)},
		{four(), 25, 3, four()[:3]},
		{four(), 0, 11, exts([5]int{11, 3, 1, 3, 80}, [5]int{14, 2, 2, -1, 0}, [5]int{16, 4, 1, 3, 160}, [5]int{25, 3, 7, 0, 5})},
		{four(), 11, 1, exts([5]int{10, 1, 1, 3, 64}, [5]int{12, 2, 1, 3, 96}, [5]int{14, 2, 2, -1, 0}, [5]int{16, 4, 1, 3, 160}, [5]int{25, 3, 7, 0, 5})},
		{four(), 15, 3, exts([5]int{10, 4, 1, 3, 64}, [5]int{14, 1, 2, -1, 0}, [5]int{18, 2, 1, 3, 192}, [5]int{25, 3, 7, 0, 5})},
		{four(), 13, 13, exts([5]int{10, 3, 1, 3, 64}, [5]int{26, 2, 7, 0, 21})},
		{four(), 26, mostLba - 26, exts([5]int{10, 4, 1, 3, 64}, [5]int{14, 2, 2, -1, 0}, [5]int{16, 4, 1, 3, 160}, [5]int{25, 1, 7, 0, 5})},
		{nil, 3, 4, nil},
		{loose(), 7, 1, loose()}, // what goes on stays as it is cut
		{loose(), 6, 3, exts([5]int{0, 2, 0, 1, 8}, [5]int{2, 1, 0, 1, 40}, [5]int{3, 1, 0, 1, 57}, [5]int{4, 1, 0, -1, 0}, [5]int{5, 1, 0, -1, 0})},
		{exts([5]int{0, 9, 5, -1, 0}), 3, 2, exts([5]int{0, 3, 5, -1, 0}, [5]int{5, 4, 5, -1, 0})},
		{exts([5]int{0, mostLba, 4, 1, 3}), 1, mostLba - 2, exts([5]int{0, 1, 4, 1, 3}, [5]int{mostLba - 1, 1, 4, 1, 16*(mostLba-1) + 3})},
	} {
		got, e := extent.Cut(c.l, c.lba, c.n)
		wantList(t, "Cut", got, e, c.want)
	}
}

func TestPut(t *testing.T) {
	for _, c := range []struct{ l, e, want []api.Ext }{
		{nil, nil, nil},
		{nil, four(), four()},
		{nil, exts([5]int{25, 3, 7, 0, 5}, [5]int{16, 4, 1, 3, 160}, [5]int{10, 4, 1, 3, 64}, [5]int{14, 2, 2, -1, 0}), four()}, // in whatever order
		{four(), nil, four()},
		{four(), four(), four()},
		{four(), exts([5]int{0, mostLba, 0, -1, 0}), exts([5]int{0, mostLba, 0, -1, 0})},
		{four(), exts([5]int{10, 18, 0, 9, 1}), exts([5]int{10, 18, 0, 9, 1})},                                                                                           // a lesser version counts as well
		{four(), exts([5]int{0, 1, 3, 4, 0}), append(exts([5]int{0, 1, 3, 4, 0}), four()...)},                                                                            // ahead
		{four(), exts([5]int{9, 1, 3, 4, 0}), append(exts([5]int{9, 1, 3, 4, 0}), four()...)},                                                                            // side by side
		{four(), exts([5]int{28, 1, 3, 4, 0}), append(four(), exts([5]int{28, 1, 3, 4, 0})...)},                                                                          // behind
		{four(), exts([5]int{20, 5, 3, 4, 0}), slices.Insert(four(), 3, exts([5]int{20, 5, 3, 4, 0})...)},                                                                // between
		{four(), exts([5]int{14, 2, 3, 4, 0}), exts([5]int{10, 4, 1, 3, 64}, [5]int{14, 2, 3, 4, 0}, [5]int{16, 4, 1, 3, 160}, [5]int{25, 3, 7, 0, 5})},                  // at one's place
		{four(), exts([5]int{14, 2, 1, 3, 128}), exts([5]int{10, 10, 1, 3, 64}, [5]int{25, 3, 7, 0, 5})},                                                                 // goes on at both sides
		{four(), exts([5]int{13, 4, 9, -1, 0}), exts([5]int{10, 3, 1, 3, 64}, [5]int{13, 4, 9, -1, 0}, [5]int{17, 3, 1, 3, 176}, [5]int{25, 3, 7, 0, 5})},                // over three
		{four(), exts([5]int{11, 1, 1, 3, 80}), four()},                                                                                                                  // as it was
		{exts([5]int{0, 9, 5, -1, 0}), exts([5]int{3, 2, 5, -1, 0}), exts([5]int{0, 9, 5, -1, 0})},                                                                       // as it was
		{exts([5]int{0, 9, 5, -1, 0}), exts([5]int{3, 2, 4, -1, 0}), exts([5]int{0, 3, 5, -1, 0}, [5]int{3, 2, 4, -1, 0}, [5]int{5, 4, 5, -1, 0})},                       // cut in two
		{nil, exts([5]int{0, 4, 1, 1, 0}, [5]int{2, 4, 2, 1, 64}), exts([5]int{0, 2, 1, 1, 0}, [5]int{2, 4, 2, 1, 64})},                                                  // the later one wins
		{nil, exts([5]int{2, 4, 2, 1, 64}, [5]int{0, 4, 1, 1, 0}), exts([5]int{0, 4, 1, 1, 0}, [5]int{4, 2, 2, 1, 96})},                                                  // likewise
		{nil, exts([5]int{0, 9, 1, 1, 0}, [5]int{3, 3, 2, 1, 500}, [5]int{4, 1, 1, 1, 64}, [5]int{3, 1, 1, 1, 48}, [5]int{5, 1, 1, 1, 80}), exts([5]int{0, 9, 1, 1, 0})}, // joined at the end
		{exts([5]int{3, 1, 8, 8, 8}), exts([5]int{0, 2, 1, 1, 0}, [5]int{5, 2, 1, 1, 80}, [5]int{2, 3, 1, 1, 32}), exts([5]int{0, 7, 1, 1, 0})},
		{loose(), nil, exts([5]int{0, 3, 0, 1, 8}, [5]int{3, 1, 0, 1, 57}, [5]int{4, 3, 0, -1, 0}, [5]int{8, 1, 0, -1, 0})}, // all is joined
		{loose(), exts([5]int{20, 1, 0, -1, 0}), exts([5]int{0, 3, 0, 1, 8}, [5]int{3, 1, 0, 1, 57}, [5]int{4, 3, 0, -1, 0}, [5]int{8, 1, 0, -1, 0}, [5]int{20, 1, 0, -1, 0})},
		{exts([5]int{0, mostLba, 4, 1, 3}), exts([5]int{mostLba - 1, 1, 4, -1, 0}, [5]int{0, 1, 4, -1, 0}), exts([5]int{0, 1, 4, -1, 0}, [5]int{1, mostLba - 2, 4, 1, 19}, [5]int{mostLba - 1, 1, 4, -1, 0})},
	} {
		got, e := extent.Put(c.l, c.e...)
		wantList(t, "Put", got, e, c.want)
	}
}

func TestPutWhatMayNotBe(t *testing.T) {
	good := api.Ext{Lba: 3, N: 4, Ver: 1, Zone: 1}
	for _, x := range badExts() {
		for _, e := range [][]api.Ext{{x}, {x, good}, {good, x}, {good, x, good}, {x, {N: mostLba, Zone: -1}}} {
			for _, l := range [][]api.Ext{nil, four()} {
				got, no := extent.Put(l, e...)
				wantError(t, e, got, no, api.ErrArg)
			}
		}
	}
}

// apart makes so many extents of a block each, none of which goes on.
func apart(many int) []api.Ext {
	l := make([]api.Ext, many)
	for i := range l {
		l[i] = api.Ext{Lba: i, N: 1, Ver: i % 2, Zone: 1, Off: 16 * i}
	}
	return l
}

func TestPutTooMany(t *testing.T) {
	full, over := apart(10000), apart(10001)
	for _, c := range [][2][]api.Ext{
		{nil, full},
		{full, nil},
		{full, {{Lba: 5, N: 1, Ver: 7, Zone: -1}}},
		{full[:9999], full[9999:]},
		{full, {over[10000], full[0], {Lba: 1, N: 1, Ver: 0, Zone: 1, Off: 16}}},  // 0 to 2 are one then
		{full, {over[10000], {Lba: 9999, N: 1, Ver: 0, Zone: 1, Off: 16 * 9999}}}, // the last three are one then
		{over, {{Lba: 4, N: 2, Ver: 7, Zone: -1}}},
		{nil, append(apart(10001), api.Ext{Lba: 4, N: 2, Ver: 7, Zone: -1})},
		{full, {{Lba: 10001, N: 1, Zone: -1}, {Lba: 10001, N: 9, Zone: -1}, {N: mostLba, Zone: -1}}}, // no more are too many but in the end
		{over, {{N: mostLba, Zone: -1}}},
	} {
		got, e := extent.Put(c[0], c[1]...)
		if len(got) == 0 || len(got) > 10000 || extent.Check(got) != api.OK || e != api.OK {
			t.Errorf("got %d extents, %d", len(got), e)
		}
	}
	for _, c := range [][2][]api.Ext{
		{nil, over},
		{over, nil},
		{full, over[10000:]},
		{full, {{Lba: 10002, N: 1, Zone: -1}}},
		{over, {{Lba: 4, N: 1, Ver: 7, Zone: -1}}},
		{exts([5]int{0, 3, 0, -1, 0}), append(apart(10001)[3:], api.Ext{Lba: 1, N: 1, Ver: 9, Zone: -1})},
	} {
		got, e := extent.Put(c[0], c[1]...)
		wantError(t, "too many", got, e, api.ErrLong)
	}
	got, e := extent.Put(over, api.Ext{})
	wantError(t, "too many, and one that may not be", got, e, api.ErrArg)
	got, e = extent.Put(append(apart(10001), api.Ext{}))
	wantError(t, "too many, of which one may not be", got, e, api.ErrArg)
}

// Only Put has a bound.
func TestVeryMany(t *testing.T) {
	l := apart(30000)
	if extent.Check(l) != api.OK || extent.Many(l) != 30000 || !extent.Same(l, l) || !slices.Equal(extent.Join(l), l) {
		t.Error("30000 extents may not be")
	}
	if x, is := extent.At(l, 23456); x != l[23456] || !is {
		t.Errorf("got %v, %v", x, is)
	}
	p, e := extent.Part(l, 5, 25000)
	wantList(t, "Part", p, e, l[5:25005])
	c, e := extent.Cut(l, 15000, 1)
	wantList(t, "Cut", c, e, slices.Delete(apart(30000), 15000, 15001))
	gapped := make([]api.Ext, 10000)
	for i := range gapped {
		gapped[i] = api.Ext{Lba: 4 * i, N: 3, Zone: -1}
	}
	c, e = extent.Cut(gapped, 20001, 1)
	wantList(t, "Cut in two", c, e, slices.Concat(gapped[:5000], exts([5]int{20000, 1, 0, -1, 0}, [5]int{20002, 1, 0, -1, 0}), gapped[5001:]))
	g, e := extent.Gaps(c, 0, 60000)
	if len(g) != 10001 || extent.Many(c)+extent.Many(g) != 60000 || e != api.OK {
		t.Errorf("got %d gaps, %d", len(g), e)
	}
}

// The chapter's example.
func TestExample(t *testing.T) {
	l, e := extent.Put(nil, api.Ext{Lba: 0, N: 8, Ver: 1, Zone: 2, Off: 100}, api.Ext{Lba: 3, N: 2, Ver: 2, Zone: 2, Off: 300})
	wantList(t, "Put", l, e, exts([5]int{0, 3, 1, 2, 100}, [5]int{3, 2, 2, 2, 300}, [5]int{5, 3, 1, 2, 180}))
}

// R2: nothing that was handed in is changed, and nothing is shared with what is told.
func TestNothingIsShared(t *testing.T) {
	put := func(l []api.Ext, e ...api.Ext) []api.Ext { p, _ := extent.Put(l, e...); return p }
	for name, call := range map[string]func(l []api.Ext) []api.Ext{
		"Join":         func(l []api.Ext) []api.Ext { return extent.Join(l) },
		"Join, one":    func(l []api.Ext) []api.Ext { return extent.Join(l[:1]) },
		"Part":         func(l []api.Ext) []api.Ext { p, _ := extent.Part(l, 11, 15); return p },
		"Part, all":    func(l []api.Ext) []api.Ext { p, _ := extent.Part(l, 0, 100); return p },
		"Part, one":    func(l []api.Ext) []api.Ext { p, _ := extent.Part(l, 14, 2); return p },
		"Part, none":   func(l []api.Ext) []api.Ext { p, _ := extent.Part(l, 20, 2); return p },
		"Gaps":         func(l []api.Ext) []api.Ext { g, _ := extent.Gaps(l, 0, 100); return g },
		"Cut":          func(l []api.Ext) []api.Ext { c, _ := extent.Cut(l, 11, 1); return c },
		"Cut, first":   func(l []api.Ext) []api.Ext { c, _ := extent.Cut(l, 0, 14); return c },
		"Cut, last":    func(l []api.Ext) []api.Ext { c, _ := extent.Cut(l, 20, 100); return c },
		"Cut, nothing": func(l []api.Ext) []api.Ext { c, _ := extent.Cut(l, 20, 1); return c },
		"Put":          func(l []api.Ext) []api.Ext { return put(l, l[2], api.Ext{Lba: 12, N: 1, Zone: -1}) },
		"Put, one":     func(l []api.Ext) []api.Ext { return put(l[:0], l[3]) },
		"Put, itself":  func(l []api.Ext) []api.Ext { return put(l, l...) },
		"Put, nothing": func(l []api.Ext) []api.Ext { return put(l) },
		"Put, all":     func(l []api.Ext) []api.Ext { return put(nil, l...) },
		"Put, wrong":   func(l []api.Ext) []api.Ext { return put(l, l[1], api.Ext{}) },
	} {
		l := append(make([]api.Ext, 0, 8), four()...) // with room that a call could write into
		told := call(l)
		if !slices.Equal(l, four()) || !slices.Equal(l[4:8], make([]api.Ext, 4)) {
			t.Errorf("%s changed what was handed in: %v", name, l[:8])
		}
		want := slices.Clone(told)
		for i := range l[:8] {
			l[:8][i] = api.Ext{Lba: -1}
		}
		if !slices.Equal(told, want) {
			t.Errorf("%s: what was told changed with what was handed in", name)
		}
		copy(l, four())
		told = told[:cap(told)]
		for i := range told {
			told[i] = api.Ext{Lba: -2}
		}
		if !slices.Equal(l, four()) {
			t.Errorf("%s: what was handed in changed with what was told", name)
		}
	}
}
