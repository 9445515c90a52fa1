package vmap_test

import (
	"math"
	"slices"
	"testing"

	"quickset/api"
	"quickset/extent"
	"quickset/vmap"
	"quickset/wire"
)

const (
	most    = 1 << 40 // of blocks, of zones, and of where a record's bytes begin
	mostEnd = 1 << 50 // where an extent's bytes end at the latest
	longest = 32768   // bytes of a map
)

// exts makes some that are written as Lba, N, Ver, Zone, Off.
func exts(l ...[5]int) []api.Ext {
	var out []api.Ext
	for _, x := range l {
		out = append(out, api.Ext{Lba: x[0], N: x[1], Ver: x[2], Zone: x[3], Off: x[4]})
	}
	return out
}

func ext(x ...int) api.Ext { return exts([5]int(x))[0] }

func data(lba, n, ver int) api.Rec {
	return api.Rec{Kind: api.DataR, Lba: lba, N: n, Ver: ver, Data: make([]byte, 16*n)}
}

func moved(lba, n, ver, zone, off int) api.Rec {
	return api.Rec{Kind: api.MoveR, Lba: lba, N: n, Ver: ver, Zone: zone, Off: off, Data: make([]byte, 16*n)}
}

func trim(lba, n, ver int) api.Rec {
	return api.Rec{Kind: api.TrimR, Lba: lba, N: n, Ver: ver}
}

func place(lba, n, ver, zone, off int) api.Rec {
	return api.Rec{Kind: api.MapR, Lba: lba, N: n, Ver: ver, Zone: zone, Off: off}
}

func check(ver int, b []byte) api.Rec {
	return api.Rec{Kind: api.CheckR, Ver: ver, Data: b}
}

// bytesOf writes numbers as the document says it of a map, without the program's Write.
func bytesOf(t *testing.T, l ...int) []byte {
	t.Helper()
	b, e := wire.Nums(l...)
	if e != api.OK {
		t.Fatalf("%v can't be written: %d", l, e)
	}
	return b
}

// base is a map with a gap ahead, one within, blocks that are trimmed, and two that stand side by side and do not go on.
func base() []api.Ext {
	return exts([5]int{10, 4, 3, 3, 64}, [5]int{14, 2, 5, -1, 0}, [5]int{16, 4, 3, 3, 160}, [5]int{25, 3, 7, 0, 5})
}

// loose is base, cut up.
func loose() []api.Ext {
	return exts([5]int{10, 1, 3, 3, 64}, [5]int{11, 3, 3, 3, 80}, [5]int{14, 1, 5, -1, 0}, [5]int{15, 1, 5, -1, 0}, [5]int{16, 4, 3, 3, 160}, [5]int{25, 2, 7, 0, 5}, [5]int{27, 1, 7, 0, 37})
}

// single makes many extents of one block each, none of which goes on.
func single(many int) []api.Ext {
	l := make([]api.Ext, many)
	for i := range l {
		l[i] = api.Ext{Lba: 2 * i, N: 1, Ver: 5, Zone: 1, Off: 0}
	}
	return l
}

// badExts are extents that may not be, each by one thing alone.
func badExts() []api.Ext {
	return exts(
		[5]int{-1, 1, 1, 3, 64},
		[5]int{-1, 2, 1, 3, 64},
		[5]int{math.MinInt, 1, 1, 3, 64},
		[5]int{5, 0, 1, 3, 64},
		[5]int{5, -1, 1, 3, 64},
		[5]int{5, math.MinInt, 1, 3, 64},
		[5]int{5, math.MaxInt, 1, 3, 64},
		[5]int{most, 1, 1, 3, 64},
		[5]int{1, most, 1, 3, 64},
		[5]int{math.MaxInt, math.MaxInt, 1, 3, 64},
		[5]int{5, 2, -1, 3, 64},
		[5]int{5, 2, math.MinInt, 3, 64},
		[5]int{5, 2, 1, -2, 0},
		[5]int{5, 2, 1, math.MinInt, 0},
		[5]int{5, 2, 1, most + 1, 64},
		[5]int{5, 2, 1, -1, 16},
		[5]int{5, 2, 1, 3, -1},
		[5]int{5, 2, 1, 3, mostEnd - 31},
		[5]int{5, 2, 1, 3, math.MaxInt},
		[5]int{},
	)
}

// badMaps are lists that may not be.
func badMaps() [][]api.Ext {
	var l [][]api.Ext
	for _, x := range badExts() {
		l = append(l, []api.Ext{x}, append(exts([5]int{0, 1, 1, 3, 64}), x), []api.Ext{x, {Lba: 20, N: 1, Zone: -1}})
	}
	for _, next := range [][5]int{{13, 1, 1, 3, 112}, {10, 4, 1, 3, 64}, {9, 1, 1, 3, 0}, {5, 9, 1, 3, 0}, {0, 20, 1, -1, 0}} {
		l = append(l, exts([5]int{10, 4, 1, 3, 64}, next), exts([5]int{2, 1, 1, 3, 0}, [5]int{10, 4, 1, 3, 64}, next))
	}
	return l
}

func wantMap(t *testing.T, what any, got []api.Ext, e api.Errno, want []api.Ext) {
	t.Helper()
	if !slices.Equal(got, want) || e != api.OK {
		t.Errorf("%v: got %v, %d, want %v", what, got, e, want)
	}
}

func wantError(t *testing.T, what any, got []api.Ext, e, want api.Errno) {
	t.Helper()
	if len(got) != 0 || e != want {
		t.Errorf("%v: got %d extents, %d, want the error %d", what, len(got), e, want)
	}
}

// The chapter's examples.
func TestExamples(t *testing.T) {
	one, two := data(5, 1, 1), data(5, 1, 2)
	a, e := vmap.Apply(nil, two, 7, 48)
	wantMap(t, "2", a, e, exts([5]int{5, 1, 2, 7, 48}))
	a, e = vmap.Apply(a, one, 6, 32)
	wantMap(t, "2, 1", a, e, exts([5]int{5, 1, 2, 7, 48}))
	b, e := vmap.Apply(nil, one, 6, 32)
	wantMap(t, "1", b, e, exts([5]int{5, 1, 1, 6, 32}))
	b, e = vmap.Apply(b, two, 7, 48)
	wantMap(t, "1, 2", b, e, a)
	c, m, e := vmap.Move(a, ext(5, 1, 1, 6, 32), ext(5, 1, 1, 9, 0))
	wantMap(t, "a move of version 1", c, e, a)
	wantMap(t, "what it moved", m, e, nil)
}

// P10.1

// Each kind of record tells of its blocks in its own way.
func TestApplyByKinds(t *testing.T) {
	b := bytesOf(t, 2, 1, 4, 9, 16, 7, 2, 0, 0, 0)
	for i, x := range []struct {
		r         api.Rec
		zone, off int
		want      []api.Ext
	}{
		{data(5, 1, 0), 0, 0, exts([5]int{5, 1, 0, 0, 0})},
		{data(5, 3, 8), 2, 7, exts([5]int{5, 3, 8, 2, 7})},
		{data(0, 256, 8), most, most, exts([5]int{0, 256, 8, most, most})},
		{data(most-1, 1, math.MaxInt), 1, 0, exts([5]int{most - 1, 1, math.MaxInt, 1, 0})},
		{moved(5, 3, 8, 6, 96), 2, 7, exts([5]int{5, 3, 8, 2, 7})},
		{moved(5, 1, 0, 0, 0), 2, 7, exts([5]int{5, 1, 0, 2, 7})},
		{moved(5, 1, 0, math.MaxInt, math.MaxInt), most, most, exts([5]int{5, 1, 0, most, most})},
		{moved(most-256, 256, 8, 6, 96), 2, 7, exts([5]int{most - 256, 256, 8, 2, 7})},
		{trim(5, 3, 8), 2, 7, exts([5]int{5, 3, 8, -1, 0})},
		{trim(5, 3, 0), 0, 0, exts([5]int{5, 3, 0, -1, 0})},
		{trim(0, most, 8), math.MaxInt, most, exts([5]int{0, most, 8, -1, 0})},
		{place(5, 3, 8, 6, 96), 2, 7, exts([5]int{5, 3, 8, 6, 96})},
		{place(5, 3, 8, 0, 0), 2, 7, exts([5]int{5, 3, 8, 0, 0})},
		{place(0, most, 8, most, mostEnd-16*most), math.MaxInt, most, exts([5]int{0, most, 8, most, mostEnd - 16*most})},
		{place(5, 1000, 8, 1, mostEnd-16000), 2, 7, exts([5]int{5, 1000, 8, 1, mostEnd - 16000})},
		{check(3, b), 2, 7, exts([5]int{2, 1, 4, 8, 16}, [5]int{7, 2, 0, -1, 0})},
		{check(0, b), math.MaxInt, most, exts([5]int{2, 1, 4, 8, 16}, [5]int{7, 2, 0, -1, 0})},
		{check(3, nil), 2, 7, nil},
	} {
		got, e := vmap.Apply(nil, x.r, x.zone, x.off)
		wantMap(t, i, got, e, x.want)
		got, e = vmap.Apply(got, x.r, x.zone, x.off)
		wantMap(t, i, got, e, x.want)
	}
}

// Blocks of no one, and those of a lesser version, are the record's; the others stay as they are.
func TestApplyToAMap(t *testing.T) {
	for _, x := range []struct {
		r    api.Rec
		want []api.Ext
	}{
		{data(0, 10, 0), exts([5]int{0, 10, 0, 2, 7}, [5]int{10, 4, 3, 3, 64}, [5]int{14, 2, 5, -1, 0}, [5]int{16, 4, 3, 3, 160}, [5]int{25, 3, 7, 0, 5})},
		{data(8, 20, 2), exts([5]int{8, 2, 2, 2, 7}, [5]int{10, 4, 3, 3, 64}, [5]int{14, 2, 5, -1, 0}, [5]int{16, 4, 3, 3, 160}, [5]int{20, 5, 2, 2, 199}, [5]int{25, 3, 7, 0, 5})},
		{data(8, 20, 3), exts([5]int{8, 2, 3, 2, 7}, [5]int{10, 4, 3, 3, 64}, [5]int{14, 2, 5, -1, 0}, [5]int{16, 4, 3, 3, 160}, [5]int{20, 5, 3, 2, 199}, [5]int{25, 3, 7, 0, 5})},
		{data(8, 20, 4), exts([5]int{8, 6, 4, 2, 7}, [5]int{14, 2, 5, -1, 0}, [5]int{16, 9, 4, 2, 135}, [5]int{25, 3, 7, 0, 5})},
		{data(8, 20, 6), exts([5]int{8, 17, 6, 2, 7}, [5]int{25, 3, 7, 0, 5})},
		{data(8, 20, 8), exts([5]int{8, 20, 8, 2, 7})},
		{data(11, 2, 4), exts([5]int{10, 1, 3, 3, 64}, [5]int{11, 2, 4, 2, 7}, [5]int{13, 1, 3, 3, 112}, [5]int{14, 2, 5, -1, 0}, [5]int{16, 4, 3, 3, 160}, [5]int{25, 3, 7, 0, 5})},
		{data(11, 2, 3), base()},
		{data(25, 3, 7), base()},
		{data(25, 3, 6), base()},
		{trim(14, 2, 5), base()},
		{trim(13, 4, 5), exts([5]int{10, 3, 3, 3, 64}, [5]int{13, 4, 5, -1, 0}, [5]int{17, 3, 3, 3, 176}, [5]int{25, 3, 7, 0, 5})},
		{trim(26, 1, 8), exts([5]int{10, 4, 3, 3, 64}, [5]int{14, 2, 5, -1, 0}, [5]int{16, 4, 3, 3, 160}, [5]int{25, 1, 7, 0, 5}, [5]int{26, 1, 8, -1, 0}, [5]int{27, 1, 7, 0, 37})},
		{trim(30, 2, 0), append(base(), ext(30, 2, 0, -1, 0))},
		{place(14, 2, 6, 3, 128), exts([5]int{10, 4, 3, 3, 64}, [5]int{14, 2, 6, 3, 128}, [5]int{16, 4, 3, 3, 160}, [5]int{25, 3, 7, 0, 5})},
		{place(20, 5, 3, 3, 224), exts([5]int{10, 4, 3, 3, 64}, [5]int{14, 2, 5, -1, 0}, [5]int{16, 9, 3, 3, 160}, [5]int{25, 3, 7, 0, 5})},
		{place(28, 1, 7, 0, 53), exts([5]int{10, 4, 3, 3, 64}, [5]int{14, 2, 5, -1, 0}, [5]int{16, 4, 3, 3, 160}, [5]int{25, 4, 7, 0, 5})},
		{check(99, bytesOf(t, 13, 1, 4, 1, 0, 14, 1, 4, 1, 0, 15, 1, 6, 1, 0, 25, 4, 7, 3, 0)), exts([5]int{10, 3, 3, 3, 64}, [5]int{13, 1, 4, 0, 0}, [5]int{14, 1, 5, -1, 0}, [5]int{15, 1, 6, 0, 0}, [5]int{16, 4, 3, 3, 160}, [5]int{25, 3, 7, 0, 5}, [5]int{28, 1, 7, 2, 48})},
		{check(99, nil), base()},
	} {
		got, e := vmap.Apply(base(), x.r, 2, 7)
		wantMap(t, x.r, got, e, x.want)
		got, e = vmap.Apply(loose(), x.r, 2, 7)
		wantMap(t, x.r, got, e, x.want)
	}
}

// A record that may not be, or a place.
func TestApplyErrors(t *testing.T) {
	long := make([]byte, longest+1)
	for i, x := range []struct {
		r         api.Rec
		zone, off int
		want      api.Errno
	}{
		{api.Rec{}, 2, 7, api.ErrArg},
		{api.Rec{Kind: 6, N: 1}, 2, 7, api.ErrArg},
		{api.Rec{Kind: -1, N: 1}, 2, 7, api.ErrArg},
		{api.Rec{Kind: api.DataR, N: 1}, 2, 7, api.ErrArg},
		{api.Rec{Kind: api.DataR, N: 1, Data: make([]byte, 15)}, 2, 7, api.ErrArg},
		{data(0, 257, 1), 2, 7, api.ErrArg},
		{data(0, 0, 1), 2, 7, api.ErrArg},
		{data(-1, 1, 1), 2, 7, api.ErrArg},
		{data(most, 1, 1), 2, 7, api.ErrArg},
		{data(5, 1, -1), 2, 7, api.ErrArg},
		{moved(0, 1, 1, -1, 0), 2, 7, api.ErrArg},
		{trim(5, 0, 1), 2, 7, api.ErrArg},
		{trim(5, most, 1), 2, 7, api.ErrArg},
		{api.Rec{Kind: api.TrimR, N: 1, Zone: 1}, 2, 7, api.ErrArg},
		{api.Rec{Kind: api.TrimR, N: 1, Data: []byte{1}}, 2, 7, api.ErrArg},
		{place(5, 1, 1, -1, 0), 2, 7, api.ErrArg},
		{place(5, 0, 1, 1, 0), 2, 7, api.ErrArg},
		{check(-1, nil), 2, 7, api.ErrArg},
		{check(1, long), 2, 7, api.ErrArg},
		{api.Rec{Kind: api.CheckR, N: 1}, 2, 7, api.ErrArg},

		{data(5, 1, 1), -1, 7, api.ErrArg},
		{data(5, 1, 1), 2, -1, api.ErrArg},
		{data(5, 1, 1), math.MinInt, math.MinInt, api.ErrArg},
		{data(5, 1, 1), 2, most + 1, api.ErrArg},
		{data(5, 1, 1), 2, math.MaxInt, api.ErrArg},
		{trim(5, 1, 1), -1, 7, api.ErrArg},
		{trim(5, 1, 1), 2, -1, api.ErrArg},
		{trim(5, 1, 1), 2, most + 1, api.ErrArg},
		{place(5, 1, 1, 1, 0), -1, 7, api.ErrArg},
		{place(5, 1, 1, 1, 0), 2, -1, api.ErrArg},
		{place(5, 1, 1, 1, 0), 2, most + 1, api.ErrArg},
		{moved(5, 1, 1, 1, 0), -1, 7, api.ErrArg},
		{moved(5, 1, 1, 1, 0), 2, -1, api.ErrArg},
		{moved(5, 1, 1, 1, 0), 2, most + 1, api.ErrArg},
		{check(1, nil), -1, 7, api.ErrArg},
		{check(1, nil), 2, -1, api.ErrArg},
		{check(1, nil), 2, most + 1, api.ErrArg},

		{data(5, 1, 1), most + 1, 7, api.ErrArg},
		{data(5, 1, 1), math.MaxInt, 7, api.ErrArg},
		{moved(5, 1, 1, 1, 0), most + 1, 7, api.ErrArg},
		{place(5, 1, 1, most+1, 0), 2, 7, api.ErrArg},
		{place(5, 1, 1, math.MaxInt, 0), 2, 7, api.ErrArg},
		{place(5, 2, 1, 1, mostEnd-31), 2, 7, api.ErrArg},
		{place(5, 1, 1, 1, math.MaxInt), 2, 7, api.ErrArg},

		{check(1, []byte{1}), 2, 7, api.ErrForm},
		{check(1, []byte{0, 1, 0, 0, 1}), 2, 7, api.ErrForm},
		{check(1, []byte{0, 1, 0, 0, 0, 1, 1, 0, 0, 0}), 2, 7, api.ErrForm},
		{check(1, make([]byte, longest)), 2, 7, api.ErrForm},
		{check(1, []byte{1}), -1, 7, api.ErrArg},
		{check(-1, []byte{1}), 2, 7, api.ErrArg},
	} {
		for _, m := range [][]api.Ext{nil, base(), single(api.MaxExts)} {
			got, e := vmap.Apply(m, x.r, x.zone, x.off)
			wantError(t, i, got, e, x.want)
		}
	}
}

// What comes of it has at most MaxExts.
func TestApplyLong(t *testing.T) {
	for _, x := range []struct {
		what string
		m    []api.Ext
		r    api.Rec
		want api.Errno
	}{
		{"one more of many", single(api.MaxExts - 1), data(1, 1, 5), api.OK},
		{"one too many", single(api.MaxExts), data(1, 1, 5), api.ErrLong},
		{"one too many, trimmed", single(api.MaxExts), trim(1, 1, 5), api.ErrLong},
		{"one too many, of a place", single(api.MaxExts), place(1, 1, 5, 9, 0), api.ErrLong},
		{"one too many, of a checkpoint", single(api.MaxExts), check(5, bytesOf(t, 1, 1, 5, 9, 0)), api.ErrLong},
		{"one too many, behind all", single(api.MaxExts), data(2*api.MaxExts, 1, 5), api.ErrLong},
		{"one instead of one", single(api.MaxExts), data(2, 1, 6), api.OK},
		{"an elder one", single(api.MaxExts), data(2, 1, 5), api.OK},
		{"one that goes on", single(api.MaxExts), place(1, 1, 5, 1, 16), api.OK},
		{"one over several", single(api.MaxExts + 2), data(0, 5, 6), api.OK},
		{"one over too few", single(api.MaxExts + 2), data(0, 3, 6), api.ErrLong},
		{"one over all", single(2 * api.MaxExts), trim(0, 4*api.MaxExts, 6), api.OK},
		{"nothing", single(api.MaxExts), check(5, nil), api.OK},
		{"nothing to too many", single(api.MaxExts + 1), check(5, nil), api.ErrLong},
		{"below all of them", single(api.MaxExts / 2), data(0, 256, 4), api.OK},
		{"below too many of them", single(api.MaxExts/2 + 1), trim(0, api.MaxExts+3, 4), api.ErrLong},
		{"below as many as may be", single(api.MaxExts / 2), trim(0, api.MaxExts, 4), api.OK},
	} {
		got, e := vmap.Apply(x.m, x.r, 9, 0)
		if e != x.want || (e == api.OK) != (len(got) > 0) || len(got) > api.MaxExts {
			t.Errorf("%s: got %d extents, %d, want %d", x.what, len(got), e, x.want)
		}
	}
	m := make([]api.Ext, 2*api.MaxExts)
	for i := range m {
		m[i] = api.Ext{Lba: i, N: 1, Ver: 1, Zone: 1, Off: 16 * i}
	}
	got, e := vmap.Apply(m, trim(0, 1, 2), 0, 0)
	wantMap(t, "many that go on", got, e, exts([5]int{0, 1, 2, -1, 0}, [5]int{1, 2*api.MaxExts - 1, 1, 1, 16}))
}

// P10.2

func TestMove(t *testing.T) {
	for i, x := range []struct {
		from, to   api.Ext
		want, told []api.Ext
	}{
		{ext(10, 4, 3, 3, 64), ext(10, 4, 3, 8, 7), exts([5]int{10, 4, 3, 8, 7}, [5]int{14, 2, 5, -1, 0}, [5]int{16, 4, 3, 3, 160}, [5]int{25, 3, 7, 0, 5}), exts([5]int{10, 4, 3, 8, 7})},
		{ext(11, 2, 3, 3, 80), ext(11, 2, 3, 8, 7), exts([5]int{10, 1, 3, 3, 64}, [5]int{11, 2, 3, 8, 7}, [5]int{13, 1, 3, 3, 112}, [5]int{14, 2, 5, -1, 0}, [5]int{16, 4, 3, 3, 160}, [5]int{25, 3, 7, 0, 5}), exts([5]int{11, 2, 3, 8, 7})},
		// What was trimmed, or written, since then stays; so do blocks that the map does not have.
		{ext(8, 14, 3, 3, 32), ext(8, 14, 3, 8, 7), exts([5]int{10, 4, 3, 8, 39}, [5]int{14, 2, 5, -1, 0}, [5]int{16, 4, 3, 8, 135}, [5]int{25, 3, 7, 0, 5}), exts([5]int{10, 4, 3, 8, 39}, [5]int{16, 4, 3, 8, 135})},
		{ext(12, 5, 3, 3, 96), ext(12, 5, 3, 8, 7), exts([5]int{10, 2, 3, 3, 64}, [5]int{12, 2, 3, 8, 7}, [5]int{14, 2, 5, -1, 0}, [5]int{16, 1, 3, 8, 71}, [5]int{17, 3, 3, 3, 176}, [5]int{25, 3, 7, 0, 5}), exts([5]int{12, 2, 3, 8, 7}, [5]int{16, 1, 3, 8, 71})},
		{ext(26, 2, 7, 0, 21), ext(26, 2, 7, 0, 22), exts([5]int{10, 4, 3, 3, 64}, [5]int{14, 2, 5, -1, 0}, [5]int{16, 4, 3, 3, 160}, [5]int{25, 1, 7, 0, 5}, [5]int{26, 2, 7, 0, 22}), exts([5]int{26, 2, 7, 0, 22})},
		{ext(26, 2, 7, 0, 21), ext(26, 2, 7, 1, 21), exts([5]int{10, 4, 3, 3, 64}, [5]int{14, 2, 5, -1, 0}, [5]int{16, 4, 3, 3, 160}, [5]int{25, 1, 7, 0, 5}, [5]int{26, 2, 7, 1, 21}), exts([5]int{26, 2, 7, 1, 21})},
		// To where it is.
		{ext(10, 4, 3, 3, 64), ext(10, 4, 3, 3, 64), base(), exts([5]int{10, 4, 3, 3, 64})},
		// Not just where from has it: another version, zone, place; nothing there; trimmed.
		{ext(10, 4, 2, 3, 64), ext(10, 4, 2, 8, 7), base(), nil},
		{ext(10, 4, 4, 3, 64), ext(10, 4, 4, 8, 7), base(), nil},
		{ext(10, 4, 3, 2, 64), ext(10, 4, 3, 8, 7), base(), nil},
		{ext(10, 4, 3, 3, 65), ext(10, 4, 3, 8, 7), base(), nil},
		{ext(10, 4, 3, 3, 48), ext(10, 4, 3, 8, 7), base(), nil},
		{ext(11, 3, 3, 3, 64), ext(11, 3, 3, 8, 7), base(), nil},
		{ext(9, 5, 3, 3, 64), ext(9, 5, 3, 8, 7), base(), nil},
		{ext(0, 10, 3, 3, 64), ext(0, 10, 3, 8, 7), base(), nil},
		{ext(20, 5, 3, 3, 64), ext(20, 5, 3, 8, 7), base(), nil},
		{ext(14, 2, 5, 0, 0), ext(14, 2, 5, 8, 7), base(), nil},
		{ext(28, most-28, 7, 0, 5), ext(28, most-28, 7, 8, 7), base(), nil},
		{ext(0, most, 0, 0, 0), ext(0, most, 0, most, mostEnd-16*most), base(), nil},
		// One of two that stand at places of their own.
		{ext(14, 6, 3, 3, 128), ext(14, 6, 3, 3, 0), exts([5]int{10, 4, 3, 3, 64}, [5]int{14, 2, 5, -1, 0}, [5]int{16, 4, 3, 3, 32}, [5]int{25, 3, 7, 0, 5}), exts([5]int{16, 4, 3, 3, 32})},
		{ext(16, 4, 3, 3, 160), ext(16, 4, 3, most, mostEnd-64), exts([5]int{10, 4, 3, 3, 64}, [5]int{14, 2, 5, -1, 0}, [5]int{16, 4, 3, most, mostEnd - 64}, [5]int{25, 3, 7, 0, 5}), exts([5]int{16, 4, 3, most, mostEnd - 64})},
	} {
		for _, m := range [][]api.Ext{base(), loose()} {
			got, told, e := vmap.Move(m, x.from, x.to)
			wantMap(t, i, got, e, x.want)
			wantMap(t, []any{i, "told"}, told, e, x.told)
		}
		got, told, e := vmap.Move(nil, x.from, x.to)
		wantMap(t, i, got, e, nil)
		wantMap(t, i, told, e, nil)
	}
}

// Blocks that stood apart go on where they were moved to: the map and what is told of it are joined.
func TestMoveJoins(t *testing.T) {
	m := exts([5]int{4, 2, 1, 5, 64}, [5]int{6, 2, 1, 3, 96}, [5]int{8, 2, 1, 5, 128})
	got, told, e := vmap.Move(m, ext(6, 2, 1, 3, 96), ext(6, 2, 1, 5, 96))
	wantMap(t, "between", got, e, exts([5]int{4, 6, 1, 5, 64}))
	wantMap(t, "told", told, e, exts([5]int{6, 2, 1, 5, 96}))

	got, told, e = vmap.Move(loose(), ext(10, 4, 3, 3, 64), ext(10, 4, 3, 3, 96))
	wantMap(t, "cut up", got, e, exts([5]int{10, 4, 3, 3, 96}, [5]int{14, 2, 5, -1, 0}, [5]int{16, 4, 3, 3, 160}, [5]int{25, 3, 7, 0, 5}))
	wantMap(t, "told", told, e, exts([5]int{10, 4, 3, 3, 96}))
}

func TestMoveErrors(t *testing.T) {
	good := ext(10, 4, 3, 3, 64)
	wrong := exts([5]int{10, 4, 3, -1, 0}, [5]int{9, 4, 3, 3, 64}, [5]int{11, 4, 3, 3, 64}, [5]int{10, 3, 3, 3, 64}, [5]int{10, 5, 3, 3, 64}, [5]int{10, 4, 2, 3, 64}, [5]int{10, 4, 4, 3, 64})
	for _, m := range [][]api.Ext{base(), nil, single(api.MaxExts + 1)} {
		for _, x := range append(badExts(), wrong...) {
			for _, both := range [][2]api.Ext{{good, x}, {x, good}} {
				got, told, e := vmap.Move(m, both[0], both[1])
				wantError(t, both, got, e, api.ErrArg)
				wantError(t, both, told, e, api.ErrArg)
			}
		}
		for _, x := range append(badExts(), ext(10, 4, 3, -1, 0), ext(14, 2, 5, -1, 0)) {
			got, told, e := vmap.Move(m, x, x)
			wantError(t, x, got, e, api.ErrArg)
			wantError(t, x, told, e, api.ErrArg)
			other := x
			other.Zone, other.Off = 3, 64
			if extent.Check([]api.Ext{other}) == api.OK {
				got, told, e = vmap.Move(m, x, other)
				wantError(t, x, got, e, api.ErrArg)
				wantError(t, x, told, e, api.ErrArg)
				got, told, e = vmap.Move(m, other, x)
				wantError(t, x, got, e, api.ErrArg)
				wantError(t, x, told, e, api.ErrArg)
			}
		}
	}
}

// A map that would have more than MaxExts is not told.
func TestMoveLong(t *testing.T) {
	m := append(single(api.MaxExts-1), ext(most-4, 3, 5, 1, 0))
	got, told, e := vmap.Move(m, ext(most-4, 3, 5, 1, 0), ext(most-4, 3, 5, 2, 0))
	if len(got) != api.MaxExts || len(told) != 1 || e != api.OK {
		t.Errorf("got %d extents, %v, %d", len(got), told, e)
	}
	for _, x := range []struct{ lba, n, off int }{{most - 4, 1, 0}, {most - 3, 1, 16}, {most - 2, 1, 32}} {
		got, told, e = vmap.Move(m, ext(x.lba, x.n, 5, 1, x.off), ext(x.lba, x.n, 5, 2, 0))
		wantError(t, x, got, e, api.ErrLong)
		wantError(t, x, told, e, api.ErrLong)
	}
}

// P10.3

func TestMerge(t *testing.T) {
	for i, x := range []struct {
		l    [][]api.Ext
		want []api.Ext
	}{
		{nil, base()},
		{[][]api.Ext{nil}, base()},
		{[][]api.Ext{nil, {}, nil}, base()},
		{[][]api.Ext{base()}, base()},
		{[][]api.Ext{loose(), base(), loose()}, base()},
		{[][]api.Ext{exts([5]int{9, 20, 4, 8, 0})}, exts([5]int{9, 5, 4, 8, 0}, [5]int{14, 2, 5, -1, 0}, [5]int{16, 9, 4, 8, 112}, [5]int{25, 3, 7, 0, 5}, [5]int{28, 1, 4, 8, 304})},
		// Of the same version the map's stays, and of those offered the first one.
		{[][]api.Ext{exts([5]int{10, 4, 3, 8, 0})}, base()},
		{[][]api.Ext{exts([5]int{10, 2, 4, 8, 0}), exts([5]int{11, 2, 4, 9, 0})}, exts([5]int{10, 2, 4, 8, 0}, [5]int{12, 1, 4, 9, 16}, [5]int{13, 1, 3, 3, 112}, [5]int{14, 2, 5, -1, 0}, [5]int{16, 4, 3, 3, 160}, [5]int{25, 3, 7, 0, 5})},
		{[][]api.Ext{exts([5]int{11, 2, 4, 9, 0}), exts([5]int{10, 2, 4, 8, 0})}, exts([5]int{10, 1, 4, 8, 0}, [5]int{11, 2, 4, 9, 0}, [5]int{13, 1, 3, 3, 112}, [5]int{14, 2, 5, -1, 0}, [5]int{16, 4, 3, 3, 160}, [5]int{25, 3, 7, 0, 5})},
		{[][]api.Ext{exts([5]int{0, 1, 1, 8, 0}), exts([5]int{0, 1, 1, 9, 0}), exts([5]int{0, 1, 1, 7, 0})}, append(exts([5]int{0, 1, 1, 8, 0}), base()...)},
		// A newer one among elder ones.
		{[][]api.Ext{exts([5]int{0, 1, 1, 8, 0}), exts([5]int{0, 1, 9, 9, 0}), exts([5]int{0, 1, 5, 7, 0})}, append(exts([5]int{0, 1, 9, 9, 0}), base()...)},
		// Each extent is offered by itself: they need not be in order, nor stand apart.
		{[][]api.Ext{exts([5]int{4, 1, 2, 8, 0}, [5]int{2, 1, 2, 9, 0})}, append(exts([5]int{2, 1, 2, 9, 0}, [5]int{4, 1, 2, 8, 0}), base()...)},
		{[][]api.Ext{exts([5]int{2, 4, 1, 8, 0}, [5]int{3, 1, 2, 9, 0})}, append(exts([5]int{2, 1, 1, 8, 0}, [5]int{3, 1, 2, 9, 0}, [5]int{4, 2, 1, 8, 32}), base()...)},
		{[][]api.Ext{exts([5]int{14, 2, 6, 3, 128})}, exts([5]int{10, 4, 3, 3, 64}, [5]int{14, 2, 6, 3, 128}, [5]int{16, 4, 3, 3, 160}, [5]int{25, 3, 7, 0, 5})},
	} {
		for _, m := range [][]api.Ext{base(), loose()} {
			got, e := vmap.Merge(m, x.l...)
			wantMap(t, i, got, e, x.want)
		}
	}
	got, e := vmap.Merge(nil, loose(), nil, exts([5]int{0, 1, 0, -1, 0}))
	wantMap(t, "to none", got, e, append(exts([5]int{0, 1, 0, -1, 0}), base()...))
	got, e = vmap.Merge(nil)
	wantMap(t, "nothing", got, e, nil)
}

// One extent that may not be, wherever it stands.
func TestMergeErrors(t *testing.T) {
	for _, x := range badExts() {
		for _, l := range [][][]api.Ext{{{x}}, {base(), {x}}, {{x}, base()}, {append(base(), x)}, {{x}, {x}}, {{x, {Lba: 0, N: most, Zone: -1}}}, {{{Lba: 0, N: most, Zone: -1}}, nil, {x}}} {
			for _, m := range [][]api.Ext{nil, base(), single(api.MaxExts + 1)} {
				got, e := vmap.Merge(m, l...)
				wantError(t, l, got, e, api.ErrArg)
			}
		}
	}
}

// Sums of numbers that may not be wrap round to what may be, and are no less wrong.
func TestMergeOfWrapsRound(t *testing.T) {
	for _, l := range [][]api.Ext{
		exts([5]int{math.MaxInt, math.MaxInt, 1, 1, 0}, [5]int{5, 1, 1, 1, 0}),
		exts([5]int{5, 1, 1, 1, 0}, [5]int{7, math.MinInt, 1, 1, 0}),
		exts([5]int{5, math.MaxInt, 1, 1, 0}, [5]int{9, 1, 1, 1, 0}),
		exts([5]int{5, -3, 1, 1, 0}, [5]int{5, 1, 1, 1, 0}),
		exts([5]int{9, 1, 1, 1, 0}, [5]int{5, 0, 1, 1, 0}),
	} {
		got, e := vmap.Merge(base(), l)
		wantError(t, l, got, e, api.ErrArg)
		slices.Reverse(l)
		got, e = vmap.Merge(base(), l)
		wantError(t, l, got, e, api.ErrArg)
	}
}

// A map that would have more than MaxExts is not told; how many there are on the way does not count.
func TestMergeLong(t *testing.T) {
	odd := single(api.MaxExts)
	for i := range odd {
		odd[i].Lba++
	}
	cover := ext(0, 4*api.MaxExts, 6, 2, 0)
	for _, x := range []struct {
		what string
		m    []api.Ext
		l    [][]api.Ext
		want int // 0: too many
	}{
		{"as many as may be", single(api.MaxExts / 2), [][]api.Ext{odd[:api.MaxExts/2]}, api.MaxExts},
		{"one too many", single(api.MaxExts / 2), [][]api.Ext{odd[:api.MaxExts/2+1]}, 0},
		{"one too many behind", single(api.MaxExts), [][]api.Ext{exts([5]int{most - 1, 1, 0, -1, 0})}, 0},
		{"too many of its own", single(api.MaxExts + 1), nil, 0},
		{"too many, of none", nil, [][]api.Ext{single(api.MaxExts + 1)}, 0},
		{"too many on the way", single(api.MaxExts), [][]api.Ext{odd, {cover}}, 1},
		{"too many below", []api.Ext{cover}, [][]api.Ext{single(api.MaxExts), odd}, 1},
		{"too many offered first", nil, [][]api.Ext{single(3 * api.MaxExts / 2), odd, {cover}}, 1},
		{"too many on the way, in another order", nil, [][]api.Ext{{cover}, single(3 * api.MaxExts / 2), odd}, 1},
	} {
		got, e := vmap.Merge(x.m, x.l...)
		if len(got) != x.want || (e == api.OK) != (x.want > 0) || e != api.OK && e != api.ErrLong {
			t.Errorf("%s: got %d extents, %d", x.what, len(got), e)
		}
	}
}

func TestLook(t *testing.T) {
	for _, x := range []struct {
		lba, n int
		want   []api.Ext
	}{
		{10, 4, exts([5]int{10, 4, 3, 3, 64})},
		{11, 2, exts([5]int{11, 2, 3, 3, 80})},
		{12, 5, exts([5]int{12, 2, 3, 3, 96}, [5]int{14, 2, 5, -1, 0}, [5]int{16, 1, 3, 3, 160})},
		{0, 10, exts([5]int{0, 10, 0, -1, 0})},
		{9, 2, exts([5]int{9, 1, 0, -1, 0}, [5]int{10, 1, 3, 3, 64})},
		{19, 8, exts([5]int{19, 1, 3, 3, 208}, [5]int{20, 5, 0, -1, 0}, [5]int{25, 2, 7, 0, 5})},
		{22, 1, exts([5]int{22, 1, 0, -1, 0})},
		{27, most - 27, exts([5]int{27, 1, 7, 0, 37}, [5]int{28, most - 28, 0, -1, 0})},
		{28, 1, exts([5]int{28, 1, 0, -1, 0})},
		{most - 1, 1, exts([5]int{most - 1, 1, 0, -1, 0})},
		{0, most, exts([5]int{0, 10, 0, -1, 0}, [5]int{10, 4, 3, 3, 64}, [5]int{14, 2, 5, -1, 0}, [5]int{16, 4, 3, 3, 160}, [5]int{20, 5, 0, -1, 0}, [5]int{25, 3, 7, 0, 5}, [5]int{28, most - 28, 0, -1, 0})},
	} {
		for _, m := range [][]api.Ext{base(), loose()} {
			got, e := vmap.Look(m, x.lba, x.n)
			wantMap(t, []int{x.lba, x.n}, got, e, x.want)
		}
		got, e := vmap.Look(nil, x.lba, x.n)
		wantMap(t, []int{x.lba, x.n}, got, e, exts([5]int{x.lba, x.n, 0, -1, 0}))
	}
	// Blocks that were trimmed under the version 0 are told together with those that are not there.
	got, e := vmap.Look(exts([5]int{3, 1, 0, -1, 0}, [5]int{5, 1, 1, -1, 0}), 2, 6)
	wantMap(t, "trimmed", got, e, exts([5]int{2, 3, 0, -1, 0}, [5]int{5, 1, 1, -1, 0}, [5]int{6, 2, 0, -1, 0}))

	for _, x := range [][2]int{{-1, 1}, {-1, 2}, {0, 0}, {10, 0}, {10, -1}, {0, most + 1}, {1, most}, {most, 1}, {most - 1, 2}, {math.MinInt, 5}, {5, math.MinInt}, {math.MaxInt, 1}, {1, math.MaxInt}, {math.MaxInt, math.MaxInt}} {
		for _, m := range [][]api.Ext{nil, base()} {
			got, e := vmap.Look(m, x[0], x[1])
			wantError(t, x, got, e, api.ErrArg)
		}
	}
}

// There is no bound to what is told of a map.
func TestLookLong(t *testing.T) {
	m := single(api.MaxExts)
	got, e := vmap.Look(m, 0, 2*api.MaxExts)
	if len(got) != 2*api.MaxExts || e != api.OK {
		t.Fatalf("got %d extents, %d", len(got), e)
	}
	for i, x := range got {
		if want := ext(i, 1, 5*(1-i%2), 1-2*(i%2), 0); x != want {
			t.Fatalf("%d: got %v, want %v", i, x, want)
		}
	}
}

func TestWrite(t *testing.T) {
	for _, x := range []struct {
		m    []api.Ext
		want []byte
	}{
		{nil, nil},
		{exts([5]int{0, 1, 0, -1, 0}), []byte{0, 1, 0, 0, 0}},
		{exts([5]int{5, 2, 3, 0, 7}), []byte{5, 2, 3, 1, 7}},
		{exts([5]int{300, 2, 3, 127, 128}), []byte{172, 2, 2, 3, 128, 1, 128, 1}},
		{exts([5]int{5, 2, 3, 0, 7}, [5]int{9, 1, 4, -1, 0}), []byte{5, 2, 3, 1, 7, 9, 1, 4, 0, 0}},
		{exts([5]int{5, 2, 3, 0, 7}, [5]int{7, 1, 3, 0, 39}), []byte{5, 2, 3, 1, 7, 7, 1, 3, 1, 39}}, // as it is
		{exts([5]int{5, 2, 3, -1, 0}, [5]int{7, 1, 3, -1, 0}), []byte{5, 2, 3, 0, 0, 7, 1, 3, 0, 0}},
		{exts([5]int{most - 1, 1, math.MaxInt, most, mostEnd - 16}), bytesOf(t, most-1, 1, math.MaxInt, most+1, mostEnd-16)},
	} {
		got, e := vmap.Write(x.m)
		if !slices.Equal(got, x.want) || e != api.OK {
			t.Errorf("%v: got %v, %d, want %v", x.m, got, e, x.want)
		}
	}
}

// What is written has at most 32768 bytes.
func TestWriteLong(t *testing.T) {
	var m []api.Ext
	size := 0
	for size+6 <= longest {
		x := api.Ext{Lba: 128 + len(m), N: 1, Ver: len(m) % 2, Zone: 1}
		m = append(m, x)
		size += len(bytesOf(t, x.Lba, 1, x.Ver, 2, 0))
	}
	last := len(m) - 1
	m, size = m[:last], size-len(bytesOf(t, m[last].Lba, 1, 0, 2, 0))
	for _, more := range []int{longest - size, longest - size + 1} {
		x := api.Ext{Lba: 16383, N: 1, Zone: 1} // six bytes, and more with a longer version
		x.Ver = 1 << (7 * (more - 6))
		if more == 6 {
			x.Ver = 1
		}
		b, e := vmap.Write(append(slices.Clone(m), x))
		if size+more <= longest {
			if len(b) != longest || e != api.OK {
				t.Errorf("got %d bytes, %d", len(b), e)
			}
			r, e := vmap.Read(b)
			wantMap(t, "read again", r, e, append(slices.Clone(m), x))
			r, e = vmap.Apply(nil, check(1, b), 0, 0)
			wantMap(t, "applied", r, e, append(slices.Clone(m), x))
		} else if len(b) != 0 || e != api.ErrLong {
			t.Errorf("got %d bytes, %d", len(b), e)
		}
	}
	if b, e := vmap.Write(single(api.MaxExts + 1)); len(b) != 0 || e != api.ErrLong {
		t.Errorf("got %d bytes, %d", len(b), e)
	}
	if b, e := vmap.Write(append(single(api.MaxExts+1), api.Ext{})); len(b) != 0 || e != api.ErrArg {
		t.Errorf("got %d bytes, %d", len(b), e)
	}
}

func TestRead(t *testing.T) {
	for _, m := range [][]api.Ext{
		nil,
		base(),
		exts([5]int{0, 1, 0, -1, 0}),
		exts([5]int{0, 1, 0, 0, 0}),
		exts([5]int{0, most, math.MaxInt, most, mostEnd - 16*most}),
		exts([5]int{0, 2, 1, 1, 0}, [5]int{2, 2, 1, 1, 33}),
		exts([5]int{0, 2, 1, 1, 0}, [5]int{2, 2, 2, 1, 32}),
		exts([5]int{0, 2, 1, 1, 0}, [5]int{2, 2, 1, 2, 32}),
		exts([5]int{0, 2, 1, 1, 0}, [5]int{3, 2, 1, 1, 32}),
		exts([5]int{0, 2, 1, -1, 0}, [5]int{2, 2, 2, -1, 0}),
	} {
		var l []int
		for _, x := range m {
			l = append(l, x.Lba, x.N, x.Ver, x.Zone+1, x.Off)
		}
		got, e := vmap.Read(bytesOf(t, l...))
		wantMap(t, l, got, e, m)
	}
	got, e := vmap.Read([]byte{})
	wantMap(t, "no bytes", got, e, nil)
}

// Bytes that are no map's.
func TestReadErrors(t *testing.T) {
	good := bytesOf(t, 5, 2, 3, 2, 7, 300, 1, 4, 0, 0)
	for i := 1; i < len(good); i++ {
		if got, e := vmap.Read(good[:i]); e == api.OK && i != 5 || e != api.OK && (i == 5 || e != api.ErrForm || len(got) != 0) {
			t.Errorf("the first %d bytes: got %v, %d", i, got, e)
		}
	}
	for _, b := range [][]byte{
		{0},
		{0, 0, 0, 0, 0},
		append(slices.Clone(good), 0),
		append(slices.Clone(good), good...),
		{133, 0, 2, 3, 2, 7}, // a number in more bytes than it has
		{5, 2, 3, 2, 128},
		{5, 2, 3, 2, 128, 0},
		{5, 2, 3, 255, 255, 255, 255, 255, 255, 255, 255, 255, 1, 7},
		{5, 2, 3, 2, 255, 255, 255, 255, 255, 255, 255, 255, 255, 2},
		slices.Repeat([]byte{255}, 40),
		make([]byte, 100),
	} {
		got, e := vmap.Read(b)
		wantError(t, b, got, e, api.ErrForm)
	}
	for _, l := range [][]int{
		{5, 0, 3, 2, 7},
		{most, 1, 3, 2, 7},
		{1, most, 3, 2, 7},
		{math.MaxInt, math.MaxInt, 3, 2, 7},
		{5, 2, 3, 0, 7},
		{5, 2, 3, 0, 16},
		{5, 2, 3, most + 2, 7},
		{5, 2, 3, math.MaxInt, 7},
		{5, 2, 3, 2, mostEnd - 31},
		{5, 2, 3, 2, math.MaxInt},
		// not in order, or more than once
		{5, 2, 3, 2, 7, 5, 2, 3, 2, 7},
		{5, 2, 3, 2, 7, 6, 2, 3, 2, 7},
		{5, 2, 3, 2, 7, 4, 1, 3, 2, 7},
		{5, 2, 3, 2, 7, 0, 9, 4, 0, 0},
		// not joined
		{5, 2, 3, 2, 7, 7, 1, 3, 2, 39},
		{5, 2, 3, 0, 0, 7, 1, 3, 0, 0},
		{0, 1, 1, 0, 0, 5, 2, 3, 2, 7, 7, 1, 3, 2, 39, 9, 1, 1, 1, 1},
	} {
		b := bytesOf(t, l...)
		got, e := vmap.Read(b)
		wantError(t, l, got, e, api.ErrForm)
	}
}

// A map has at most MaxExts; it is read also where it would be written as no checkpoint.
func TestReadLong(t *testing.T) {
	for many := api.MaxExts - 1; many <= api.MaxExts+1; many++ {
		var l []int
		for _, x := range single(many) {
			l = append(l, x.Lba, x.N, x.Ver, x.Zone+1, x.Off)
		}
		got, e := vmap.Read(bytesOf(t, l...))
		if many <= api.MaxExts {
			wantMap(t, many, got, e, single(many))
		} else {
			wantError(t, many, got, e, api.ErrForm)
		}
	}
}

func TestNewest(t *testing.T) {
	for _, x := range []struct {
		m    []api.Ext
		want int
	}{
		{nil, 0},
		{[]api.Ext{}, 0},
		{base(), 7},
		{loose(), 7},
		{exts([5]int{0, 1, 9, 1, 0}, [5]int{1, 1, 3, 1, 0}, [5]int{2, 1, 8, 1, 0}), 9},
		{exts([5]int{0, 1, 3, 1, 0}, [5]int{1, 1, 9, -1, 0}, [5]int{2, 1, 8, 1, 0}), 9},
		{exts([5]int{0, 1, 0, 1, 0}), 0},
		{exts([5]int{0, 1, math.MaxInt, 1, 0}), math.MaxInt},
	} {
		if got := vmap.Newest(x.m); got != x.want {
			t.Errorf("%v: got %d, want %d", x.m, got, x.want)
		}
	}
}

// Of a map that may not be ErrArg is told, and 0.
func TestMapsThatMayNotBe(t *testing.T) {
	whole := ext(0, most, math.MaxInt, -1, 0)
	for _, m := range badMaps() {
		for _, r := range []api.Rec{data(0, 1, 1), data(30, 1, 1), trim(0, most, 9), moved(5, 1, 1, 1, 1), place(5, 1, 9, 1, 1), check(1, nil), check(1, []byte{1}), check(1, bytesOf(t, 0, most, 9, 0, 0)), {}} {
			got, e := vmap.Apply(m, r, 1, 0)
			wantError(t, m, got, e, api.ErrArg)
		}
		for _, x := range exts([5]int{10, 4, 1, 3, 64}, [5]int{30, 1, 1, 3, 64}, [5]int{0, most, 1, 0, 0}) {
			to := x
			to.Zone = 7
			got, told, e := vmap.Move(m, x, to)
			wantError(t, m, got, e, api.ErrArg)
			wantError(t, m, told, e, api.ErrArg)
		}
		for _, l := range [][][]api.Ext{nil, {nil}, {base()}, {{whole}}, {exts([5]int{30, 1, 1, 3, 64})}, {single(api.MaxExts + 1)}} {
			got, e := vmap.Merge(m, l...)
			wantError(t, m, got, e, api.ErrArg)
		}
		for _, x := range [][2]int{{0, most}, {0, 1}, {10, 1}, {30, 1}, {-1, 0}} {
			got, e := vmap.Look(m, x[0], x[1])
			wantError(t, m, got, e, api.ErrArg)
		}
		if b, e := vmap.Write(m); len(b) != 0 || e != api.ErrArg {
			t.Errorf("Write of %v: got %v, %d", m, b, e)
		}
		if v := vmap.Newest(m); v != 0 {
			t.Errorf("Newest of %v: got %d", m, v)
		}
	}
}

// P10.4

// A move changes no block that was written since, and keeps versions; what comes later by another way does not undo it.
func TestMoveAndWrite(t *testing.T) {
	m, _ := vmap.Apply(nil, data(0, 8, 3), 1, 0)
	written, _ := vmap.Apply(m, data(2, 2, 4), 2, 0)
	got, told, e := vmap.Move(written, ext(0, 8, 3, 1, 0), ext(0, 8, 3, 5, 320))
	want := exts([5]int{0, 2, 3, 5, 320}, [5]int{2, 2, 4, 2, 0}, [5]int{4, 4, 3, 5, 384})
	wantMap(t, "written, moved", got, e, want)
	wantMap(t, "told", told, e, exts([5]int{0, 2, 3, 5, 320}, [5]int{4, 4, 3, 5, 384}))
	got, told, e = vmap.Move(m, ext(0, 8, 3, 1, 0), ext(0, 8, 3, 5, 320))
	wantMap(t, "told", told, e, exts([5]int{0, 8, 3, 5, 320}))
	got, e = vmap.Apply(got, data(2, 2, 4), 2, 0)
	wantMap(t, "moved, written", got, e, want)
	again, told, e := vmap.Move(got, ext(0, 8, 3, 1, 0), ext(0, 8, 3, 6, 0))
	wantMap(t, "moved from where it is no more", again, e, want)
	wantMap(t, "told", told, e, nil)
}

// R2

// What a call is handed it does not change, and what it answers shares nothing with it, nor with another answer.
func TestNothingIsShared(t *testing.T) {
	wipe := func(l ...[]api.Ext) {
		for _, x := range l {
			clear(x[:cap(x)])
		}
	}
	m := make([]api.Ext, 4, 40)
	copy(m, base())
	other := append(make([]api.Ext, 0, 40), ext(0, 1, 1, 1, 1), ext(13, 9, 4, 1, 0))
	b := bytesOf(t, 5, 2, 3, 2, 7)
	r := check(1, b)
	from, to := ext(10, 4, 3, 3, 64), ext(10, 4, 3, 8, 0)
	var answers [][]api.Ext
	ask := func() [][]api.Ext {
		a, _ := vmap.Apply(m, r, 1, 0)
		trimmed, _ := vmap.Apply(m, trim(0, 1, 0), 0, 0)
		mv, told, _ := vmap.Move(m, from, to)
		still, _, _ := vmap.Move(m, to, from)
		mg, _ := vmap.Merge(m, other, nil, other)
		alone, _ := vmap.Merge(m)
		none, _ := vmap.Merge(nil, other)
		look, _ := vmap.Look(m, 0, 30)
		part, _ := vmap.Look(m, 10, 10)
		read, _ := vmap.Read(b)
		return [][]api.Ext{a, trimmed, mv, told, still, mg, alone, none, look, part, read}
	}
	answers = ask()
	if !slices.Equal(m, base()) || !slices.Equal(b, bytesOf(t, 5, 2, 3, 2, 7)) || !slices.Equal(other, exts([5]int{0, 1, 1, 1, 1}, [5]int{13, 9, 4, 1, 0})) {
		t.Fatalf("an argument was changed: %v, %v, %v", m, b, other)
	}
	for _, x := range m[4:cap(m)] {
		if x != (api.Ext{}) {
			t.Fatalf("something was written behind an argument: %v", x)
		}
	}
	for i, x := range answers {
		wipe(x)
		fresh := ask()
		for j, y := range fresh {
			if len(y) == 0 || j > i && !slices.Equal(y, answers[j]) {
				t.Fatalf("answer %d: got %v, before %v", j, y, answers[j])
			}
		}
	}
	answers = ask()
	kept := ask()
	written, _ := vmap.Write(m)
	before := slices.Clone(written)
	wipe(m, other)
	clear(b)
	for i := range answers {
		if !slices.Equal(answers[i], kept[i]) {
			t.Errorf("answer %d was changed", i)
		}
	}
	if !slices.Equal(written, before) {
		t.Errorf("the bytes were changed")
	}
}
