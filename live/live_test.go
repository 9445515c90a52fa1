package live_test

import (
	"math"
	"slices"
	"strings"
	"testing"

	"quickset/api"
	"quickset/extent"
	"quickset/live"
	"quickset/zns"
)

const (
	mostLba = 1 << 40
	mostEnd = 1 << 50
)

// exts makes some that are written as Lba, N, Ver, Zone, Off.
func exts(l ...[5]int) []api.Ext {
	var out []api.Ext
	for _, x := range l {
		out = append(out, api.Ext{Lba: x[0], N: x[1], Ver: x[2], Zone: x[3], Off: x[4]})
	}
	return out
}

// device is one of zones that take 100 bytes, written as their states (E, I, X, C, F: as the document names them, X is Explicit), each with how many bytes it has behind: "F33". All may be open.
func device(zones string) api.Zns {
	d := api.Zns{Cap: 100}
	for _, s := range strings.Fields(zones) {
		n := 0
		for _, c := range []byte(s[1:]) {
			n = n*10 + int(c-'0')
		}
		d.Z = append(d.Z, api.Zone{State: strings.IndexByte("EIXCF", s[0]), Data: make([]byte, n)})
	}
	d.Open, d.Active = len(d.Z), len(d.Z)
	return d
}

// needs is a map that has so many blocks in the zone 0, in the zone 1, and so on.
func needs(n ...int) []api.Ext {
	var m []api.Ext
	lba := 5
	for i, k := range n {
		if k > 0 {
			m = append(m, api.Ext{Lba: lba, N: k, Ver: 3, Zone: i})
		}
		lba += k
	}
	return m
}

// badMaps are those that may not be, each by one thing alone.
func badMaps() [][]api.Ext {
	l := [][]api.Ext{
		exts([5]int{0, 2, 1, 0, 0}, [5]int{1, 2, 1, 0, 64}), // one block twice
		exts([5]int{5, 2, 1, 0, 0}, [5]int{1, 2, 1, 0, 64}), // not in order
	}
	for _, x := range exts(
		[5]int{},
		[5]int{5, 0, 1, 0, 0},
		[5]int{5, -1, 1, 0, 0},
		[5]int{-1, 2, 1, 0, 0},
		[5]int{mostLba, 1, 1, 0, 0},
		[5]int{5, mostLba, 1, 0, 0},
		[5]int{5, math.MaxInt, 1, 0, 0},
		[5]int{math.MinInt, math.MinInt, 1, 0, 0},
		[5]int{5, 2, -1, 0, 0},
		[5]int{5, 2, 1, -2, 0},
		[5]int{5, 2, 1, math.MinInt, 0},
		[5]int{5, 2, 1, mostLba + 1, 0},
		[5]int{5, 2, 1, math.MaxInt, 0},
		[5]int{5, 2, 1, -1, 16},
		[5]int{5, 2, 1, 0, -1},
		[5]int{5, 2, 1, 0, mostEnd},
	) {
		l = append(l, []api.Ext{x}, append(exts([5]int{0, 1, 1, 0, 0}), x), []api.Ext{x, {Lba: 20, N: 1, Zone: -1}})
	}
	return l
}

// badDevices are those that may not be, each by one thing alone; but for that their zone 0 would be a victim, and their zone 1 free.
func badDevices() []api.Zns {
	base := func() api.Zns { return device("F32 E E") }
	var l []api.Zns
	for _, spoil := range []func(d *api.Zns){
		func(d *api.Zns) { d.Cap = 0 },
		func(d *api.Zns) { d.Cap = 31 },
		func(d *api.Zns) { d.Cap = api.MaxCap + 1 },
		func(d *api.Zns) { d.Open = 0 },
		func(d *api.Zns) { d.Open = 4 },
		func(d *api.Zns) { d.Active = 2 },
		func(d *api.Zns) { d.Active = 4 },
		func(d *api.Zns) { d.Z[0].Fence = -1 },
		func(d *api.Zns) { d.Z[2].State = 5 },
		func(d *api.Zns) { d.Z[2].State = -1 },
		func(d *api.Zns) { d.Z[2].Data = []byte("a") },
		func(d *api.Zns) { d.Z[2].State = api.Closed },
		func(d *api.Zns) { d.Z = append(d.Z, make([]api.Zone, api.MaxZones-2)...) },
	} {
		d := base()
		spoil(&d)
		l = append(l, d)
	}
	two := base()
	two.Open, two.Z[1].State, two.Z[2].State = 1, api.Explicit, api.Explicit
	return append(l, two, api.Zns{}, api.Zns{Cap: 1, Open: 1, Active: 1})
}

func wantZones(t *testing.T, what any, got, want []int) {
	t.Helper()
	if !slices.Equal(got, want) {
		t.Errorf("%v: got %v, want %v", what, got, want)
	}
}

func wantVictim(t *testing.T, d api.Zns, m []api.Ext, want int, skip ...int) {
	t.Helper()
	got, is := live.Victim(d, m, skip...)
	if want < 0 && (got != 0 || is) || want >= 0 && (got != want || !is) {
		t.Errorf("of %v without %v: got %d, %v, want %d", m, skip, got, is, want)
	}
}

func wantWaste(t *testing.T, d api.Zns, m []api.Ext, want int) {
	t.Helper()
	if got, e := live.Waste(d, m); got != want || e != api.OK {
		t.Errorf("of %v: got %d, %d, want %d", m, got, e, want)
	}
}

// P12.1

// seven is a map of blocks in the zones 0, 2, 63 and 64, and of trimmed ones, whose order is not that in which they stand there.
func seven() []api.Ext {
	return exts(
		[5]int{1, 2, 4, 2, 160},
		[5]int{3, 1, 9, 2, 16},
		[5]int{4, 5, 4, -1, 0},
		[5]int{9, 3, 4, 0, 0},
		[5]int{12, 4, 8, 2, 96},
		[5]int{20, 6, 1, 63, 7},
		[5]int{26, 1, 1, 64, 0},
	)
}

func TestCount(t *testing.T) {
	sixty := append([]int{3, 0, 7}, make([]int, 60)...)
	for _, c := range []struct {
		m     []api.Ext
		zones int
		want  []int
	}{
		{nil, 0, nil},
		{nil, 3, []int{0, 0, 0}},
		{nil, 64, make([]int, 64)},
		{seven(), 0, nil},
		{seven(), 1, []int{3}},
		{seven(), 2, []int{3, 0}},
		{seven(), 3, []int{3, 0, 7}},
		{seven(), 4, []int{3, 0, 7, 0}},
		{seven(), 63, sixty},
		{seven(), 64, append(slices.Clone(sixty), 6)},
		{exts([5]int{3, 4, 1, -1, 0}), 2, []int{0, 0}}, // trimmed ones are in no zone
		{exts([5]int{0, 2, 1, 1, 0}, [5]int{2, 2, 1, 1, 0}), 2, []int{0, 4}},  // several at one place
		{exts([5]int{0, 2, 1, 1, 0}, [5]int{2, 3, 1, 1, 32}), 2, []int{0, 5}}, // that go on, and are not joined
		{exts([5]int{0, mostLba, 1, 1, 0}), 2, []int{0, mostLba}},
		{exts([5]int{0, 5, 1, 0, 0}, [5]int{5, mostLba - 5, 1, mostLba, 0}), 1, []int{5}},
	} {
		got, e := live.Count(c.m, c.zones)
		if !slices.Equal(got, c.want) || e != api.OK {
			t.Errorf("%v, %d zones: got %v, %d, want %v", c.m, c.zones, got, e, c.want)
		}
	}
}

func TestCountOfWhatMayNotBe(t *testing.T) {
	wrong := func(m []api.Ext, zones int) {
		t.Helper()
		if n, e := live.Count(m, zones); len(n) != 0 || e != api.ErrArg {
			t.Errorf("%v, %d zones: got %v, %d", m, zones, n, e)
		}
	}
	for _, zones := range []int{math.MinInt, -64, -1, 65, 66, 1000, mostLba, math.MaxInt} {
		wrong(nil, zones)
		wrong(seven(), zones)
		wrong(badMaps()[0], zones)
	}
	for _, m := range badMaps() {
		for _, zones := range []int{0, 1, 3, 64} {
			wrong(m, zones)
		}
	}
}

func TestIn(t *testing.T) {
	m := seven()
	for _, c := range []struct {
		m    []api.Ext
		zone int
		want []api.Ext
	}{
		{nil, 0, nil},
		{nil, math.MaxInt, nil},
		{m, 0, m[3:4]},
		{m, 1, nil},
		{m, 2, []api.Ext{m[1], m[4], m[0]}},
		{m, 3, nil},
		{m, 63, m[5:6]},
		{m, 64, m[6:]}, // also of a zone that no device has
		{m, 65, nil},
		{m, mostLba, nil},
		{m, mostLba + 1, nil},
		{m, math.MaxInt, nil},
		{exts([5]int{0, mostLba, 7, mostLba, 3}), mostLba, exts([5]int{0, mostLba, 7, mostLba, 3})},
		// Those of one Off by Lba, however long and of whatever version they are.
		{exts([5]int{1, 9, 9, 1, 40}, [5]int{10, 2, 5, 1, 40}, [5]int{12, 3, 7, 1, 39}, [5]int{15, 1, 1, 1, 40}, [5]int{16, 1, 8, 1, 39}), 1,
			exts([5]int{12, 3, 7, 1, 39}, [5]int{16, 1, 8, 1, 39}, [5]int{1, 9, 9, 1, 40}, [5]int{10, 2, 5, 1, 40}, [5]int{15, 1, 1, 1, 40})},
		// Off counts ahead of Lba, up to the greatest; nothing is joined.
		{exts([5]int{0, 1, 0, 0, mostEnd - 16}, [5]int{1, 1, 0, 0, mostEnd - 32}, [5]int{2, 1, 0, 0, 16}, [5]int{3, 1, 0, 0, 0}, [5]int{mostLba - 1, 1, 0, 0, 1}), 0,
			exts([5]int{3, 1, 0, 0, 0}, [5]int{mostLba - 1, 1, 0, 0, 1}, [5]int{2, 1, 0, 0, 16}, [5]int{1, 1, 0, 0, mostEnd - 32}, [5]int{0, 1, 0, 0, mostEnd - 16})},
		{exts([5]int{0, 2, 1, 1, 0}, [5]int{2, 3, 1, 1, 32}), 1, exts([5]int{0, 2, 1, 1, 0}, [5]int{2, 3, 1, 1, 32})},
	} {
		got, e := live.In(c.m, c.zone)
		if !slices.Equal(got, c.want) || e != api.OK {
			t.Errorf("%v, zone %d: got %v, %d, want %v", c.m, c.zone, got, e, c.want)
		}
	}
}

func TestInOfWhatMayNotBe(t *testing.T) {
	wrong := func(m []api.Ext, zone int) {
		t.Helper()
		if l, e := live.In(m, zone); len(l) != 0 || e != api.ErrArg {
			t.Errorf("%v, zone %d: got %v, %d", m, zone, l, e)
		}
	}
	for _, zone := range []int{math.MinInt, -64, -2, -1} { // also of that which stands for what is trimmed
		wrong(nil, zone)
		wrong(seven(), zone)
		wrong(badMaps()[0], zone)
	}
	for _, m := range badMaps() {
		for _, zone := range []int{0, 1, 64, math.MaxInt} {
			wrong(m, zone)
		}
	}
}

// P12.2

func TestVictim(t *testing.T) {
	d := device("F64 F48 F48 F64 F32")
	for _, c := range []struct {
		d    api.Zns
		n    []int
		skip []int
		want int // below 0: there is none
	}{
		{d, []int{3, 2, 1, 2, 1}, nil, 2}, // the fewest, of several the first one
		{d, []int{3, 2, 2, 2, 1}, nil, 4},
		{d, []int{3, 2, 2, 2, 2}, nil, 1}, // zone 4 is needed whole
		{d, []int{3, 3, 3, 3, 2}, nil, 0},
		{d, []int{4, 3, 3, 3, 2}, nil, 3},
		{d, []int{4, 3, 3, 4, 2}, nil, -1},
		{d, []int{5, 4, 4, 5, 3}, nil, -1}, // a map may have more than there is
		{d, []int{0, 0, 0, 0, 0}, nil, 0},
		{d, []int{1, 0, 0, 0, 0}, nil, 1},
		{d, nil, nil, 0},
		{d, []int{1, 1, 1, 1, 1}, nil, 0}, // how many are not needed does not count
		{d, []int{2, 1, 2, 1, 1}, nil, 1},
		{d, []int{3, 2, 1, 2, 1}, []int{2}, 4},
		{d, []int{3, 2, 1, 2, 1}, []int{4, 2}, 1},
		{d, []int{3, 2, 1, 2, 1}, []int{2, 4, 1}, 3},
		{d, []int{3, 2, 1, 2, 1}, []int{1, 2, 3, 4}, 0},
		{d, []int{3, 2, 1, 2, 1}, []int{4, 3, 2, 1, 0}, -1},
		{d, []int{3, 2, 1, 2, 1}, []int{2, 2, 2}, 4},
		{d, []int{3, 2, 1, 2, 1}, []int{-1, -2, 5, 64, math.MaxInt, math.MinInt}, 2}, // no zones of d's
		// No zone of another state, though it has what is not needed.
		{device("E I64 X64 C64"), nil, nil, -1},
		{device("X0 I16 F16 E"), nil, nil, 2},
		{device("X0 I64 C64 X64 F64 E"), []int{0, 0, 0, 0, 3, 0}, nil, 4},
		{device("I64 C64 X64 F64"), []int{0, 0, 0, 4}, nil, -1},
		// Whole blocks alone count.
		{device("F0"), nil, nil, -1},
		{device("F1"), nil, nil, -1},
		{device("F15"), nil, nil, -1},
		{device("F16"), nil, nil, 0},
		{device("F17"), []int{1}, nil, -1},
		{device("F31"), []int{1}, nil, -1},
		{device("F32"), []int{1}, nil, 0},
		{device("F100"), []int{6}, nil, -1}, // it takes no more
		{device("F100"), []int{5}, nil, 0},
		{device("F31 F31"), []int{1, 0}, nil, 1},
	} {
		wantVictim(t, c.d, needs(c.n...), c.want, c.skip...)
	}
}

// What counts is how many blocks the map has, not in how many extents; those that are trimmed, or in other zones, count for none.
func TestVictimOfPieces(t *testing.T) {
	d := device("F64 F64")
	wantVictim(t, d, exts([5]int{0, 1, 1, 1, 0}, [5]int{1, 1, 1, 1, 32}, [5]int{2, 3, 1, 0, 0}), 1)
	wantVictim(t, d, exts([5]int{0, 1, 1, 0, 0}, [5]int{1, 1, 1, 0, 32}, [5]int{2, 1, 1, 1, 0}), 1)
	wantVictim(t, d, exts([5]int{0, 50, 1, -1, 0}, [5]int{50, 50, 1, 2, 0}, [5]int{100, 50, 1, 64, 0}, [5]int{200, 50, 1, mostLba, 0}), 0)
	wantVictim(t, d, exts([5]int{0, 2, 1, 0, 1 << 30}), 1) // also those at a place where no bytes are
	wantVictim(t, d, exts([5]int{0, 1, 1, 0, 0}, [5]int{1, 1, 1, 0, 0}, [5]int{2, 1, 1, 1, 0}), 1)
	wantVictim(t, d, exts([5]int{0, mostLba, 1, 0, 0}), 1)
}

func TestFree(t *testing.T) {
	for _, c := range []struct {
		d    api.Zns
		skip []int
		want []int
	}{
		{device("E"), nil, []int{0}},
		{device("F0"), nil, nil},
		{device("X0"), nil, nil},
		{device("E I16 E X0 C16 F0 F64 E X16"), nil, []int{0, 2, 7}},
		{device("E I16 E X0 C16 F0 F64 E X16"), []int{7}, []int{0, 2}},
		{device("E I16 E X0 C16 F0 F64 E X16"), []int{2, 0, 2}, []int{7}},
		{device("E I16 E X0 C16 F0 F64 E X16"), []int{1, 3, 5, -1, 9, math.MaxInt, math.MinInt}, []int{0, 2, 7}},
		{device("E I16 E X0 C16 F0 F64 E X16"), []int{0, 2, 7}, nil},
		{device("I16 X0 C16 F64"), nil, nil},
		{device("E E E"), nil, []int{0, 1, 2}},
		{device("E E E"), []int{0, 1, 2, 3}, nil},
	} {
		wantZones(t, c.skip, live.Free(c.d, c.skip...), c.want)
	}
}

func TestWaste(t *testing.T) {
	d := device("F64 I40 E C16 X15 F15 X0 F100")
	wantWaste(t, d, nil, 4+2+1+6) // of each zone its whole blocks: 15 bytes of one and 15 of another one are none
	for _, c := range []struct {
		n    []int
		want int
	}{
		{[]int{1}, 12},
		{[]int{4, 2, 0, 1, 0, 0, 0, 6}, 0},
		{[]int{4, 2, 0, 1, 0, 0, 0, 5}, 1},
		{[]int{0, 2}, 11},
		{[]int{0, 0, 0, 1}, 12},
		{[]int{0, 0, 0, 0, 0, 0, 0, 6}, 7},
		{[]int{6, 2, 0, 1, 0, 0, 0, 3}, 1}, // those that a zone does not have count as well
		{[]int{0, 0, 3, 0, 0, 0, 2}, 8},
		{[]int{13}, 0},
		{[]int{14}, 0}, // never below 0
		{[]int{0, 0, 100}, 0},
		{[]int{4, 2, 0, 1, 0, 0, 0, 6, 10}, 0},
		{[]int{0, 0, 0, 0, 0, 0, 0, 0, 10}, 13}, // no zone of d's
	} {
		wantWaste(t, d, needs(c.n...), c.want)
	}
	wantWaste(t, d, exts([5]int{0, 9, 1, -1, 0}, [5]int{9, 3, 1, 0, 0}, [5]int{12, 2, 1, 0, 4}, [5]int{20, 9, 1, 63, 0}, [5]int{30, 9, 1, mostLba, 0}), 8)
	wantWaste(t, device("E"), nil, 0)
	wantWaste(t, device("E"), exts([5]int{0, mostLba, 1, 0, 0}), 0)
	wantWaste(t, device("F15"), nil, 0)
	wantWaste(t, device("I16"), nil, 1)
}

// P12.3

func TestPlan(t *testing.T) {
	d := device("F64 F48 F48 F64 F32 E I64")
	for _, c := range []struct {
		n    []int
		want int
		skip []int
		plan []int
	}{
		{[]int{3, 2, 1, 2, 1}, 5, nil, []int{2, 4, 1, 3, 0}},
		{[]int{3, 2, 1, 2, 1}, 6, nil, []int{2, 4, 1, 3, 0}},
		{[]int{3, 2, 1, 2, 1}, math.MaxInt, nil, []int{2, 4, 1, 3, 0}},
		{[]int{3, 2, 1, 2, 1}, 4, nil, []int{2, 4, 1, 3}},
		{[]int{3, 2, 1, 2, 1}, 3, nil, []int{2, 4, 1}},
		{[]int{3, 2, 1, 2, 1}, 2, nil, []int{2, 4}},
		{[]int{3, 2, 1, 2, 1}, 1, nil, []int{2}},
		{[]int{3, 2, 1, 2, 1}, 0, nil, nil},
		{[]int{3, 2, 1, 2, 1}, -1, nil, nil},
		{[]int{3, 2, 1, 2, 1}, math.MinInt, nil, nil},
		{[]int{3, 2, 1, 2, 1}, 9, []int{4}, []int{2, 1, 3, 0}},
		{[]int{3, 2, 1, 2, 1}, 2, []int{2, 1}, []int{4, 3}},
		{[]int{3, 2, 1, 2, 1}, 9, []int{0, 1, 2, 3, 4}, nil},
		{[]int{3, 2, 1, 2, 1}, 9, []int{-1, 5, 6, 7, math.MaxInt, math.MinInt}, []int{2, 4, 1, 3, 0}},
		{[]int{4, 2, 3, 2, 2}, 9, nil, []int{1, 3}}, // those that are needed whole are none
		{[]int{4, 3, 3, 4, 2}, 9, nil, nil},
		{nil, 9, nil, []int{0, 1, 2, 3, 4}},
		{nil, 3, []int{1}, []int{0, 2, 3}},
	} {
		wantZones(t, c, live.Plan(d, needs(c.n...), c.want, c.skip...), c.plan)
	}
}

// Of P12.2 and P12.3 alike.
func TestOfWhatMayNotBe(t *testing.T) {
	wrong := func(d api.Zns, m []api.Ext) {
		t.Helper()
		wantVictim(t, d, m, -1)
		wantVictim(t, d, m, -1, 1)
		for _, want := range []int{-1, 0, 1, 9} {
			wantZones(t, m, live.Plan(d, m, want), nil)
			wantZones(t, m, live.Plan(d, m, want, 1), nil)
		}
		if n, e := live.Waste(d, m); n != 0 || e != api.ErrArg {
			t.Errorf("%v: got %d, %d", m, n, e)
		}
	}
	wantVictim(t, device("F32 E E"), nil, 0)
	for _, d := range badDevices() {
		if zns.Check(d) != api.ErrArg {
			t.Fatalf("%v may be", d)
		}
		wrong(d, nil)
		wrong(d, needs(1))
		wrong(d, badMaps()[0])
		wantZones(t, "Free", live.Free(d), nil)
		wantZones(t, "Free", live.Free(d, 0), nil)
	}
	for _, m := range badMaps() {
		if extent.Check(m) != api.ErrArg {
			t.Fatalf("%v may be", m)
		}
		wrong(device("F32 E E"), m)
	}
}

// The greatest device.
func TestMostZones(t *testing.T) {
	d, e := zns.New(64, api.MaxCap, 64, 64)
	if e != api.OK {
		t.Fatal(e)
	}
	var all, n []int
	for i := range d.Z {
		all = append(all, i)
		n = append(n, 64-i)
	}
	wantZones(t, "Free", live.Free(d), all)
	wantZones(t, "Free", live.Free(d, all[:63]...), all[63:])
	for i := range d.Z {
		d.Z[i] = api.Zone{State: api.Full, Data: make([]byte, api.MaxCap)}
	}
	wantWaste(t, d, nil, 64*4096)
	wantWaste(t, d, needs(n...), 64*4096-64*65/2)
	wantZones(t, "Plan", live.Plan(d, nil, 64), all)
	wantVictim(t, d, needs(n...), 63)
	wantVictim(t, d, needs(n...), 0, all[1:]...)
	slices.Reverse(all)
	wantZones(t, "Plan", live.Plan(d, needs(n...), 64), all)
	wantZones(t, "Plan", live.Plan(d, needs(n...), 63), all[:63])
	wantVictim(t, d, exts([5]int{0, 4095, 1, 63, 0}), 63, all[1:]...)
	wantVictim(t, d, exts([5]int{0, 4096, 1, 63, 0}), -1, all[1:]...)
}

// R2: what is handed in stays as it was, also behind the end of what it has; an answer is the caller's own.
func TestWhoseIsWhat(t *testing.T) {
	behind := api.Ext{Lba: 9, N: 9, Ver: 9, Zone: 9, Off: 9}
	d, m := device("F64 F48 E F64 E"), append(exts([5]int{0, 1, 1, 1, 64}, [5]int{1, 1, 1, 1, 0}, [5]int{2, 1, 1, 0, 0}), behind, behind, behind)
	skip := []int{4, 3, 9, 9, 9}
	wantD, wantM, wantSkip := device("F64 F48 E F64 E"), slices.Clone(m), slices.Clone(skip)
	asItWas := func() {
		t.Helper()
		if !slices.Equal(m, wantM) || !slices.Equal(skip, wantSkip) || !zns.Same(d, wantD) {
			t.Errorf("got %v, %v, %v", m, skip, d)
		}
	}
	for range 2 {
		n, _ := live.Count(m[:3], 2)
		wantZones(t, "Count", n, []int{1, 2})
		l, _ := live.In(m[:3], 1)
		if !slices.Equal(l, []api.Ext{wantM[1], wantM[0]}) {
			t.Errorf("In: got %v", l)
		}
		p := live.Plan(d, m[:3], 9, skip[:2]...)
		wantZones(t, "Plan", p, []int{0, 1})
		f := live.Free(d, skip[:2]...)
		wantZones(t, "Free", f, []int{2})
		wantVictim(t, d, m[:3], 0, skip[:2]...)
		wantWaste(t, d, m[:3], 4+3+4-3)
		asItWas()
		n[0], n[1], l[0], l[1], p[0], p[1], f[0] = 7, 7, api.Ext{}, api.Ext{}, 7, 7, 7
		asItWas()
	}
}

// The chapter's example, by the layers below: a Full zone of two blocks, of which the map has one.
func TestExample(t *testing.T) {
	d, e := zns.New(3, 32, 1, 1)
	if e != api.OK {
		t.Fatal(e)
	}
	m, e := extent.Put(nil, api.Ext{Lba: 7, N: 2, Ver: 1, Zone: 1})
	if e != api.OK {
		t.Fatal(e)
	}
	d, done := zns.Do(d, api.Cmd{Do: api.AppendC, Zone: 1, Data: make([]byte, 32)})
	if done.E != api.OK {
		t.Fatal(done.E)
	}
	wantVictim(t, d, m, -1)
	wantWaste(t, d, m, 0)
	wantZones(t, "Free", live.Free(d), []int{0, 2})
	m, e = extent.Put(m, api.Ext{Lba: 7, N: 1, Ver: 2, Zone: -1})
	if e != api.OK {
		t.Fatal(e)
	}
	wantVictim(t, d, m, 1)
	wantVictim(t, d, m, -1, 1)
	wantWaste(t, d, m, 1)
	d, _ = zns.Do(d, api.Cmd{Do: api.ResetC, Zone: 1})
	wantVictim(t, d, nil, -1)
	wantZones(t, "Free", live.Free(d, 0), []int{1, 2})
}
