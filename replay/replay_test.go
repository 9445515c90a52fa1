package replay_test

import (
	"bytes"
	"encoding/binary"
	"hash/crc32"
	"math"
	"slices"
	"testing"

	"quickset/api"
	"quickset/replay"
	"quickset/seg"
	"quickset/vmap"
	"quickset/zns"
)

const (
	mostCap   = 65536
	mostExts  = 10000
	mostBytes = 4096 // blocks that Bytes tells
)

// numbers, vector and frame are written by another hand than the program's.
func numbers(l ...int) []byte {
	var b []byte
	for _, n := range l {
		b = binary.AppendUvarint(b, uint64(n))
	}
	return b
}

func vector(x []byte) []byte { return slices.Concat(numbers(len(x)), x) }

func frame(x []byte) []byte {
	sum := crc32.Checksum(x, crc32.MakeTable(crc32.Castagnoli))
	return binary.LittleEndian.AppendUint32(vector(x), sum)
}

func headFrame(h api.Header) []byte { return frame(numbers(0, h.Host, h.Epoch, h.Seq)) }

func aheadOfData(r api.Rec) []byte {
	return numbers(r.Kind, r.Lba, r.N, r.Ver, r.Zone, r.Off, len(r.Data))
}

func recFrame(r api.Rec) []byte { return frame(slices.Concat(aheadOfData(r), r.Data)) }

// placeOf is where in its frame a record's Data stands.
func placeOf(r api.Rec) int {
	n := len(aheadOfData(r))
	return len(numbers(n+len(r.Data))) + n
}

// segment is a header's frame and records' ones, and where each one's Data stands.
func segment(h api.Header, l ...api.Rec) (b []byte, at []int) {
	b = headFrame(h)
	for _, r := range l {
		at = append(at, len(b)+placeOf(r))
		b = append(b, recFrame(r)...)
	}
	return b, at
}

func segmentOf(l ...api.Rec) []byte {
	b, _ := segment(api.Header{Host: 1, Epoch: 2, Seq: 3}, l...)
	return b
}

// device is a device whose zones have these bytes.
func device(l ...[]byte) api.Zns {
	d := api.Zns{Cap: mostCap, Open: 1, Active: len(l)}
	for _, b := range l {
		z := api.Zone{Data: b}
		switch {
		case len(b) == mostCap:
			z.State = api.Full
		case len(b) > 0:
			z.State = api.Closed
		}
		d.Z = append(d.Z, z)
	}
	return d
}

// text makes n bytes that look like no pattern, always the same ones.
func text(seed, n int) []byte {
	b := make([]byte, n)
	s := uint32(seed)*2654435761 + 12345
	for i := range b {
		s = s*1664525 + 1013904223
		b[i] = byte(s >> 24)
	}
	return b
}

func data(lba, n, ver int) api.Rec {
	return api.Rec{Kind: api.DataR, Lba: lba, N: n, Ver: ver, Data: text(ver, n*api.Block)}
}

func trim(lba, n, ver int) api.Rec { return api.Rec{Kind: api.TrimR, Lba: lba, N: n, Ver: ver} }

func move(lba, n, ver, zone, off int) api.Rec {
	r := data(lba, n, ver)
	r.Kind, r.Zone, r.Off = api.MoveR, zone, off
	return r
}

func place(lba, n, ver, zone, off int) api.Rec {
	return api.Rec{Kind: api.MapR, Lba: lba, N: n, Ver: ver, Zone: zone, Off: off}
}

// check is a checkpoint of a map.
func check(ver int, m ...api.Ext) api.Rec {
	var b []byte
	for _, x := range m {
		b = append(b, numbers(x.Lba, x.N, x.Ver, x.Zone+1, x.Off)...)
	}
	return api.Rec{Kind: api.CheckR, Ver: ver, Data: b}
}

func sameRec(a, b api.Rec) bool {
	return a.Kind == b.Kind && a.Lba == b.Lba && a.N == b.N && a.Ver == b.Ver && a.Zone == b.Zone && a.Off == b.Off && bytes.Equal(a.Data, b.Data)
}

func sameFound(a, b api.Found) bool {
	return a.Head == b.Head && a.H == b.H && slices.EqualFunc(a.L, b.L, sameRec) && slices.Equal(a.At, b.At) && a.Used == b.Used
}

func wantMap(t *testing.T, what any, m []api.Ext, e api.Errno, want ...api.Ext) {
	t.Helper()
	if !slices.Equal(m, want) || e != api.OK {
		t.Errorf("%v: got %v, %d, want %v", what, m[:min(len(m), 20)], e, want)
	}
}

// wantNoMap wants an error, and no map.
func wantNoMap(t *testing.T, what any, m []api.Ext, e, want api.Errno) {
	t.Helper()
	if len(m) != 0 || e != want {
		t.Errorf("%v: got %d extents, %d, want %d", what, len(m), e, want)
	}
}

func wantBytes(t *testing.T, what any, b []byte, e api.Errno, want []byte) {
	t.Helper()
	if !bytes.Equal(b, want) || e != api.OK {
		t.Errorf("%v: got %v, %d, want %v", what, b, e, want)
	}
}

func wantNoBytes(t *testing.T, what any, b []byte, e, want api.Errno) {
	t.Helper()
	if len(b) != 0 || e != want {
		t.Errorf("%v: got %v, %d, want %d", what, b, e, want)
	}
}

// someRecs are records of each kind; the checkpoint is one of no map.
func someRecs() []api.Rec {
	return []api.Rec{
		data(3, 2, 7),
		trim(5, 1, 8),
		place(1, 2, 9, 2, 64),
		{Kind: api.CheckR, Ver: 1, Data: []byte("no map")},
		move(0, 1, 2, 3, 4),
	}
}

// wrongDevices are devices that may not be, of zones in which all is whole.
func wrongDevices() []api.Zns {
	b := segmentOf(data(0, 1, 5))
	l := []api.Zns{{}, {Cap: 100, Open: 1, Active: 1}}
	change := func(f func(d *api.Zns)) {
		d := device(b, nil, b)
		f(&d)
		l = append(l, d)
	}
	change(func(d *api.Zns) { d.Cap = 0 })
	change(func(d *api.Zns) { d.Cap = -1 })
	change(func(d *api.Zns) { d.Cap = mostCap + 1 })
	change(func(d *api.Zns) { d.Cap = len(b) - 1 })
	change(func(d *api.Zns) { d.Open = 0 })
	change(func(d *api.Zns) { d.Open = 4 })
	change(func(d *api.Zns) { d.Active = 4 })
	change(func(d *api.Zns) { d.Active = 1 })
	change(func(d *api.Zns) { d.Z[1].State = api.Full + 1 })
	change(func(d *api.Zns) { d.Z[1].State = -1 })
	change(func(d *api.Zns) { d.Z[0].State = api.Empty })
	change(func(d *api.Zns) { d.Z[1].Fence = -1 })
	change(func(d *api.Zns) { d.Z[0].State, d.Z[2].State = api.Implicit, api.Explicit })
	change(func(d *api.Zns) { d.Z = slices.Concat(d.Z, make([]api.Zone, 62)) })
	return l
}

func TestWrongDevicesAreWrong(t *testing.T) {
	for i, d := range wrongDevices() {
		if zns.Check(d) != api.ErrArg {
			t.Errorf("%d: it may be", i)
		}
	}
}

// P16.1

func TestZone(t *testing.T) {
	h := api.Header{Host: 2, Epoch: 5, Seq: 1}
	b, at := segment(h, someRecs()...)
	f := replay.Zone(api.Zone{State: api.Closed, Data: b})
	if !f.Head || f.H != h || !slices.EqualFunc(f.L, someRecs(), sameRec) || f.Used != len(b) {
		t.Errorf("got %v", f)
	}
	for i, r := range f.L {
		if f.At[i]+placeOf(r) != at[i] {
			t.Errorf("%d stands at %d", i, f.At[i])
		}
	}
	for state := -1; state <= api.Full+1; state++ { // it does not count, nor does the fence
		for k := range len(b) + 1 {
			for _, behind := range [][]byte{nil, {0}, {9, 9, 9}, headFrame(h), b} {
				z := api.Zone{State: state, Fence: k, Data: slices.Concat(b[:k], behind)}
				if got := replay.Zone(z); !sameFound(got, seg.Scan(z.Data)) {
					t.Fatalf("%d bytes of it: got %v", k, got)
				}
			}
		}
	}
	if got := replay.Zone(api.Zone{}); !sameFound(got, api.Found{}) {
		t.Errorf("got %v", got)
	}
}

func TestHeads(t *testing.T) {
	none := api.Header{Host: -1}
	zero := headFrame(api.Header{})
	great := api.Header{Host: math.MaxInt, Epoch: math.MaxInt, Seq: math.MaxInt}
	for i, c := range []struct {
		d    api.Zns
		want []api.Header
	}{
		{device(nil), []api.Header{none}},
		{device(nil, nil, nil), []api.Header{none, none, none}},
		{device(zero, nil, headFrame(great), zero), []api.Header{{}, none, great, {}}},
		{device(segmentOf(someRecs()...), headFrame(api.Header{Seq: 7})), []api.Header{{Host: 1, Epoch: 2, Seq: 3}, {Seq: 7}}},
		{device(zero[:len(zero)-1], zero, []byte{1}), []api.Header{none, {}, none}},
		{device(recFrame(trim(0, 1, 1)), slices.Concat(recFrame(trim(0, 1, 1)), headFrame(great))), []api.Header{none, none}},
		{device(slices.Concat(headFrame(great), zero)), []api.Header{great}},
	} {
		if got := replay.Heads(c.d); !slices.Equal(got, c.want) {
			t.Errorf("%d: got %v, want %v", i, got, c.want)
		}
	}
}

func TestTorn(t *testing.T) {
	b := segmentOf(someRecs()...)
	h := headFrame(api.Header{})
	for i, c := range []struct {
		d    api.Zns
		want []int
	}{
		{device(nil), nil},
		{device(nil, b, h), nil},
		{device(b, slices.Concat(b, []byte{0}), h, slices.Concat(h, []byte{1, 2})), []int{1, 3}},
		{device([]byte{1}, nil, b[:1], h[:len(h)-1]), []int{0, 2, 3}},
		{device(b[:len(b)-1], b, h[1:]), []int{0, 2}},
		{device(slices.Concat(b, h)), []int{0}},
		{device(recFrame(trim(0, 1, 1))), []int{0}},
		{device(slices.Concat(h, recFrame(api.Rec{Kind: 6})), slices.Concat(h, recFrame(trim(0, 0, 1)))), []int{0, 1}},
	} {
		if got := replay.Torn(c.d); !slices.Equal(got, c.want) {
			t.Errorf("%d: got %v, want %v", i, got, c.want)
		}
	}
}

func TestTornAtEachByte(t *testing.T) {
	l := someRecs()
	b := segmentOf(l...)
	whole := []int{0}
	for i := range len(l) + 1 {
		whole = append(whole, len(segmentOf(l[:i]...)))
	}
	for k := range len(b) + 1 {
		torn := len(replay.Torn(device(nil, b[:k]))) > 0
		if torn == slices.Contains(whole, k) {
			t.Errorf("%d bytes: got %t", k, torn)
		}
	}
}

func TestNewest(t *testing.T) {
	b := segmentOf(someRecs()...)
	for i, c := range []struct {
		d    api.Zns
		want int
	}{
		{device(nil, nil), 0},
		{device(segmentOf()), 0},
		{device(segmentOf(data(0, 1, 0))), 0},
		{device(b, nil), 9},
		{device(segmentOf(data(0, 1, 3)), b, segmentOf(trim(0, 1, 12)), segmentOf(trim(0, 1, 4))), 12},
		{device(segmentOf(trim(9, 1, 5), trim(9, 1, 2))), 5},
		{device(segmentOf(move(9, 1, 6, 0, 0))), 6},
		{device(segmentOf(place(9, 1, 6, 0, 0))), 6},
		{device(segmentOf(check(6, api.Ext{N: 1, Ver: 9}))), 6}, // the record's own version
		{device(segmentOf(api.Rec{Kind: api.CheckR, Ver: 77, Data: []byte("no map")})), 77},
		{device(segmentOf(trim(9, 1, math.MaxInt))), math.MaxInt},
		{device(slices.Concat(b, recFrame(trim(0, 1, 10))[:10])), 9},              // it is torn
		{device(slices.Concat(b, []byte{0}, recFrame(trim(0, 1, 10)))), 9},        // so it stands behind what is whole
		{device(recFrame(trim(0, 1, 10)), segmentOf(trim(0, 1, 4))), 4},           // no header
		{device(segmentOf(place(0, 1, 3, 1<<40+1, 0), trim(0, 1, 4)), nil, b), 9}, // no map may have it, but it is a record
	} {
		if got := replay.Newest(c.d); got != c.want {
			t.Errorf("%d: got %d, want %d", i, got, c.want)
		}
	}
}

func TestOfDevicesThatMayNotBe(t *testing.T) {
	for i, d := range wrongDevices() {
		if l := replay.Heads(d); len(l) != 0 {
			t.Errorf("%d: got %v", i, l)
		}
		for zone := range d.Z {
			d.Z[zone].Data = slices.Concat(d.Z[zone].Data, []byte{0})
		}
		if l := replay.Torn(d); len(l) != 0 {
			t.Errorf("%d: got %v", i, l)
		}
		if v := replay.Newest(d); v != 0 {
			t.Errorf("%d: got %d", i, v)
		}
	}
}

// P16.2

func TestMap(t *testing.T) {
	b, at := segment(api.Header{}, data(0, 4, 10), data(2, 1, 12), move(20, 2, 5, 9, 9))
	c, bt := segment(api.Header{}, data(1, 2, 11), trim(3, 1, 13), place(30, 4, 1, 7, 80), trim(40, 1<<39, 3))
	m, e := replay.Map(device(c, nil, b))
	wantMap(t, "all", m, e,
		api.Ext{Lba: 0, N: 1, Ver: 10, Zone: 2, Off: at[0]},
		api.Ext{Lba: 1, N: 1, Ver: 11, Zone: 0, Off: bt[0]},
		api.Ext{Lba: 2, N: 1, Ver: 12, Zone: 2, Off: at[1]},
		api.Ext{Lba: 3, N: 1, Ver: 13, Zone: -1},
		api.Ext{Lba: 20, N: 2, Ver: 5, Zone: 2, Off: at[2]}, // where it stands, not where it was
		api.Ext{Lba: 30, N: 4, Ver: 1, Zone: 7, Off: 80},
		api.Ext{Lba: 40, N: 1 << 39, Ver: 3, Zone: -1})
	m, e = replay.Map(device(c, nil, b), 2)
	wantMap(t, "2", m, e,
		api.Ext{Lba: 0, N: 2, Ver: 10, Zone: 2, Off: at[0]},
		api.Ext{Lba: 2, N: 1, Ver: 12, Zone: 2, Off: at[1]},
		api.Ext{Lba: 3, N: 1, Ver: 10, Zone: 2, Off: at[0] + 48},
		api.Ext{Lba: 20, N: 2, Ver: 5, Zone: 2, Off: at[2]})
	m, e = replay.Map(device(c, nil, b), 1)
	wantMap(t, "1", m, e)
	m, e = replay.Map(device(nil))
	wantMap(t, "no bytes", m, e)
	m, e = replay.Map(device(segmentOf(), segmentOf()))
	wantMap(t, "no records", m, e)
}

// A record that stands where the lengths take more bytes is found there too.
func TestMapPlaces(t *testing.T) {
	for _, n := range []int{1, 6, 7, 8, 9, 255, 256} {
		for _, ver := range []int{1, 127, 128, 16384, math.MaxInt} {
			b, at := segment(api.Header{Seq: ver}, data(ver%1000, n, ver), move(5000, n, ver, math.MaxInt, ver))
			m, e := replay.Map(device(nil, b))
			wantMap(t, n, m, e, api.Ext{Lba: ver % 1000, N: n, Ver: ver, Zone: 1, Off: at[0]}, api.Ext{Lba: 5000, N: n, Ver: ver, Zone: 1, Off: at[1]})
		}
	}
}

func TestMapOfNamedZones(t *testing.T) {
	var l [][]byte
	var off []int
	for zone := range 5 {
		b, at := segment(api.Header{Host: zone}, data(0, 1, 4), data(10+zone, 1, zone))
		l = append(l, b)
		off = append(off, at...)
	}
	d := device(l...)
	for i, named := range [][]int{{0}, {4}, {1, 3}, {3, 1}, {2, 2}, {4, 0, 4, 0, 2}, {4, 3, 2, 1, 0}, {0, 1, 2, 3, 4}, {1, 1, 1, 4, 4, 4, 1}} {
		want := slices.Compact(slices.Sorted(slices.Values(named)))
		first := want[0] // all have block 0 at one version, and the first one stays
		m := []api.Ext{{N: 1, Ver: 4, Zone: first, Off: off[2*first]}}
		for _, zone := range want {
			m = append(m, api.Ext{Lba: 10 + zone, N: 1, Ver: zone, Zone: zone, Off: off[2*zone+1]})
		}
		got, e := replay.Map(d, named...)
		wantMap(t, i, got, e, m...)
	}
	all, e := replay.Map(d, 0, 1, 2, 3, 4)
	m, _ := replay.Map(d)
	wantMap(t, "all", m, e, all...)
	m, e = replay.Map(d, []int{}...)
	wantMap(t, "none named", m, e, all...)
}

// Of one version the one that stands ahead stays, in a zone and from zone to zone.
func TestMapOfOneVersion(t *testing.T) {
	b, at := segment(api.Header{}, data(0, 2, 4), data(1, 2, 4), trim(0, 4, 4))
	c, _ := segment(api.Header{}, data(0, 5, 4))
	d := device(b, c)
	_, ct := segment(api.Header{}, data(0, 5, 4))
	m, e := replay.Map(d)
	wantMap(t, "both", m, e,
		api.Ext{N: 2, Ver: 4, Off: at[0]},
		api.Ext{Lba: 2, N: 1, Ver: 4, Off: at[1] + 16},
		api.Ext{Lba: 3, N: 1, Ver: 4, Zone: -1},
		api.Ext{Lba: 4, N: 1, Ver: 4, Zone: 1, Off: ct[0] + 64})
	again, e := replay.Map(d, 1, 0)
	wantMap(t, "named the other way round", again, e, m...)
	m, e = replay.Map(d, 1)
	wantMap(t, "1", m, e, api.Ext{N: 5, Ver: 4, Zone: 1, Off: ct[0]})
}

func TestMapOfCheckpoints(t *testing.T) {
	told := []api.Ext{{Lba: 1, N: 3, Ver: 5, Zone: 9, Off: 7}, {Lba: 6, N: 1, Ver: 1, Zone: -1}}
	m, e := replay.Map(device(segmentOf(check(0, told...))))
	wantMap(t, "alone", m, e, told...)
	b, at := segment(api.Header{}, data(3, 4, 3), check(100, told...), data(1, 1, 6))
	m, e = replay.Map(device(b))
	wantMap(t, "among others", m, e,
		api.Ext{Lba: 1, N: 1, Ver: 6, Off: at[2]},
		api.Ext{Lba: 2, N: 2, Ver: 5, Zone: 9, Off: 23},
		api.Ext{Lba: 4, N: 3, Ver: 3, Off: at[0] + 16})

	// What is no map's bytes is passed over, and nothing else is.
	noMaps := [][]byte{[]byte("no map"), {1}, {0, 0, 1, 1, 0}, {0, 1, 1, 0, 5}, {0, 1, 1, 1, 0, 0}, slices.Concat(check(0, told[1], told[0]).Data), {0, 1, 1, 1, 0, 1, 1, 1, 1, 16}, text(1, 1000)}
	for i, bad := range noMaps {
		if _, e := vmap.Read(bad); e != api.ErrForm {
			t.Fatalf("%d is a map", i)
		}
		r := api.Rec{Kind: api.CheckR, Ver: 50, Data: bad}
		b, at := segment(api.Header{}, r, data(0, 1, 1), r, check(0, told...), r)
		m, e := replay.Map(device(segmentOf(r), b, segmentOf(r, trim(9, 1, 2))))
		wantMap(t, i, m, e, api.Ext{N: 1, Ver: 1, Zone: 1, Off: at[1]}, told[0], told[1], api.Ext{Lba: 9, N: 1, Ver: 2, Zone: -1})
	}
	m, e = replay.Map(device(segmentOf(check(3))))
	wantMap(t, "a map of nothing", m, e)
}

func TestMapErrArg(t *testing.T) {
	for i, d := range wrongDevices() {
		m, e := replay.Map(d)
		wantNoMap(t, i, m, e, api.ErrArg)
		m, e = replay.Map(d, 0)
		wantNoMap(t, i, m, e, api.ErrArg)
	}
	d := device(segmentOf(data(0, 1, 5)), nil, segmentOf())
	for _, zone := range []int{-1, 3, 4, 64, math.MinInt, math.MaxInt} {
		for _, l := range [][]int{{zone}, {0, zone}, {zone, 0}, {0, 1, 2, zone}, {zone, zone}} {
			m, e := replay.Map(d, l...)
			wantNoMap(t, l, m, e, api.ErrArg)
		}
	}
}

// A record that may be can tell of an extent that may not be: that is vmap's error.
func TestMapOfWhatNoMapHas(t *testing.T) {
	good := data(0, 1, 5)
	for i, r := range []api.Rec{place(0, 1, 1, 1<<40+1, 0), place(0, 1, 1, math.MaxInt, 0), place(0, 1, 1, 0, 1<<50-15), place(0, 2, 1, 0, 1<<50-16), place(0, 1, 1, 0, math.MaxInt)} {
		if _, e := vmap.Apply(nil, r, 0, 0); e != api.ErrArg {
			t.Fatalf("%d may be", i)
		}
		for _, l := range [][]api.Rec{{r}, {good, r}, {r, good}, {check(1, api.Ext{N: 1}), r}} {
			m, e := replay.Map(device(nil, segmentOf(l...), segmentOf(good)))
			wantNoMap(t, i, m, e, api.ErrArg)
			m, e = replay.Map(device(nil, segmentOf(l...), segmentOf()), 0, 2) // what is not named does not count
			wantMap(t, i, m, e)
		}
	}
	m, e := replay.Map(device(segmentOf(place(0, 1, 1, 1<<40, 1<<50-16))))
	wantMap(t, "edge", m, e, api.Ext{N: 1, Ver: 1, Zone: 1 << 40, Off: 1<<50 - 16})
	behind := slices.Concat(segmentOf(good), []byte{0}, recFrame(place(0, 1, 1, math.MaxInt, 0)))
	if m, e = replay.Map(device(behind)); e != api.OK || len(m) != 1 {
		t.Errorf("behind what is whole: got %v, %d", m, e)
	}
}

// inZones lays records into as many zones as they need.
func inZones(l []api.Rec) api.Zns {
	var zones [][]byte
	b := headFrame(api.Header{})
	for _, r := range l {
		f := recFrame(r)
		if len(b)+len(f) > mostCap {
			zones = append(zones, b)
			b = headFrame(api.Header{})
		}
		b = append(b, f...)
	}
	return device(append(zones, b)...)
}

// apart are n trimmed blocks, none beside another.
func apart(n int) []api.Rec {
	var l []api.Rec
	for i := range n {
		l = append(l, trim(2*i, 1, i+1))
	}
	return l
}

func wantMany(t *testing.T, what string, l []api.Rec, want int) {
	t.Helper()
	m, e := replay.Map(inZones(l))
	if len(m) != want || e != api.OK {
		t.Errorf("%s: got %d, %d", what, len(m), e)
	}
}

func wantTooMany(t *testing.T, what string, l []api.Rec) {
	t.Helper()
	m, e := replay.Map(inZones(l))
	wantNoMap(t, what, m, e, api.ErrLong)
}

func TestMapErrLong(t *testing.T) {
	l := apart(mostExts + 1)
	wantMany(t, "as many as can be", l[:mostExts], mostExts)
	wantTooMany(t, "one more", l)
	slices.Reverse(l)
	wantTooMany(t, "the other way round", l)
	full := apart(mostExts)
	wantMany(t, "all again", slices.Concat(full, full), mostExts)
	wantMany(t, "an elder one", append(full, trim(0, 1, 0)), mostExts)
	wantMany(t, "one that was there is newer", append(full, trim(2, 1, 1<<20)), mostExts)
	wantMany(t, "two are one", append(full, trim(1, 1, 1)), mostExts)
	wantMany(t, "all in one", append(full, trim(0, 1<<40, 1<<20)), 1)
	wantTooMany(t, "one that fits in nowhere", append(full, trim(1, 1, 1<<20)))
	wantTooMany(t, "one that fills all gaps", append(full, trim(0, 1<<40, 0)))
}

// What there is behind each record counts, not only behind the last one.
func TestMapErrLongOnTheWay(t *testing.T) {
	full := apart(mostExts)
	one, all := trim(1<<30, 1, 5), trim(0, 1<<40, 1<<20)
	wantTooMany(t, "one too many, then all in one", slices.Concat(full, []api.Rec{one, all}))
	wantMany(t, "all in one, then one more", slices.Concat(full, []api.Rec{all, one}), 1)
	for _, many := range []int{1, 255, 256, 600} {
		again := full[:many]
		wantTooMany(t, "some again, one too many, all in one", slices.Concat(full, again, []api.Rec{one, all}, again))
		wantMany(t, "some again, all in one, then one more", slices.Concat(full, again, []api.Rec{all, one}, again), 1)
	}
	beside := append(apart(mostExts)[2:], trim(0, 1, 1), trim(1, 1, 2))
	both := trim(0, 2, 1<<20)
	wantTooMany(t, "one too many, then two in one", slices.Concat(beside, []api.Rec{one, both}))
	wantMany(t, "two in one, then one more", slices.Concat(beside, []api.Rec{both, one}), mostExts)
	// An error of a record that stands behind comes too late.
	bad := place(0, 1, 1, math.MaxInt, 0)
	wantTooMany(t, "one too many, then what may not be", slices.Concat(full, []api.Rec{one, bad}))
	m, e := replay.Map(inZones(slices.Concat(full, []api.Rec{bad, one})))
	wantNoMap(t, "what may not be, then one too many", m, e, api.ErrArg)
	m, e = replay.Map(inZones(slices.Concat(full[:100], []api.Rec{bad})))
	wantNoMap(t, "what may not be", m, e, api.ErrArg)
}

// A checkpoint is one record: what there is behind some of its extents does not count.
func TestMapErrLongOfCheckpoints(t *testing.T) {
	full := apart(mostExts)
	a, b := api.Ext{Lba: 1 << 30, N: 1, Ver: 5, Zone: -1}, api.Ext{N: 3, Ver: 1 << 20, Zone: -1} // b lays two into one
	other := full[:7]
	wantMany(t, "in one", slices.Concat(full, []api.Rec{check(1, b, a)}, other), mostExts)
	wantTooMany(t, "in two", slices.Concat(full, []api.Rec{check(1, a), check(1, b)}, other))
	wantTooMany(t, "too many", slices.Concat(full, []api.Rec{check(1, a)}))
	var l []api.Rec
	for range 4 {
		var m []api.Ext
		for i := range mostExts / 4 {
			m = append(m, api.Ext{Lba: 2*i + len(l)*mostExts, N: 1, Ver: 1, Zone: -1})
		}
		l = append(l, check(1, m...))
	}
	wantMany(t, "four", l, mostExts)
	wantTooMany(t, "four, and one more", append(l, trim(1<<30, 1, 0)))
}

// P16.3

func TestBytes(t *testing.T) {
	x, y := text(1, 100), text(2, 64)
	d := device(nil, x, y)
	m := []api.Ext{{Lba: 0, N: 2, Ver: 1, Zone: 1, Off: 5}, {Lba: 2, N: 1, Ver: 4, Zone: -1}, {Lba: 3, N: 4, Ver: 2, Zone: 2}, {Lba: 9, N: 1, Ver: 2, Zone: 1, Off: 84}, {Lba: 10, N: 1, Zone: 2, Off: 48}}
	zeros := make([]byte, 32)
	all := slices.Concat(x[5:37], zeros[:16], y, zeros, x[84:], y[48:], zeros)
	for lba := range 12 {
		for n := 1; lba+n <= 12; n++ {
			b, e := replay.Bytes(d, m, lba, n)
			wantBytes(t, []int{lba, n}, b, e, slices.Concat(all, zeros)[16*lba:16*(lba+n)])
		}
	}
	b, e := replay.Bytes(d, nil, 1<<40-1, 1)
	wantBytes(t, "the last block", b, e, zeros[:16])
	b, e = replay.Bytes(d, []api.Ext{{N: 1, Zone: 2}, {Lba: 1, N: 1, Zone: 2, Off: 16}}, 0, 2)
	wantBytes(t, "not joined", b, e, y[:32])
	b, e = replay.Bytes(d, []api.Ext{{N: 2, Zone: 2}, {Lba: 2, N: 2, Zone: 2}}, 0, 4)
	wantBytes(t, "twice at one place", b, e, slices.Concat(y[:32], y[:32]))
}

func TestBytesMost(t *testing.T) {
	x := text(1, mostCap)
	d := device(x)
	m := []api.Ext{{Lba: 7, N: mostBytes, Ver: 1}}
	b, e := replay.Bytes(d, m, 7, mostBytes)
	wantBytes(t, "as many as can be", b, e, x)
	b, e = replay.Bytes(d, m, 8, mostBytes)
	wantBytes(t, "one is trimmed", b, e, slices.Concat(x[16:], make([]byte, 16)))
	b, e = replay.Bytes(d, nil, 0, mostBytes)
	wantBytes(t, "all are trimmed", b, e, make([]byte, mostCap))
	for _, n := range []int{mostBytes + 1, mostBytes + 2, 1 << 20, 1<<40 - 7} {
		for i, m := range [][]api.Ext{nil, m, {{Lba: 7, N: 1, Zone: 9}}} { // ahead of ErrForm
			b, e := replay.Bytes(d, m, 7, n)
			wantNoBytes(t, []int{n, i}, b, e, api.ErrLong)
		}
	}
}

func TestBytesLookError(t *testing.T) {
	d := device(text(1, 100))
	good := []api.Ext{{N: 1}}
	for _, c := range []struct{ lba, n int }{{-1, 1}, {0, 0}, {0, -1}, {math.MinInt, 1}, {0, math.MinInt}, {1 << 40, 1}, {1<<40 - 1, 2}, {0, 1<<40 + 1}, {math.MaxInt, math.MaxInt}, {-1, mostBytes + 1}, {1 << 40, mostBytes + 1}} {
		for _, m := range [][]api.Ext{nil, good, {{N: 1, Zone: 9}}} {
			b, e := replay.Bytes(d, m, c.lba, c.n)
			wantNoBytes(t, c, b, e, api.ErrArg)
		}
	}
	for i, m := range [][]api.Ext{{{}}, {{N: 1, Zone: -2}}, {{N: 1, Zone: -1, Off: 16}}, {{N: 1, Off: -1}}, {{N: 1, Ver: -1}}, {{Lba: 5, N: 1}, {N: 1}}, {{N: 2}, {Lba: 1, N: 1}}, {{N: 1, Zone: 1<<40 + 1}}, {{N: 1, Off: math.MaxInt}}} {
		for _, n := range []int{1, mostBytes + 1} { // ahead of ErrLong, and also where what may not be is not asked for
			b, e := replay.Bytes(d, m, 0, n)
			wantNoBytes(t, i, b, e, api.ErrArg)
			b, e = replay.Bytes(d, m, 100, n)
			wantNoBytes(t, i, b, e, api.ErrArg)
		}
	}
}

func TestBytesErrForm(t *testing.T) {
	x := text(1, 100)
	d := device(nil, x)
	for i, m := range [][]api.Ext{
		{{N: 1, Zone: 2}},
		{{N: 1, Zone: 64}},
		{{N: 1, Zone: 1 << 40}},
		{{N: 1, Zone: 0}},
		{{N: 1, Zone: 1, Off: 85}},
		{{N: 1, Zone: 1, Off: 100}},
		{{N: 1, Zone: 1, Off: 101}},
		{{N: 1, Zone: 1, Off: 1<<50 - 16}},
		{{N: 1, Zone: 0, Off: 1<<50 - 16}},
	} {
		b, e := replay.Bytes(d, m, 0, 1)
		wantNoBytes(t, i, b, e, api.ErrForm)
		b, e = replay.Bytes(d, append(m, api.Ext{Lba: 1, N: 1, Zone: 1}), 0, 3)
		wantNoBytes(t, i, b, e, api.ErrForm)
		b, e = replay.Bytes(d, append(m, api.Ext{Lba: 1, N: 1, Zone: 1}), 1, 3) // of what is not asked for nothing need be there
		wantBytes(t, i, b, e, slices.Concat(x[:16], make([]byte, 32)))
	}
	m := []api.Ext{{Lba: 1, N: 7, Zone: 1}} // of six of them all bytes are there
	for lba := range 8 {
		for n := 1; lba+n <= 8; n++ {
			b, e := replay.Bytes(d, m, lba, n)
			if lba+n == 8 {
				wantNoBytes(t, []int{lba, n}, b, e, api.ErrForm)
			} else {
				wantBytes(t, []int{lba, n}, b, e, slices.Concat(make([]byte, 16), x)[16*lba:16*(lba+n)])
			}
		}
	}
	b, e := replay.Bytes(api.Zns{}, m, 1, 1)
	wantNoBytes(t, "no zones", b, e, api.ErrForm)
	b, e = replay.Bytes(api.Zns{}, m, 0, 1)
	wantBytes(t, "no zones, a trimmed one", b, e, make([]byte, 16))
}

// Bytes does not ask whether a device may be.
func TestBytesOfDevicesThatMayNotBe(t *testing.T) {
	x := text(1, 100)
	d := api.Zns{Z: []api.Zone{{State: 77, Fence: -1, Data: x}}}
	b, e := replay.Bytes(d, []api.Ext{{N: 1, Off: 84}}, 0, 1)
	wantBytes(t, "a zone that may not be", b, e, x[84:])
}

// The example of the chapter.
func TestDeviceWithoutBytes(t *testing.T) {
	d, _ := zns.New(2, 100, 1, 1)
	m, e := replay.Map(d)
	wantMap(t, "none", m, e)
	if l := replay.Heads(d); !slices.Equal(l, []api.Header{{Host: -1}, {Host: -1}}) {
		t.Errorf("got %v", l)
	}
	if l := replay.Torn(d); len(l) != 0 || replay.Newest(d) != 0 {
		t.Errorf("got %v, %d", l, replay.Newest(d))
	}
}
