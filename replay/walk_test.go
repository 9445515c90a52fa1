package replay_test

import (
	"bytes"
	"maps"
	"math"
	"slices"
	"testing"

	"quickset/api"
	"quickset/replay"
	"quickset/zns"
)

// A model of the document's words by another hand than the program's: what was appended to each zone, and which records are whole there.
type model []modelZone

type modelZone struct {
	b    []byte
	head bool
	h    api.Header
	torn bool // what is appended from there on is not found
	l    []modelRec
}

type modelRec struct {
	r   api.Rec
	off int // where its Data stands
}

// spot is where a block is, of zone -1 trimmed.
type spot struct{ ver, zone, off int }

type blocks map[int]spot

func (k blocks) offer(x api.Ext) {
	for i := range x.N {
		s := spot{x.Ver, x.Zone, x.Off + i*api.Block}
		if x.Zone == -1 {
			s.off = 0
		}
		if old, is := k[x.Lba+i]; !is || old.ver < x.Ver {
			k[x.Lba+i] = s
		}
	}
}

func (k blocks) apply(r api.Rec, zone, off int, checks map[string][]api.Ext) {
	x := api.Ext{Lba: r.Lba, N: r.N, Ver: r.Ver, Zone: zone, Off: off}
	switch r.Kind {
	case api.TrimR:
		x.Zone, x.Off = -1, 0
	case api.MapR:
		x.Zone, x.Off = r.Zone, r.Off
	case api.CheckR:
		for _, x := range checks[string(r.Data)] {
			k.offer(x)
		}
		return
	}
	k.offer(x)
}

func (k blocks) exts() []api.Ext {
	var m []api.Ext
	for _, lba := range slices.Sorted(maps.Keys(k)) {
		s := k[lba]
		if n := len(m); n > 0 {
			last := &m[n-1]
			next := last.Off + last.N*api.Block
			if last.Zone == -1 {
				next = 0
			}
			if last.Lba+last.N == lba && *last == (api.Ext{Lba: last.Lba, N: last.N, Ver: s.ver, Zone: s.zone, Off: last.Off}) && s.off == next {
				last.N++
				continue
			}
		}
		m = append(m, api.Ext{Lba: lba, N: 1, Ver: s.ver, Zone: s.zone, Off: s.off})
	}
	return m
}

func (m model) blocks(zones []int, checks map[string][]api.Ext) blocks {
	k := blocks{}
	for zone, z := range m {
		if slices.Contains(zones, zone) {
			for _, r := range z.l {
				k.apply(r.r, zone, r.off, checks)
			}
		}
	}
	return k
}

// read is a block's bytes, if they are there.
func (m model) read(k blocks, lba int) ([]byte, bool) {
	s, is := k[lba]
	switch {
	case !is || s.zone == -1:
		return make([]byte, api.Block), true
	case s.zone >= len(m) || s.off+api.Block > len(m[s.zone].b):
		return nil, false
	}
	return m[s.zone].b[s.off : s.off+api.Block], true
}

// A walk is a device, and the model of it.
type walk struct {
	d api.Zns
	m model
}

// someChecks are checkpoints' maps.
func someChecks() [][]api.Ext {
	return [][]api.Ext{
		{{Lba: 0, N: 2, Ver: 3, Zone: 1, Off: 10}, {Lba: 2, N: 3, Ver: 1, Zone: -1}},
		{{Lba: 1, N: 1, Ver: 7, Zone: 60}, {Lba: 4, N: 2, Ver: 2, Zone: 0, Off: 20}},
		nil,
	}
}

func checksByBytes() map[string][]api.Ext {
	k := map[string][]api.Ext{}
	for _, m := range someChecks() {
		k[string(check(0, m...).Data)] = m
	}
	return k
}

func newWalk(t *testing.T, zones int) walk {
	t.Helper()
	d, e := zns.New(zones, mostCap, zones, zones)
	if e != api.OK {
		t.Fatal(e)
	}
	return walk{d, make(model, zones)}
}

func (w walk) do(t *testing.T, c api.Cmd) walk {
	t.Helper()
	d, done := zns.Do(w.d, c)
	if done.E != api.OK {
		t.Fatalf("%v: %v", c, done)
	}
	return walk{d, slices.Clone(w.m)}
}

// add appends a record, behind a header where there are no bytes yet.
func (w walk) add(t *testing.T, zone int, r api.Rec) walk {
	t.Helper()
	z := w.m[zone]
	var b []byte
	if len(z.b) == 0 {
		z.head, z.h = true, api.Header{Host: zone, Epoch: 1, Seq: r.Ver}
		b = headFrame(z.h)
	}
	if !z.torn {
		z.l = append(slices.Clone(z.l), modelRec{r, len(z.b) + len(b) + placeOf(r)})
	}
	b = append(b, recFrame(r)...)
	z.b = slices.Concat(z.b, b)
	w = w.do(t, api.Cmd{Do: api.AppendC, Zone: zone, Data: b})
	w.m[zone] = z
	return w
}

// tear appends a record's first bytes alone.
func (w walk) tear(t *testing.T, zone int, r api.Rec, keep int) walk {
	t.Helper()
	z := w.m[zone]
	b := recFrame(r)
	z.b, z.torn = slices.Concat(z.b, b[:keep]), true
	w = w.do(t, api.Cmd{Do: api.TornC, Zone: zone, Data: b, N: keep})
	w.m[zone] = z
	return w
}

func (w walk) reset(t *testing.T, zone int) walk {
	t.Helper()
	w = w.do(t, api.Cmd{Do: api.ResetC, Zone: zone})
	w.m[zone] = modelZone{}
	return w
}

// wantAll holds all that the device has against the model, also in some of its zones, and in each block.
func (w walk) wantAll(t *testing.T, most int) {
	t.Helper()
	all, newest := []int(nil), 0
	var heads []api.Header
	var torn []int
	for zone, z := range w.m {
		all = append(all, zone)
		h := api.Header{Host: -1}
		if z.head {
			h = z.h
		}
		heads = append(heads, h)
		if z.torn {
			torn = append(torn, zone)
		}
		for _, r := range z.l {
			newest = max(newest, r.r.Ver)
		}
	}
	if got := replay.Heads(w.d); !slices.Equal(got, heads) {
		t.Fatalf("got %v, want %v", got, heads)
	}
	if got := replay.Torn(w.d); !slices.Equal(got, torn) {
		t.Fatalf("got %v, want %v", got, torn)
	}
	if got := replay.Newest(w.d); got != newest {
		t.Fatalf("got %d, want %d", got, newest)
	}
	w.wantMap(t, all[len(all)-1:])
	w.wantMap(t, all[:2])
	k := w.wantMap(t, nil)
	got, _ := replay.Map(w.d)
	for lba := range most {
		b, e := replay.Bytes(w.d, got, lba, 1)
		want, is := w.m.read(k, lba)
		if is != (e == api.OK) || !is && e != api.ErrForm || !bytes.Equal(b, want) {
			t.Fatalf("block %d: got %v, %d, want %v", lba, b, e, want)
		}
	}
}

func (w walk) wantMap(t *testing.T, zones []int) blocks {
	t.Helper()
	named := zones
	if len(named) == 0 {
		named = []int{0, 1, 2, 3, 4, 5, 6, 7}
	}
	k := w.m.blocks(named, checksByBytes())
	got, e := replay.Map(w.d, zones...)
	if want := k.exts(); !slices.Equal(got, want) || e != api.OK {
		t.Fatalf("%v: got %v, %d, want %v", zones, got, e, want)
	}
	return k
}

// walkAll goes all ways of so many steps from there on.
func (w walk) walkAll(t *testing.T, l []api.Rec, steps int) {
	t.Helper()
	w.wantAll(t, 5)
	if steps == 0 {
		return
	}
	for zone, z := range w.m {
		for _, r := range l {
			w.add(t, zone, r).walkAll(t, l, steps-1)
		}
		w.tear(t, zone, l[0], len(recFrame(l[0]))-1).walkAll(t, l, steps-1)
		if len(z.b) > 0 {
			w.reset(t, zone).walkAll(t, l, steps-1)
		}
	}
}

func TestAllShortWays(t *testing.T) {
	newWalk(t, 2).walkAll(t, []api.Rec{data(0, 2, 2), trim(1, 2, 3), move(1, 1, 2, 0, 5)}, 4)
	newWalk(t, 2).walkAll(t, []api.Rec{data(1, 3, 1), place(0, 3, 2, 1, 10), check(5, someChecks()[0]...)}, 4)
}

// row makes a row of numbers that is always the same.
func row(x uint64) func(n int) int {
	return func(n int) int {
		x = x*6364136223846793005 + 1442695040888963407
		return int(x>>33) % n
	}
}

const walkBlocks = 30

func someRec(next func(int) int) api.Rec {
	lba, n, ver := next(walkBlocks-8), 1+next(8), next(60)
	switch next(7) {
	case 0:
		return trim(lba, n, ver)
	case 1:
		return place(lba, n, ver, next(5), next(300))
	case 2:
		m := someChecks()[next(len(someChecks()))]
		return check(ver, m...)
	case 3:
		return api.Rec{Kind: api.CheckR, Ver: ver, Data: []byte("no map")}
	case 4:
		return move(lba, n, ver, next(100), next(100))
	}
	return data(lba, n, ver)
}

func TestLongWays(t *testing.T) {
	next := row(16)
	for zones := 2; zones <= 5; zones++ {
		for range 6 {
			w := newWalk(t, zones)
			for range 60 {
				zone, r := next(zones), someRec(next)
				switch {
				case next(12) == 0 && len(w.m[zone].b) > 0:
					w = w.reset(t, zone)
				case next(25) == 0:
					w = w.tear(t, zone, r, 1+next(len(recFrame(r))-1))
				default:
					w = w.add(t, zone, r)
				}
				w.wantAll(t, walkBlocks)
			}
		}
	}
}

// More records than are laid over a map at once.
func TestManyRecords(t *testing.T) {
	next := row(17)
	w := newWalk(t, 3)
	for i := range 2000 {
		w = w.add(t, next(3), someRec(next))
		if i%101 == 0 || i > 1990 {
			w.wantAll(t, walkBlocks)
		}
	}
}

// written are records of rising versions: what a volume went through.
func written(next func(int) int, many int) []api.Rec {
	var l []api.Rec
	for ver := 1; ver <= many; ver++ {
		lba, n := next(walkBlocks-4), 1+next(4)
		switch next(4) {
		case 0:
			l = append(l, trim(lba, n, ver))
		case 1:
			l = append(l, move(lba, n, ver, next(9), next(9)))
		default:
			l = append(l, data(lba, n, ver))
		}
	}
	return l
}

// volume is what is read, and at which versions, behind such records.
func volume(l []api.Rec) (b []byte, ver []int) {
	b, ver = make([]byte, walkBlocks*api.Block), make([]int, walkBlocks)
	for _, r := range l {
		at := b[r.Lba*api.Block:][:r.N*api.Block]
		clear(at)
		copy(at, r.Data)
		for i := range r.N {
			ver[r.Lba+i] = r.Ver
		}
	}
	return b, ver
}

// lie lays records into zones, whatever their order is.
func lie(t *testing.T, next func(int) int, l []api.Rec) walk {
	t.Helper()
	l = slices.Clone(l)
	for i := range l {
		k := i + next(len(l)-i)
		l[i], l[k] = l[k], l[i]
	}
	w := newWalk(t, 4)
	for _, r := range l {
		w = w.add(t, next(4), r)
	}
	return w
}

func wantVolume(t *testing.T, d api.Zns, l []api.Rec) {
	t.Helper()
	want, ver := volume(l)
	m, e := replay.Map(d)
	if e != api.OK {
		t.Fatal(e)
	}
	b, e := replay.Bytes(d, m, 0, walkBlocks)
	if !bytes.Equal(b, want) || e != api.OK {
		t.Fatalf("got %v, %d, want %v", b, e, want)
	}
	got := make([]int, walkBlocks)
	for _, x := range m {
		for i := range x.N {
			got[x.Lba+i] = x.Ver
		}
	}
	if !slices.Equal(got, ver) {
		t.Fatalf("got the versions %v, want %v", got, ver)
	}
	newest := 0
	for _, r := range l {
		newest = max(newest, r.Ver)
	}
	if got := replay.Newest(d); got != newest {
		t.Fatalf("got %d, want %d", got, newest)
	}
}

// P16.4: in whatever zones records stand, and in whatever order, the newest versions are read back, and what is torn behind them changes nothing.
func TestWhatWasWrittenIsReadBack(t *testing.T) {
	next := row(18)
	for many := 1; many < 60; many++ {
		l := written(next, many)
		for range 3 {
			w := lie(t, next, l)
			wantVolume(t, w.d, l)
			before, _ := replay.Map(w.d)
			for zone := range w.m {
				r := data(next(walkBlocks-4), 4, 1000)
				w = w.tear(t, zone, r, 1+next(len(recFrame(r))-1))
			}
			wantVolume(t, w.d, l)
			if m, _ := replay.Map(w.d); !slices.Equal(m, before) {
				t.Fatalf("got %v, want %v", m, before)
			}
			w = w.add(t, next(4), data(0, 4, 2000)) // behind what is torn
			wantVolume(t, w.d, l)
		}
	}
}

// A segment that is cut anywhere has what is whole of it.
func TestCutAnywhere(t *testing.T) {
	l := written(row(19), 12)
	b := segmentOf(l...)
	whole := 0
	for k := range len(b) + 1 {
		if whole < len(l) && k == len(segmentOf(l[:whole+1]...)) {
			whole++
		}
		wantVolume(t, device(nil, b[:k]), l[:whole])
	}
}

// Every call ends, and none panics, at all arguments.
func TestWildArguments(t *testing.T) {
	wild := []int{math.MinInt, math.MinInt + 1, -1, 0, 1, 17, mostCap, 1 << 40, 1 << 50, math.MaxInt - 1, math.MaxInt}
	b := segmentOf(someRecs()...)
	for _, x := range wild {
		for _, y := range wild {
			for _, data := range [][]byte{nil, b, b[:len(b)-1]} {
				z := api.Zone{State: x, Fence: y, Data: data}
				replay.Zone(z)
				for _, d := range []api.Zns{{Cap: x, Open: y, Active: x, Z: []api.Zone{z, z}}, {Cap: mostCap, Open: 1, Active: 1, Z: []api.Zone{{}, z}}, {Cap: x, Open: y, Active: y}} {
					replay.Heads(d)
					replay.Torn(d)
					replay.Newest(d)
					_, _ = replay.Map(d)
					_, _ = replay.Map(d, x, y)
					_, _ = replay.Bytes(d, nil, x, y)
					for _, e := range wild {
						m := []api.Ext{{Lba: x, N: y, Ver: e, Zone: x, Off: y}, {Lba: e, N: x, Ver: y, Zone: e, Off: x}}
						_, _ = replay.Bytes(d, m, 0, 1)
						_, _ = replay.Bytes(d, m[:1], y, x)
						_, _ = replay.Bytes(d, []api.Ext{{N: 1, Zone: x, Off: y}}, 0, 1)
					}
				}
			}
		}
	}
}
