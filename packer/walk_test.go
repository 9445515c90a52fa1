package packer_test

import (
	"bytes"
	"math"
	"slices"
	"testing"

	"quickset/api"
	"quickset/packer"
	"quickset/seg"
	"quickset/zns"
)

// A model of the document's words by another hand than the program's: a segment in a zone, its frames that stand there, those that are to be appended, all of its records, and where each one's Data is, or will be.
type model struct {
	h          api.Header
	zone, most int
	there      []byte
	waiting    []byte
	l          []api.Rec
	at         []int
	flushed    int // how many of l stand in the zone
}

func newModel(h api.Header, zone, most int) model {
	return model{h: h, zone: zone, most: most, waiting: headFrame(h)}
}

func (m model) pack() api.Pack {
	return api.Pack{H: m.h, Zone: m.zone, Cap: m.most, At: len(m.there), Buf: m.waiting, L: m.l[m.flushed:]}
}

func (m model) room() int { return m.most - len(m.there) - len(m.waiting) }

func (m model) add(l []api.Rec) (model, []int, api.Errno) {
	for _, r := range l {
		if e := seg.Check(r); e != api.OK {
			return m, nil, e
		}
	}
	b, at := framesOf(len(m.there)+len(m.waiting), l...)
	if len(b) > m.room() && len(l) > 0 {
		return m, nil, api.ErrFull
	}
	m.waiting, m.l, m.at = slices.Concat(m.waiting, b), slices.Concat(m.l, l), slices.Concat(m.at, at)
	return m, at, api.OK
}

func (m model) flush() model {
	m.there, m.waiting, m.flushed = slices.Concat(m.there, m.waiting), nil, len(m.l)
	return m
}

// crash lets go what is not in the zone yet.
func (m model) crash() model {
	m.waiting, m.l, m.at = nil, m.l[:m.flushed], m.at[:m.flushed]
	return m
}

// A walk is a pack, the device that it is flushed to, and the model of both.
type walk struct {
	d api.Zns
	p api.Pack
	m model
}

const walkZone = 1

func newWalk(t *testing.T, h api.Header, most int) walk {
	t.Helper()
	d, e := zns.New(3, most, 1, 1)
	if e != api.OK {
		t.Fatal(e)
	}
	d, done := zns.Do(d, api.Cmd{Do: api.FenceC, Zone: walkZone, Epoch: h.Epoch})
	if done.E != api.OK {
		t.Fatal(done)
	}
	p, e := packer.Begin(h, walkZone, most)
	w := walk{d, p, newModel(h, walkZone, most)}
	wantPack(t, "Begin", p, e, w.m.pack())
	return w
}

func (w walk) add(t *testing.T, l []api.Rec) walk {
	t.Helper()
	m, at, want := w.m.add(l)
	p, told, e := packer.Add(w.p, l...)
	wantP := m.pack()
	if want != api.OK {
		wantP = api.Pack{}
	}
	if !samePack(p, wantP) || !slices.Equal(told, at) || e != want {
		t.Fatalf("Add of %d: got %v, %v, %d, want %v, %v, %d", len(l), p, told, e, wantP, at, want)
	}
	if e == api.OK {
		w.p, w.m = p, m
	}
	return w
}

// flush does at the device what is told, which must go.
func (w walk) flush(t *testing.T) walk {
	t.Helper()
	c, p, is := packer.Flush(w.p)
	if is != (len(w.m.waiting) > 0) {
		t.Fatalf("Flush of %d bytes: got %t", len(w.m.waiting), is)
	}
	if is {
		d, done := zns.Do(w.d, c)
		if done.E != api.OK || done.At != len(w.m.there) {
			t.Fatalf("the append of %d bytes at %d came to %v", len(c.Data), len(w.m.there), done)
		}
		w.d = d
	}
	w.p, w.m = p, w.m.flush()
	return w
}

// resume goes on with what is found in the zone.
func (w walk) resume(t *testing.T) walk {
	t.Helper()
	f := seg.Scan(w.d.Z[walkZone].Data)
	p, e := packer.Resume(f, walkZone, w.m.most, f.Used)
	if len(w.m.there) == 0 { // not even the header
		wantError(t, "Resume", p, e, api.ErrArg)
		return w
	}
	w.p, w.m = p, w.m.crash()
	wantPack(t, "Resume", p, e, w.m.pack())
	return w
}

// wantFound holds P15.4: what was flushed is found in the zone, where it was told.
func (w walk) wantFound(t *testing.T) {
	t.Helper()
	if !samePack(w.p, w.m.pack()) || packer.Room(w.p) != w.m.room() {
		t.Fatalf("got %v, room for %d, want %v", w.p, packer.Room(w.p), w.m.pack())
	}
	b := w.d.Z[walkZone].Data
	if !bytes.Equal(b, w.m.there) {
		t.Fatalf("the zone has %v, not %v", b, w.m.there)
	}
	f := seg.Scan(b)
	if f.Head != (len(b) > 0) || f.Used != len(b) || f.Head && f.H != w.m.h {
		t.Fatalf("found %v", f)
	}
	if !slices.EqualFunc(f.L, w.m.l[:w.m.flushed], sameRec) {
		t.Fatalf("found %v, want %v", f.L, w.m.l[:w.m.flushed])
	}
	for i, r := range f.L {
		at := w.m.at[i]
		if !bytes.Equal(b[at:at+len(r.Data)], r.Data) {
			t.Fatalf("record %d's bytes do not stand at %d", i, at)
		}
	}
	if zns.Used(w.d) != len(b) {
		t.Fatal("another zone was written to")
	}
}

// choices are what can be added in a step.
func choices() [][]api.Rec {
	l := shortRecs()
	return [][]api.Rec{
		{l[1]},
		{l[4], l[3]},
		{l[0]},
		{l[0], l[4], l[2]},
		nil,
		{l[1], {Kind: api.DataR, N: 1, Data: text(15)}},
	}
}

// walkAll goes all ways of so many steps from there on.
func (w walk) walkAll(t *testing.T, steps int) {
	t.Helper()
	w.wantFound(t)
	if steps == 0 {
		return
	}
	for _, l := range choices() {
		x := w.add(t, l)
		if len(x.p.L) > len(w.p.L) { // else all is as it was
			x.walkAll(t, steps-1)
		}
	}
	w.flush(t).walkAll(t, steps-1)
	w.resume(t).walkAll(t, steps-1)
}

func TestAllShortWays(t *testing.T) {
	h := api.Header{Host: 2, Epoch: 300, Seq: 1}
	head := len(headFrame(h))
	for _, most := range []int{head, head + 1, head + len(recFrame(shortRecs()[1])), head + 60, head + 100, 4096} {
		newWalk(t, h, most).walkAll(t, 5)
	}
}

// row makes a row of numbers that is always the same.
func row(x uint64) func(n int) int {
	return func(n int) int {
		x = x*6364136223846793005 + 1442695040888963407
		return int(x>>33) % n
	}
}

func TestLongWays(t *testing.T) {
	next := row(15)
	good, bad := goodRecs(), badRecs()
	full, many := 0, 0
	for _, h := range someHeads()[1:] { // a fence is above 0
		for _, most := range []int{60, 200, 4096, 20000, mostCap} {
			w := newWalk(t, h, most)
			for range 120 {
				switch next(6) {
				case 0:
					w = w.flush(t)
				case 1:
					w = w.resume(t)
				case 2:
					w = w.add(t, []api.Rec{good[next(len(good))], bad[next(len(bad))].r, good[next(len(good))]})
				default:
					var l []api.Rec
					for range next(4) {
						l = append(l, good[next(len(good))])
					}
					if _, _, e := w.m.add(l); e == api.ErrFull {
						full++
					}
					w = w.add(t, l)
				}
				w.wantFound(t)
			}
			w = w.flush(t)
			w.wantFound(t)
			many += len(w.m.l)
		}
	}
	if full < 100 || many < 100 {
		t.Errorf("%d times there was no room, and %d records were found", full, many)
	}
}

// All records that may be, in as many zones as they need.
func TestEachRecordIsFound(t *testing.T) {
	h := api.Header{Host: 1, Epoch: 2, Seq: 3}
	w := newWalk(t, h, mostCap)
	found := 0
	for _, r := range goodRecs() {
		if len(recFrame(r)) > w.m.room() {
			found += len(w.m.l)
			w = newWalk(t, h, mostCap)
		}
		w = w.add(t, []api.Rec{r}).flush(t)
		w.wantFound(t)
	}
	if found+len(w.m.l) != len(goodRecs()) {
		t.Errorf("%d were found", found)
	}
}

// What is flushed in several appends stands there as it would in one.
func TestFlushesAreAsOne(t *testing.T) {
	h := api.Header{Host: 1, Epoch: 2, Seq: 3}
	want := newWalk(t, h, 4096).add(t, shortRecs()).flush(t)
	for cut := range 1 << (len(shortRecs()) + 1) {
		w := newWalk(t, h, 4096)
		for i, r := range shortRecs() {
			if cut>>i&1 == 1 {
				w = w.flush(t)
			}
			w = w.add(t, []api.Rec{r})
		}
		w = w.flush(t)
		w.wantFound(t)
		if !zns.Same(w.d, want.d) || !slices.Equal(w.m.at, want.m.at) || !samePack(w.p, want.p) {
			t.Fatalf("%b: got %v, want %v", cut, w.p, want.p)
		}
	}
}

// A segment's host is told by the fence: an append of another epoch is refused, and the pack that was flushed can be flushed again.
func TestFlushIsUnderTheEpoch(t *testing.T) {
	w := newWalk(t, api.Header{Host: 1, Epoch: 2}, 4096).add(t, shortRecs())
	c, _, _ := packer.Flush(w.p)
	d, _ := zns.Do(w.d, api.Cmd{Do: api.FenceC, Zone: walkZone, Epoch: 3})
	if _, done := zns.Do(d, c); done.E != api.ErrFence {
		t.Errorf("got %v", done)
	}
	w.flush(t).wantFound(t)
}

// Every call ends, and none panics, at all arguments.
func TestWildArguments(t *testing.T) {
	wild := []int{math.MinInt, math.MinInt + 1, -1, 0, 1, 17, mostCap, math.MaxInt - 1, math.MaxInt}
	l := append(shortRecs(), api.Rec{}, api.Rec{Kind: api.CheckR, Data: text(mostCheck + 1)})
	for _, a := range wild {
		for _, b := range wild {
			for _, c := range wild {
				h := api.Header{Host: a, Epoch: b, Seq: c}
				_, _ = packer.Begin(h, b, c)
				f := api.Found{Head: a > 0, H: h, L: l, At: []int{a}, Used: a}
				_, _ = packer.Resume(f, b, c, a)
				_, _ = packer.Data(api.Rec{Kind: a, Lba: b, N: c, Ver: a, Zone: b, Off: c})
				for kind := api.DataR; kind <= api.MoveR; kind++ {
					_, _ = packer.Data(api.Rec{Kind: kind, Lba: a, N: b, Ver: c, Zone: a, Off: b, Data: text(16)})
				}
				for _, buf := range [][]byte{nil, text(5)} {
					p := api.Pack{H: h, Zone: a, Cap: b, At: c, Buf: buf, L: l}
					packer.Room(p)
					packer.Flush(p)
					packer.Add(p, l[:5]...)
					packer.Add(p, l...)
				}
			}
		}
	}
}
