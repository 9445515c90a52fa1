package packer_test

import (
	"bytes"
	"encoding/binary"
	"hash/crc32"
	"math"
	"slices"
	"testing"

	"quickset/api"
	"quickset/packer"
	"quickset/seg"
)

const (
	mostCap   = 65536 // the greatest Cap of a zone
	mostCheck = 32768 // the most bytes of a checkpoint
)

// numbers, vector and frame are written by another hand than the program's.
func numbers(l ...int) []byte {
	var b []byte
	for _, n := range l {
		b = binary.AppendUvarint(b, uint64(n))
	}
	return b
}

func vector(x []byte) []byte { return slices.Concat(numbers(len(x)), x) }

func frame(x []byte) []byte {
	sum := crc32.Checksum(x, crc32.MakeTable(crc32.Castagnoli))
	return binary.LittleEndian.AppendUint32(vector(x), sum)
}

func headFrame(h api.Header) []byte { return frame(numbers(0, h.Host, h.Epoch, h.Seq)) }

func aheadOfData(r api.Rec) []byte {
	return numbers(r.Kind, r.Lba, r.N, r.Ver, r.Zone, r.Off, len(r.Data))
}

func recFrame(r api.Rec) []byte { return frame(slices.Concat(aheadOfData(r), r.Data)) }

// placeOf is a record's place, reckoned from the frame's beginning on.
func placeOf(r api.Rec) int {
	n := len(aheadOfData(r))
	return len(numbers(n+len(r.Data))) + n
}

// framesOf are records' frames, one behind the other, and where each one's Data stands, if the first frame begins at from.
func framesOf(from int, l ...api.Rec) (b []byte, at []int) {
	for _, r := range l {
		at = append(at, from+len(b)+placeOf(r))
		b = append(b, recFrame(r)...)
	}
	return b, at
}

// text makes n bytes that look like no pattern, always the same ones.
func text(n int) []byte {
	b := make([]byte, n)
	s := uint32(n)*2654435761 + 12345
	for i := range b {
		s = s*1664525 + 1013904223
		b[i] = byte(s >> 24)
	}
	return b
}

func someHeads() []api.Header {
	return []api.Header{
		{},
		{Host: 2, Epoch: 5, Seq: 1},
		{Host: 1, Epoch: 300, Seq: 2},
		{Host: 7, Epoch: 127, Seq: 128},
		{Host: math.MaxInt, Epoch: math.MaxInt, Seq: math.MaxInt},
	}
}

func badHeads() []api.Header {
	return []api.Header{{Host: -1}, {Epoch: -1}, {Seq: -1}, {Host: math.MinInt, Epoch: 1, Seq: 1}, {Host: 1, Epoch: math.MinInt, Seq: 1}, {Host: 1, Epoch: 1, Seq: math.MinInt}}
}

// shortRecs are a few, one of each kind.
func shortRecs() []api.Rec {
	return []api.Rec{
		{Kind: api.DataR, Lba: 3, N: 2, Ver: 7, Data: text(32)},
		{Kind: api.TrimR, Lba: 5, N: 1, Ver: 8},
		{Kind: api.MapR, Lba: 1, N: 4, Ver: 9, Zone: 2, Off: 64},
		{Kind: api.CheckR, Ver: 1, Data: []byte("state")},
		{Kind: api.MoveR, Lba: 1, N: 1, Ver: 2, Zone: 3, Off: 4, Data: text(16)},
	}
}

// goodRecs are records that may be, of each kind, up to the edges; also those at which a length takes a byte more.
func goodRecs() []api.Rec {
	l := append(shortRecs(),
		api.Rec{Kind: api.TrimR, N: 1, Data: []byte{}},
		api.Rec{Kind: api.TrimR, N: 1 << 40, Ver: math.MaxInt},
		api.Rec{Kind: api.MapR, Lba: 1<<40 - 1, N: 1, Zone: math.MaxInt, Off: math.MaxInt, Ver: math.MaxInt},
		api.Rec{Kind: api.MoveR, Lba: 1<<40 - 256, N: 256, Zone: math.MaxInt, Off: math.MaxInt, Ver: math.MaxInt, Data: text(4096)},
		api.Rec{Kind: api.CheckR, Ver: math.MaxInt, Data: text(mostCheck)},
	)
	for _, n := range []int{0, 1, 127, 128, 16383, 16384, 1 << 39} {
		l = append(l, api.Rec{Kind: api.TrimR, Lba: n, N: max(1, n), Ver: n}, api.Rec{Kind: api.MapR, Lba: n, N: 1, Ver: n, Zone: n, Off: n})
	}
	for n := 1; n <= 256; n += 1 + n/8 {
		l = append(l, api.Rec{Kind: api.DataR, N: n, Ver: n, Data: text(16 * n)}, api.Rec{Kind: api.MoveR, Lba: n, N: n, Off: n, Data: text(16 * n)})
	}
	for _, edge := range []int{0, 128, 16384, mostCheck} {
		for n := max(0, edge-20); n <= min(edge+20, mostCheck); n++ {
			l = append(l, api.Rec{Kind: api.CheckR, Data: text(n)})
		}
	}
	return l
}

// badRec is a record that may not be, and why.
type badRec struct {
	r api.Rec
	e api.Errno
}

func badRecs() []badRec {
	l := []badRec{
		{api.Rec{Kind: api.CheckR, Data: text(mostCheck + 1)}, api.ErrLong},
		{api.Rec{Kind: api.CheckR, Ver: 5, Data: text(1 << 17)}, api.ErrLong},
		{api.Rec{Kind: api.CheckR, Ver: -1, Data: text(mostCheck + 1)}, api.ErrArg},
		{api.Rec{}, api.ErrArg},
		{api.Rec{Kind: 6, N: 1}, api.ErrArg},
		{api.Rec{Kind: math.MinInt}, api.ErrArg},
		{api.Rec{Kind: math.MaxInt, Data: text(mostCheck + 1)}, api.ErrArg},
		{api.Rec{Kind: api.DataR}, api.ErrArg},
		{api.Rec{Kind: api.DataR, N: 1, Data: text(15)}, api.ErrArg},
		{api.Rec{Kind: api.DataR, N: 1, Data: text(17)}, api.ErrArg},
		{api.Rec{Kind: api.DataR, N: 257, Data: text(257 * 16)}, api.ErrArg},
		{api.Rec{Kind: api.DataR, N: 1, Zone: 1, Data: text(16)}, api.ErrArg},
		{api.Rec{Kind: api.TrimR}, api.ErrArg},
		{api.Rec{Kind: api.TrimR, N: 1, Data: text(1)}, api.ErrArg},
		{api.Rec{Kind: api.TrimR, Lba: 1 << 40, N: 1}, api.ErrArg},
		{api.Rec{Kind: api.TrimR, Lba: math.MaxInt, N: math.MaxInt}, api.ErrArg},
		{api.Rec{Kind: api.MapR, N: 1, Off: -1}, api.ErrArg},
		{api.Rec{Kind: api.MoveR, N: 2, Data: text(16)}, api.ErrArg},
		{api.Rec{Kind: api.CheckR, N: 1}, api.ErrArg},
	}
	return l
}

func sameRec(a, b api.Rec) bool {
	return a.Kind == b.Kind && a.Lba == b.Lba && a.N == b.N && a.Ver == b.Ver && a.Zone == b.Zone && a.Off == b.Off && bytes.Equal(a.Data, b.Data)
}

func samePack(a, b api.Pack) bool {
	return a.H == b.H && a.Zone == b.Zone && a.Cap == b.Cap && a.At == b.At && bytes.Equal(a.Buf, b.Buf) && slices.EqualFunc(a.L, b.L, sameRec)
}

func sameCmd(a, b api.Cmd) bool {
	return a.Do == b.Do && a.Zone == b.Zone && a.Epoch == b.Epoch && a.Off == b.Off && a.N == b.N && bytes.Equal(a.Data, b.Data)
}

func wantPack(t *testing.T, what any, got api.Pack, e api.Errno, want api.Pack) {
	t.Helper()
	if !samePack(got, want) || e != api.OK {
		t.Errorf("%v: got %v, %d, want %v", what, got, e, want)
	}
}

// wantError wants an error, and no pack.
func wantError(t *testing.T, what any, got api.Pack, e, want api.Errno) {
	t.Helper()
	if !samePack(got, api.Pack{}) || e != want {
		t.Errorf("%v: got %v, %d, want %d", what, got, e, want)
	}
}

// wantAdded wants all of l in the pack, and told where it should be.
func wantAdded(t *testing.T, what any, p api.Pack, l ...api.Rec) api.Pack {
	t.Helper()
	b, at := framesOf(p.At+len(p.Buf), l...)
	want := p
	want.Buf, want.L = slices.Concat(p.Buf, b), slices.Concat(p.L, l)
	got, told, e := packer.Add(p, l...)
	wantPack(t, what, got, e, want)
	if !slices.Equal(told, at) {
		t.Errorf("%v: got %v, want %v", what, told, at)
	}
	return want
}

func wantNotAdded(t *testing.T, what any, p api.Pack, want api.Errno, l ...api.Rec) {
	t.Helper()
	got, at, e := packer.Add(p, l...)
	wantError(t, what, got, e, want)
	if len(at) != 0 {
		t.Errorf("%v: got %v", what, at)
	}
}

// P15.1

func TestData(t *testing.T) {
	for _, r := range goodRecs() {
		got, e := packer.Data(r)
		if got != placeOf(r) || e != api.OK {
			t.Errorf("%d, %d bytes: got %d, %d, want %d", r.Kind, len(r.Data), got, e, placeOf(r))
		}
		b, _ := seg.Rec(r)
		if !bytes.Equal(b[got:len(b)-4], r.Data) {
			t.Errorf("%d, %d bytes: they do not stand at %d", r.Kind, len(r.Data), got)
		}
	}
	if got, _ := packer.Data(api.Rec{Kind: api.TrimR, Lba: 1, N: 1, Ver: 3}); got != 8 { // a length, six numbers, a length
		t.Errorf("got %d", got)
	}
	if got, _ := packer.Data(api.Rec{Kind: api.CheckR, Data: text(121)}); got != 9 { // 128 bytes: their length has two
		t.Errorf("got %d", got)
	}
}

func TestDataOfWhatMayNotBe(t *testing.T) {
	for _, bad := range badRecs() {
		if got, e := packer.Data(bad.r); got != 0 || e != bad.e || e != seg.Check(bad.r) {
			t.Errorf("%d, %d bytes: got %d, %d, want %d", bad.r.Kind, len(bad.r.Data), got, e, bad.e)
		}
	}
}

func TestBegin(t *testing.T) {
	for _, h := range someHeads() {
		b := headFrame(h)
		for _, zone := range []int{0, 1, 63, 64, math.MaxInt} {
			for _, most := range []int{len(b), len(b) + 1, 4096, mostCap - 1, mostCap} {
				p, e := packer.Begin(h, zone, most)
				wantPack(t, most, p, e, api.Pack{H: h, Zone: zone, Cap: most, Buf: b})
			}
			for most := 1; most < len(b); most++ {
				p, e := packer.Begin(h, zone, most)
				wantError(t, most, p, e, api.ErrFull)
			}
		}
	}
}

func TestBeginOfWhatMayNotBe(t *testing.T) {
	for _, h := range badHeads() { // the header's error goes ahead of the others
		for _, zone := range []int{-1, 0, 1} {
			for _, most := range []int{0, 1, 100, mostCap + 1} {
				p, e := packer.Begin(h, zone, most)
				wantError(t, h, p, e, api.ErrArg)
			}
		}
	}
	for _, h := range someHeads() {
		for _, most := range []int{1, 100, mostCap} { // ErrArg goes ahead of ErrFull
			for _, zone := range []int{-1, -64, math.MinInt} {
				p, e := packer.Begin(h, zone, most)
				wantError(t, zone, p, e, api.ErrArg)
			}
		}
		for _, most := range []int{0, -1, -100, math.MinInt, mostCap + 1, 1 << 20, math.MaxInt} {
			p, e := packer.Begin(h, 0, most)
			wantError(t, most, p, e, api.ErrArg)
		}
	}
}

func foundOf(h api.Header, l ...api.Rec) api.Found {
	b, _ := framesOf(0, l...)
	return seg.Scan(slices.Concat(headFrame(h), b))
}

func TestResume(t *testing.T) {
	for _, h := range someHeads() {
		for _, f := range []api.Found{foundOf(h), foundOf(h, shortRecs()[0]), foundOf(h, shortRecs()...)} {
			for _, zone := range []int{0, 1, 64, math.MaxInt} {
				for _, c := range []struct{ most, at int }{{f.Used, f.Used}, {f.Used + 1, f.Used}, {f.Used + 1, f.Used + 1}, {4096, f.Used}, {4096, f.Used + 2}, {4096, 4096}, {mostCap, f.Used}, {mostCap, mostCap - 1}, {mostCap, mostCap}} {
					p, e := packer.Resume(f, zone, c.most, c.at)
					wantPack(t, c, p, e, api.Pack{H: h, Zone: zone, Cap: c.most, At: c.at})
				}
			}
		}
	}
	// What the records are does not count.
	p, e := packer.Resume(api.Found{Head: true, H: api.Header{Seq: 3}, L: []api.Rec{{}}, At: []int{-7}}, 2, 1, 0)
	wantPack(t, "no bytes", p, e, api.Pack{H: api.Header{Seq: 3}, Zone: 2, Cap: 1})
}

func TestResumeOfWhatMayNotBe(t *testing.T) {
	f := foundOf(api.Header{Host: 1, Epoch: 2}, shortRecs()...)
	headless := f
	headless.Head = false
	for i, c := range []struct {
		f              api.Found
		zone, most, at int
	}{
		{api.Found{}, 3, 4096, 0},
		{headless, 3, 4096, f.Used},
		{f, -1, 4096, f.Used},
		{f, math.MinInt, 4096, f.Used},
		{api.Found{Head: true}, 3, 0, 0},
		{f, 3, 0, f.Used},
		{f, 3, -1, f.Used},
		{f, 3, math.MinInt, f.Used},
		{f, 3, mostCap + 1, f.Used},
		{f, 3, math.MaxInt, f.Used},
		{f, 3, 4096, f.Used - 1},
		{f, 3, 4096, 0},
		{f, 3, 4096, -1},
		{f, 3, 4096, math.MinInt},
		{f, 3, 4096, 4097},
		{f, 3, 4096, math.MaxInt},
		{f, 3, mostCap, mostCap + 1},
		{f, 3, f.Used - 1, f.Used},
		{f, 3, f.Used - 1, f.Used - 1}, // there is less room than there is already
	} {
		p, e := packer.Resume(c.f, c.zone, c.most, c.at)
		wantError(t, i, p, e, api.ErrArg)
	}
}

func TestRoom(t *testing.T) {
	for _, c := range []struct{ most, at, buf, want int }{
		{0, 0, 0, 0},
		{120, 0, 0, 120},
		{120, 50, 0, 70},
		{120, 0, 50, 70},
		{120, 30, 20, 70},
		{120, 119, 0, 1},
		{120, 100, 19, 1},
		{120, 120, 0, 0},
		{120, 100, 20, 0},
		{120, 0, 120, 0},
		{120, 121, 0, 0},
		{120, 0, 121, 0},
		{120, 100, 21, 0},
		{120, 1 << 40, 0, 0},
		{-5, 0, 0, 0},
		{math.MinInt, 0, 0, 0},
		{mostCap, 0, 0, mostCap},
		{1 << 40, 7, 3, 1<<40 - 10},
	} {
		p := api.Pack{Cap: c.most, At: c.at, Buf: text(c.buf), L: shortRecs()} // the records are in Buf already
		if got := packer.Room(p); got != c.want {
			t.Errorf("%v: got %d", c, got)
		}
	}
}

// P15.2

func TestAdd(t *testing.T) {
	for _, h := range someHeads() {
		p, _ := packer.Begin(h, 3, mostCap)
		one := p
		for _, r := range shortRecs() {
			one = wantAdded(t, r.Kind, one, r)
		}
		all := wantAdded(t, "all", p, shortRecs()...)
		if !samePack(one, all) {
			t.Errorf("one behind the other: %v, at once: %v", one, all)
		}
		wantAdded(t, "again", all, shortRecs()...)
		r, _ := packer.Resume(foundOf(h, shortRecs()...), 9, mostCap, 300)
		wantAdded(t, "resumed", r, shortRecs()...)
	}
}

func TestAddOfEach(t *testing.T) {
	p, _ := packer.Begin(api.Header{Host: 2, Epoch: 5, Seq: 1}, 3, mostCap)
	for _, r := range goodRecs() {
		wantAdded(t, len(r.Data), p, r)
		wantAdded(t, len(r.Data), p, shortRecs()[1], r, shortRecs()[0])
	}
}

func TestAddOfNone(t *testing.T) {
	p, _ := packer.Begin(api.Header{Host: 2, Epoch: 5, Seq: 1}, 3, 100)
	full := p
	full.Cap = len(p.Buf)
	for _, p := range []api.Pack{{}, p, full, {Cap: 5, At: 9}, {Cap: -1}, {H: api.Header{Host: -1}, Zone: -1, Cap: 9, At: -1, Buf: text(50), L: shortRecs()}} {
		wantAdded(t, p, p) // none is longer than no room
	}
}

func TestAddUpToTheRoom(t *testing.T) {
	l := shortRecs()
	for k := 1; k <= len(l); k++ {
		b, _ := framesOf(0, l[:k]...)
		for _, p := range []api.Pack{
			{H: api.Header{Epoch: 1}, Zone: 2},
			{H: api.Header{Epoch: 1}, Zone: 2, At: 77},
			{H: api.Header{Epoch: 1}, Zone: 2, Buf: text(55), L: l[:1]},
			{H: api.Header{Epoch: 1}, Zone: 2, At: 77, Buf: text(55), L: l[:1]},
		} {
			ahead := p.At + len(p.Buf)
			for _, more := range []int{0, 1, 100} {
				p.Cap = ahead + len(b) + more
				wantAdded(t, more, p, l[:k]...)
			}
			for room := -2; room < len(b); room++ { // all or nothing, also where some of them would go in
				p.Cap = ahead + room
				wantNotAdded(t, room, p, api.ErrFull, l[:k]...)
			}
		}
	}
}

func TestAddFillsTheGreatestZone(t *testing.T) {
	r := api.Rec{Kind: api.DataR, N: 256, Data: text(4096)}
	p, _ := packer.Begin(api.Header{}, 0, mostCap)
	for i := range 15 {
		p = wantAdded(t, i, p, r)
	}
	wantNotAdded(t, "one more", p, api.ErrFull, r)
	room := mostCap - len(p.Buf)
	last := api.Rec{Kind: api.CheckR, Data: text(room - 20)}
	for len(recFrame(last)) < room {
		last.Data = text(len(last.Data) + 1)
	}
	p = wantAdded(t, "the last one", p, last)
	if packer.Room(p) != 0 {
		t.Errorf("there is room for %d", packer.Room(p))
	}
	wantNotAdded(t, "one more", p, api.ErrFull, api.Rec{Kind: api.TrimR, N: 1})
}

// A pack that no call told is gone on with as it stands.
func TestAddToAnyPack(t *testing.T) {
	for _, p := range []api.Pack{
		{Cap: 1000},
		{Cap: 1000, Zone: -4, H: api.Header{Host: -1, Epoch: -2, Seq: -3}},
		{Cap: 1 << 40, Zone: math.MaxInt, At: 1 << 30},
		{Cap: 0, At: -1000},
		{Cap: 1000, Buf: text(3)},
		{Cap: 1000, L: []api.Rec{{Kind: -1, Data: text(3)}}},
	} {
		wantAdded(t, p, p, shortRecs()...)
	}
	for _, p := range []api.Pack{{}, {Cap: 1}, {Cap: -1000}, {Cap: 1000, At: 1000}, {Cap: 1000, At: 1 << 40}, {Cap: math.MinInt}, {Cap: math.MaxInt, At: math.MaxInt}} {
		wantNotAdded(t, p, p, api.ErrFull, shortRecs()...)
	}
}

func TestAddOfWhatMayNotBe(t *testing.T) {
	good := shortRecs()
	great := api.Rec{Kind: api.CheckR, Data: text(mostCheck)}
	p, _ := packer.Begin(api.Header{Host: 2, Epoch: 5, Seq: 1}, 3, 300)
	for _, p := range []api.Pack{p, {}, {Cap: 10, At: 10}} {
		for i, bad := range badRecs() {
			wantNotAdded(t, i, p, bad.e, bad.r)
			wantNotAdded(t, i, p, bad.e, bad.r, good[0])
			wantNotAdded(t, i, p, bad.e, good[0], bad.r)
			wantNotAdded(t, i, p, bad.e, good[0], bad.r, good[1])
			wantNotAdded(t, i, p, bad.e, great, great, bad.r) // also where there is no room for those ahead of it
			for _, other := range badRecs()[:4] {             // the first one's error
				wantNotAdded(t, i, p, bad.e, good[1], bad.r, other.r)
				wantNotAdded(t, i, p, other.e, good[1], other.r, bad.r)
			}
		}
	}
}

// P15.3

// wantFlushed wants one append of what there is.
func wantFlushed(t *testing.T, p api.Pack) api.Pack {
	t.Helper()
	c, q, is := packer.Flush(p)
	if want := (api.Cmd{Do: api.AppendC, Zone: p.Zone, Epoch: p.H.Epoch, Data: p.Buf}); !is || !sameCmd(c, want) {
		t.Errorf("got %v, %t, want %v", c, is, want)
	}
	want := p
	want.At, want.Buf, want.L = p.At+len(p.Buf), nil, nil
	wantPack(t, "Flush", q, api.OK, want)
	return want
}

// wantNothingToFlush wants no append, and the pack as it is.
func wantNothingToFlush(t *testing.T, p api.Pack) {
	t.Helper()
	c, q, is := packer.Flush(p)
	if is || !sameCmd(c, api.Cmd{}) {
		t.Errorf("got %v, %t", c, is)
	}
	wantPack(t, "Flush", q, api.OK, p)
}

func TestFlush(t *testing.T) {
	for _, h := range someHeads() {
		p, _ := packer.Begin(h, 3, 4096)
		p = wantFlushed(t, p)
		wantNothingToFlush(t, p)
		p = wantAdded(t, "behind a flush", p, shortRecs()...)
		p = wantFlushed(t, p)
		wantNothingToFlush(t, p)
		p = wantAdded(t, "behind two", p, shortRecs()[0])
		p = wantAdded(t, "behind two", p, shortRecs()[1])
		p = wantFlushed(t, p)
		wantNothingToFlush(t, p)
	}
	p, _ := packer.Resume(foundOf(api.Header{Epoch: 5}), 3, 4096, 100)
	wantNothingToFlush(t, p)
	wantFlushed(t, wantAdded(t, "resumed", p, shortRecs()...))
}

func TestFlushOfAnyPack(t *testing.T) {
	for _, p := range []api.Pack{
		{},
		{Cap: 9, At: 9},
		{Cap: -9, At: -5, Zone: -1, H: api.Header{Epoch: -1}},
		{Cap: 9, L: shortRecs()}, // its records stay, as it is the pack that was handed in
		{Cap: 9, Buf: []byte{}, L: shortRecs()},
	} {
		wantNothingToFlush(t, p)
	}
	for _, p := range []api.Pack{
		{Buf: []byte{0}},
		{Cap: 9, At: 9, Buf: text(9)}, // the zone will tell
		{Cap: math.MinInt, At: -5, Zone: -1, H: api.Header{Host: -2, Epoch: -1, Seq: -3}, Buf: text(3)},
		{Zone: math.MaxInt, H: api.Header{Epoch: math.MaxInt}, Buf: text(3), L: shortRecs()},
	} {
		wantFlushed(t, p)
	}
}

// The chapter's example.
func TestBeginAddFlush(t *testing.T) {
	h, r := api.Header{Host: 2, Epoch: 5, Seq: 1}, shortRecs()[0]
	p, _ := packer.Begin(h, 3, 120)
	p, _, _ = packer.Add(p, r)
	c, p, is := packer.Flush(p)
	want := api.Cmd{Do: api.AppendC, Zone: 3, Epoch: 5, Data: slices.Concat(headFrame(h), recFrame(r))}
	if !is || !sameCmd(c, want) {
		t.Errorf("got %v, %t, want %v", c, is, want)
	}
	wantNothingToFlush(t, p)
}
