package seg_test

import (
	"bytes"
	"encoding/binary"
	"fmt"
	"hash/crc32"
	"math"
	"slices"
	"testing"

	"quickset/api"
	"quickset/seg"
)

const tooLong = 32769 // bytes, of a checkpoint

// numbers, vector and frame are written by another hand than the program's.
func numbers(l ...int) []byte {
	var b []byte
	for _, n := range l {
		b = binary.AppendUvarint(b, uint64(n))
	}
	return b
}

func vector(x []byte) []byte { return slices.Concat(numbers(len(x)), x) }

func frame(pieces ...[]byte) []byte {
	x := slices.Concat(pieces...)
	sum := crc32.Checksum(x, crc32.MakeTable(crc32.Castagnoli))
	return binary.LittleEndian.AppendUint32(vector(x), sum)
}

func headFrame(h api.Header) []byte { return frame(numbers(0, h.Host, h.Epoch, h.Seq)) }

func recFrame(r api.Rec) []byte {
	return frame(numbers(r.Kind, r.Lba, r.N, r.Ver, r.Zone, r.Off), vector(r.Data))
}

func segment(h api.Header, l ...api.Rec) []byte {
	b := headFrame(h)
	for _, r := range l {
		b = append(b, recFrame(r)...)
	}
	return b
}

// text makes n bytes that look like no pattern, always the same ones.
func text(n int) []byte {
	b := make([]byte, n)
	s := uint32(n)*2654435761 + 12345
	for i := range b {
		s = s*1664525 + 1013904223
		b[i] = byte(s >> 24)
	}
	return b
}

func someHeads() []api.Header {
	return []api.Header{
		{},
		{Host: 1, Epoch: 300, Seq: 2},
		{Host: 7, Epoch: 127, Seq: 128},
		{Host: 1},
		{Epoch: 1},
		{Seq: 1},
		{Host: math.MaxInt, Epoch: math.MaxInt, Seq: math.MaxInt},
	}
}

// goodRecs are records that may be, of each kind, up to the edges.
func goodRecs() []api.Rec {
	l := []api.Rec{
		{Kind: api.DataR, Lba: 3, N: 2, Ver: 7, Data: text(32)},
		{Kind: api.TrimR, Lba: 5, N: 1, Ver: 8},
		{Kind: api.MapR, Lba: 1, N: 4, Ver: 9, Zone: 2, Off: 64},
		{Kind: api.CheckR, Ver: 1, Data: []byte("state")},
		{Kind: api.MoveR, Lba: 1, N: 1, Ver: 2, Zone: 3, Off: 4, Data: text(16)},

		{Kind: api.CheckR},
		{Kind: api.CheckR, Data: []byte{}},
		{Kind: api.CheckR, Data: text(1)},
		{Kind: api.CheckR, Data: text(tooLong - 2)},
		{Kind: api.CheckR, Ver: math.MaxInt, Data: text(tooLong - 1)},
		{Kind: api.TrimR, N: 1, Data: []byte{}},
		{Kind: api.TrimR, N: 257, Ver: math.MaxInt},
		{Kind: api.MapR, N: 1},
		{Kind: api.MapR, N: 257, Zone: math.MaxInt},
		{Kind: api.MapR, N: 1, Off: math.MaxInt},
		{Kind: api.MoveR, N: 1, Zone: math.MaxInt, Off: math.MaxInt, Ver: math.MaxInt, Data: text(16)},
		{Kind: api.MoveR, N: 1, Off: 1, Data: text(16)},
	}
	for _, kind := range []int{api.TrimR, api.MapR} {
		l = append(l,
			api.Rec{Kind: kind, Lba: 1<<40 - 1, N: 1},
			api.Rec{Kind: kind, Lba: 1, N: 1<<40 - 1},
			api.Rec{Kind: kind, N: 1 << 40},
		)
	}
	for _, kind := range []int{api.DataR, api.MoveR} {
		for _, n := range []int{1, 2, 7, 8, 255, 256} {
			l = append(l, api.Rec{Kind: kind, N: n, Data: text(16 * n)}, api.Rec{Kind: kind, Lba: 1<<40 - n, N: n, Data: text(16 * n)})
		}
	}
	return l
}

// shortRecs are a few, one of each kind.
func shortRecs() []api.Rec { return goodRecs()[:5] }

// badRec is a record that may not be, and why.
type badRec struct {
	r api.Rec
	e api.Errno
}

func badRecs() []badRec {
	l := []badRec{
		{api.Rec{Kind: api.CheckR, Data: text(tooLong)}, api.ErrLong},
		{api.Rec{Kind: api.CheckR, Ver: 5, Data: text(1 << 20)}, api.ErrLong},
	}
	bad := func(r api.Rec) { l = append(l, badRec{r, api.ErrArg}) }

	bad(api.Rec{})
	for _, kind := range []int{math.MinInt, -1, 0, 6, 7, 257, math.MaxInt} {
		bad(api.Rec{Kind: kind})
		bad(api.Rec{Kind: kind, N: 1})
		bad(api.Rec{Kind: kind, N: 1, Data: text(16)})
		bad(api.Rec{Kind: kind, Data: text(tooLong)})
	}
	for _, r := range shortRecs() {
		for _, n := range []int{-1, -128, math.MinInt} {
			for _, x := range withNumber(r, n) {
				bad(x)
			}
		}
	}
	for _, n := range []int{1, 64, math.MaxInt} {
		for _, r := range []api.Rec{
			{Kind: api.DataR, N: 1, Data: text(16)}, {Kind: api.TrimR, N: 1}, {Kind: api.CheckR}, {Kind: api.CheckR, Data: text(16)},
		} {
			zone, off, both := r, r, r
			zone.Zone, off.Off, both.Zone, both.Off = n, n, n, n
			bad(zone)
			bad(off)
			bad(both)
		}
		bad(api.Rec{Kind: api.CheckR, Lba: n})
		bad(api.Rec{Kind: api.CheckR, N: n})
		bad(api.Rec{Kind: api.CheckR, N: n, Data: text(16)})
	}
	// of a checkpoint that is too long, and has another fault, too
	for _, r := range []api.Rec{{Lba: 1}, {N: 1}, {Ver: -1}, {Zone: 1}, {Off: 1}, {Off: -1}} {
		r.Kind, r.Data = api.CheckR, text(tooLong)
		bad(r)
	}
	for _, r := range badBlocks() {
		bad(r)
	}
	return l
}

// withNumber is r with each of its numbers but Kind turned to n.
func withNumber(r api.Rec, n int) []api.Rec {
	l := []api.Rec{r, r, r, r, r}
	l[0].Lba, l[1].N, l[2].Ver, l[3].Zone, l[4].Off = n, n, n, n, n
	return l
}

// badBlocks are records whose blocks may not be: too few, too many, beyond the volume's end, or with other bytes than theirs.
func badBlocks() []api.Rec {
	var l []api.Rec
	for _, kind := range []int{api.TrimR, api.MapR} {
		l = append(l,
			api.Rec{Kind: kind},
			api.Rec{Kind: kind, Lba: 7},
			api.Rec{Kind: kind, Lba: 1 << 40, N: 1},
			api.Rec{Kind: kind, Lba: 1<<40 - 1, N: 2},
			api.Rec{Kind: kind, Lba: 1, N: 1 << 40},
			api.Rec{Kind: kind, N: 1<<40 + 1},
			api.Rec{Kind: kind, N: math.MaxInt},
			api.Rec{Kind: kind, Lba: math.MaxInt, N: 1},
			api.Rec{Kind: kind, Lba: math.MaxInt, N: math.MaxInt},
			api.Rec{Kind: kind, N: 1, Data: []byte{1}},
			api.Rec{Kind: kind, N: 1, Data: text(16)},
			api.Rec{Kind: kind, N: 1, Data: text(tooLong)},
		)
	}
	for _, kind := range []int{api.DataR, api.MoveR} {
		l = append(l,
			api.Rec{Kind: kind},
			api.Rec{Kind: kind, Data: text(16)},
			api.Rec{Kind: kind, N: 1},
			api.Rec{Kind: kind, N: 257, Data: text(16 * 257)},
			api.Rec{Kind: kind, N: 2048, Data: text(32768)},
			api.Rec{Kind: kind, N: 2049, Data: text(16 * 2049)},
			api.Rec{Kind: kind, N: math.MaxInt, Data: text(16)},
			api.Rec{Kind: kind, N: 1 << 60},                   // 16 times as many go round to 0
			api.Rec{Kind: kind, N: 1<<60 + 1, Data: text(16)}, // and these to 16
			api.Rec{Kind: kind, Lba: 1 << 40, N: 1, Data: text(16)},
			api.Rec{Kind: kind, Lba: 1<<40 - 1, N: 2, Data: text(32)},
			api.Rec{Kind: kind, Lba: 1<<40 - 255, N: 256, Data: text(16 * 256)},
			api.Rec{Kind: kind, Lba: math.MaxInt, N: 1, Data: text(16)},
			api.Rec{Kind: kind, Lba: math.MaxInt - 1, N: 256, Data: text(16 * 256)},
		)
		for _, n := range []int{1, 2, 255, 256} {
			for _, size := range []int{0, 1, n, 16*n - 16, 16*n - 1, 16*n + 1, 16*n + 16, tooLong} {
				l = append(l, api.Rec{Kind: kind, N: n, Data: text(size)})
			}
		}
	}
	return l
}

func TestHead(t *testing.T) {
	for _, h := range someHeads() {
		if b, e := seg.Head(h); !bytes.Equal(b, headFrame(h)) || e != api.OK {
			t.Errorf("%v: got %v, %d, want %v", h, b, e, headFrame(h))
		}
	}
	b, _ := seg.Head(api.Header{Host: 1, Epoch: 300, Seq: 2})
	if !bytes.Equal(b[:6], []byte{5, 0, 1, 172, 2, 2}) || len(b) != 10 {
		t.Errorf("got %v", b)
	}
	for _, n := range []int{-1, -300, math.MinInt} {
		for _, h := range []api.Header{{Host: n}, {Epoch: n}, {Seq: n}, {Host: n, Epoch: n, Seq: n}, {Host: 1, Epoch: 2, Seq: n}} {
			if b, e := seg.Head(h); len(b) != 0 || e != api.ErrArg {
				t.Errorf("%v: got %v, %d", h, b, e)
			}
		}
	}
}

func TestCheck(t *testing.T) {
	for i, r := range goodRecs() {
		if e := seg.Check(r); e != api.OK {
			t.Errorf("good record %d, %s: got %d", i, name(r), e)
		}
	}
	for i, x := range badRecs() {
		if e := seg.Check(x.r); e != x.e {
			t.Errorf("bad record %d, %s: got %d, want %d", i, name(x.r), e, x.e)
		}
	}
}

// name tells a record without all of its bytes.
func name(r api.Rec) string {
	size := len(r.Data)
	r.Data = nil
	return fmt.Sprintf("%+v with %d bytes", r, size)
}

func TestRec(t *testing.T) {
	for i, r := range goodRecs() {
		if b, e := seg.Rec(r); !bytes.Equal(b, recFrame(r)) || e != api.OK {
			t.Errorf("good record %d: got %d bytes, %d, want %d bytes", i, len(b), e, len(recFrame(r)))
		}
	}
	for i, x := range badRecs() {
		if b, e := seg.Rec(x.r); len(b) != 0 || e != x.e {
			t.Errorf("bad record %d: got %d bytes, %d, want error %d", i, len(b), e, x.e)
		}
	}
	b, _ := seg.Rec(api.Rec{Kind: api.MapR, Lba: 300, N: 4, Ver: 9, Zone: 2, Off: 64})
	if !bytes.Equal(b[:9], []byte{8, 3, 172, 2, 4, 9, 2, 64, 0}) || len(b) != 13 {
		t.Errorf("got %v", b)
	}
}

func TestSeg(t *testing.T) {
	for i, h := range someHeads() {
		for n := range goodRecs() {
			l := goodRecs()[:n]
			if b, e := seg.Seg(h, l...); !bytes.Equal(b, segment(h, l...)) || e != api.OK {
				t.Errorf("header %d, %d records: got %d bytes, %d", i, n, len(b), e)
			}
		}
	}
	twice := shortRecs()[0]
	if b, e := seg.Seg(api.Header{}, twice, twice); !bytes.Equal(b, segment(api.Header{}, twice, twice)) || e != api.OK {
		t.Errorf("one record twice: got %v, %d", b, e)
	}
}

func TestSegFirstError(t *testing.T) {
	good := shortRecs()[0]
	arg := api.Rec{Kind: api.TrimR}
	long := api.Rec{Kind: api.CheckR, Data: text(tooLong)}
	for i, x := range []struct {
		h api.Header
		l []api.Rec
		e api.Errno
	}{
		{api.Header{Host: -1}, nil, api.ErrArg},
		{api.Header{Epoch: -1}, []api.Rec{good}, api.ErrArg},
		{api.Header{Seq: -1}, []api.Rec{long}, api.ErrArg},
		{api.Header{}, []api.Rec{arg}, api.ErrArg},
		{api.Header{}, []api.Rec{long}, api.ErrLong},
		{api.Header{}, []api.Rec{good, good, arg}, api.ErrArg},
		{api.Header{}, []api.Rec{good, long, good}, api.ErrLong},
		{api.Header{}, []api.Rec{arg, long}, api.ErrArg},
		{api.Header{}, []api.Rec{long, arg}, api.ErrLong},
		{api.Header{}, []api.Rec{good, arg, good, long}, api.ErrArg},
		{api.Header{}, []api.Rec{good, long, good, arg}, api.ErrLong},
	} {
		if b, e := seg.Seg(x.h, x.l...); len(b) != 0 || e != x.e {
			t.Errorf("%d: got %d bytes, %d, want error %d", i, len(b), e, x.e)
		}
	}
}

func TestSameness(t *testing.T) {
	all := goodRecs()
	for _, x := range badRecs() {
		all = append(all, x.r)
	}
	for i, r := range all {
		again := r
		again.Data = slices.Clone(r.Data)
		if !seg.Sameness(r, r) || !seg.Sameness(r, again) {
			t.Errorf("record %d is not the same as itself", i)
		}
		others := []api.Rec{r, r, r, r, r, r, r, r, r}
		others[0].Kind++
		others[1].Lba++
		others[2].N++
		others[3].Ver++
		others[4].Zone++
		others[5].Off++
		others[6].Data = append(slices.Clone(r.Data), 0)
		others[7].Lba, others[7].N = r.Lba+1, r.N-1
		others[8].Zone, others[8].Off = r.Zone-1, r.Off+1
		if n := len(r.Data); n > 0 {
			first, last, cut := r, r, r
			first.Data, last.Data, cut.Data = slices.Clone(r.Data), slices.Clone(r.Data), r.Data[:n-1]
			first.Data[0]++
			last.Data[n-1]++
			others = append(others, first, last, cut)
		}
		for j, o := range others {
			if seg.Sameness(r, o) || seg.Sameness(o, r) {
				t.Errorf("record %d is the same as another, %d", i, j)
			}
		}
	}
	if !seg.Sameness(api.Rec{}, api.Rec{Data: []byte{}}) || !seg.Sameness(api.Rec{Data: []byte{}}, api.Rec{}) {
		t.Error("no bytes, nil or empty, are not the same")
	}
}

// places are where the frames of l begin, behind h's.
func places(h api.Header, l []api.Rec) []int {
	var at []int
	for i := range l {
		at = append(at, len(segment(h, l[:i]...)))
	}
	return at
}

// wantFound looks whether just h and l are found in b.
func wantFound(t *testing.T, b []byte, h api.Header, l []api.Rec) {
	t.Helper()
	f := seg.Scan(b)
	if !f.Head || f.H != h || f.Used != len(segment(h, l...)) || !slices.Equal(f.At, places(h, l)) {
		t.Errorf("got %v, %v, used %d, at %v; want %v, used %d, at %v", f.Head, f.H, f.Used, f.At, h, len(segment(h, l...)), places(h, l))
	}
	if !slices.EqualFunc(f.L, l, seg.Sameness) {
		t.Errorf("got %d records, want %d", len(f.L), len(l))
	}
}

func wantNothing(t *testing.T, b []byte) {
	t.Helper()
	if f := seg.Scan(b); f.Head || f.H != (api.Header{}) || len(f.L) != 0 || len(f.At) != 0 || f.Used != 0 {
		t.Errorf("%d bytes: got %v, %v, %d records, at %v, used %d", len(b), f.Head, f.H, len(f.L), f.At, f.Used)
	}
}

// noFrames are bytes that are no record's frame.
func noFrames() [][]byte {
	turned := recFrame(shortRecs()[0])
	turned[3] ^= 1
	return [][]byte{
		nil, {}, {0}, {0, 0, 0, 0}, {0, 0, 0, 0, 0}, make([]byte, 100), {128}, {128, 0}, {255, 255, 255}, bytes.Repeat([]byte{255}, 100),
		text(40), text(70000), turned, turned[:len(turned)-1], headFrame(api.Header{}), numbers(api.MaxData + 1), numbers(math.MaxInt),
	}
}

func TestScan(t *testing.T) {
	for _, h := range someHeads() {
		for n := range len(goodRecs()) + 1 {
			l := goodRecs()[:n]
			b, e := seg.Seg(h, l...)
			if e != api.OK {
				t.Fatalf("got %d", e)
			}
			wantFound(t, b, h, l)
		}
	}
	many := slices.Repeat(shortRecs(), 500)
	b, _ := seg.Seg(api.Header{Seq: 1}, many...)
	f := seg.Scan(b)
	if len(f.L) != len(many) || len(f.At) != len(many) || f.Used != len(b) {
		t.Errorf("got %d records, %d places, used %d", len(f.L), len(f.At), f.Used)
	}
}

func TestScanTails(t *testing.T) {
	h := api.Header{Host: 1, Epoch: 2, Seq: 3}
	for n := range len(shortRecs()) + 1 {
		l := shortRecs()[:n]
		b, _ := seg.Seg(h, l...)
		for _, tail := range noFrames() {
			wantFound(t, slices.Concat(b, tail), h, l)
			if n < len(shortRecs()) { // a frame behind what is none is not found
				wantFound(t, slices.Concat(b, tail[:min(len(tail), 50)], []byte{0, 0, 0, 0, 0}, recFrame(shortRecs()[n])), h, l)
			}
		}
	}
}

func TestScanNoHeader(t *testing.T) {
	for _, b := range noFrames() {
		if !bytes.Equal(b, headFrame(api.Header{})) {
			wantNothing(t, b)
		}
	}
	for _, r := range goodRecs() {
		wantNothing(t, recFrame(r))
		wantNothing(t, slices.Concat(recFrame(r), segment(api.Header{}, r)))
	}
	head := headFrame(api.Header{Host: 1, Epoch: 2, Seq: 3})
	for i := range head {
		wantNothing(t, head[:i])
		wantNothing(t, head[i+1:])
	}
	wantNothing(t, slices.Concat([]byte{0}, head))
	for i, b := range [][]byte{
		frame(),
		frame(numbers(0)),
		frame(numbers(0, 1, 2)),
		frame(numbers(0, 1, 2, 3, 4)),
		frame(numbers(0, 1, 2, 3), []byte{128}),
		frame(numbers(1, 1, 2, 3)),
		frame(numbers(math.MaxInt, 1, 2, 3)),
		frame([]byte{128, 0}, numbers(1, 2, 3)),
		frame(numbers(0, 1, 2), []byte{131, 0}),
		frame(numbers(0, 1, 2), []byte{131}),
		frame(numbers(0, 1, 2), bytes.Repeat([]byte{255}, 9), []byte{1}), // beyond 63 bits
		frame(numbers(0, 1, 2), bytes.Repeat([]byte{255}, 9), []byte{2}), // beyond 64
	} {
		if f := seg.Scan(slices.Concat(b, recFrame(shortRecs()[0]))); f.Head || len(f.L) != 0 || f.Used != 0 {
			t.Errorf("%d: got %v", i, f)
		}
	}
}

// Frames whose sum is right, but which are no records' that may be, end what is found.
func TestScanNoRecord(t *testing.T) {
	h, good := api.Header{Host: 1, Epoch: 2, Seq: 3}, shortRecs()[0]
	trim := numbers(api.TrimR, 5, 1, 8, 0, 0)
	bad := [][]byte{
		frame(),
		frame(numbers(api.TrimR)),
		frame(trim),
		frame(trim, []byte{0, 0}),
		frame(trim, vector(nil), vector(nil)),
		frame(trim, []byte{128, 0}),
		frame(trim, []byte{1}),
		frame(trim, numbers(api.MaxData+1)),
		frame([]byte{130, 0}, trim[1:], []byte{0}),
		frame(numbers(api.TrimR, 5, 1, 8, 0), []byte{128, 0, 0}),
		frame(numbers(api.TrimR, 5, 1), bytes.Repeat([]byte{255}, 9), []byte{1, 0, 0, 0}),
		headFrame(h),
		headFrame(api.Header{}),
	}
	for _, x := range badRecs() {
		n := []int{x.r.Kind, x.r.Lba, x.r.N, x.r.Ver, x.r.Zone, x.r.Off}
		if slices.Min(n) >= 0 && len(x.r.Data) < api.MaxData-100 {
			bad = append(bad, recFrame(x.r))
		}
	}
	for _, x := range bad {
		wantFound(t, slices.Concat(segment(h), x), h, nil)
		wantFound(t, slices.Concat(segment(h, good), x, recFrame(good)), h, []api.Rec{good})
	}
}

func TestScanCut(t *testing.T) {
	h, l := api.Header{Host: 1, Epoch: 300, Seq: 2}, shortRecs()
	b, _ := seg.Seg(h, l...)
	head := len(headFrame(h))
	at := append(places(h, l), len(b))
	for cut := range len(b) + 1 {
		if cut < head {
			wantNothing(t, b[:cut])
			continue
		}
		k := 0
		for k < len(l) && at[k+1] <= cut {
			k++
		}
		wantFound(t, b[:cut], h, l[:k])
		wantFound(t, slices.Concat(b[:cut], bytes.Repeat([]byte{255}, 4)), h, l[:k])
	}
	alone, _ := seg.Head(h)
	wantFound(t, alone, h, nil)
	wantNothing(t, alone[:len(alone)-1])
}

func TestScanTurned(t *testing.T) {
	h, l := api.Header{Host: 1, Epoch: 300, Seq: 2}, shortRecs()
	b, _ := seg.Seg(h, l...)
	at := append(places(h, l), len(b))
	k := -1 // -1: the header's frame
	for i := range b {
		if i == at[k+1] {
			k++
		}
		for x := 1; x < 256; x++ {
			b[i] ^= byte(x)
			if f := seg.Scan(b); k < 0 && (f.Head || f.Used != 0) || k >= 0 && (len(f.L) != k || f.Used != at[k] || f.H != h) {
				t.Errorf("byte %d turned by %d: got %v, %d records, used %d", i, x, f.Head, len(f.L), f.Used)
			}
			b[i] ^= byte(x)
		}
	}
	wantFound(t, b, h, l)
}

// Whatever the bytes are, a scan ends, and what it finds is written as what it used.
func TestScanAny(t *testing.T) {
	whole := segment(api.Header{Host: 1, Epoch: 2, Seq: 3}, shortRecs()...)
	found := 0
	for n := range 5000 {
		b := slices.Clone(whole)
		noise := text(n + 8)
		for i := range n % 3 {
			b[(int(noise[i])<<8|int(noise[i+3]))%len(b)] = noise[i+5]
		}
		if n%5 == 0 {
			b = noise
		}
		f := seg.Scan(b)
		if !f.Head {
			wantNothing(t, b)
			continue
		}
		found += len(f.L)
		if again, e := seg.Seg(f.H, f.L...); !bytes.Equal(again, b[:f.Used]) || e != api.OK {
			t.Errorf("%d: what was found is written as %d bytes, %d, not as %d", n, len(again), e, f.Used)
		}
	}
	if found < 5000 {
		t.Errorf("only %d records were found", found)
	}
}

func fill(b []byte) {
	for i := range b {
		b[i] = 99
	}
}

// What was handed in is neither changed nor kept.
func TestArgumentsStay(t *testing.T) {
	h, l := api.Header{Seq: 1}, shortRecs()
	want := segment(h, l...)
	b, _ := seg.Seg(h, l...)
	one, _ := seg.Rec(l[0])
	if !slices.EqualFunc(l, shortRecs(), seg.Sameness) {
		t.Error("records that were handed in were changed")
	}
	for _, r := range l {
		fill(r.Data)
	}
	clear(l)
	if !bytes.Equal(b, want) || !bytes.Equal(one, recFrame(shortRecs()[0])) {
		t.Error("frames follow what is written into the records")
	}
	f := seg.Scan(b)
	if !bytes.Equal(b, want) {
		t.Error("bytes that were handed in were changed")
	}
	fill(b)
	if !slices.EqualFunc(f.L, shortRecs(), seg.Sameness) {
		t.Error("records follow what is written into the bytes")
	}
}

// What is answered is the caller's own: to write into it, and behind it, changes nothing else.
func TestAnswersAreOwn(t *testing.T) {
	h := api.Header{Seq: 1}
	b := segment(h, shortRecs()...)
	one, two := seg.Scan(b), seg.Scan(b)
	for i, r := range one.L {
		fill(r.Data)
		_ = append(r.Data, "more"...)
		one.At[i] = -1
	}
	clear(one.L)
	_ = append(one.L, api.Rec{Kind: 9})
	_ = append(one.At, 9)
	if !slices.EqualFunc(two.L, shortRecs(), seg.Sameness) || !slices.Equal(two.At, places(h, shortRecs())) {
		t.Error("two answers are one memory")
	}
	if !bytes.Equal(b, segment(h, shortRecs()...)) {
		t.Error("an answer and the bytes are one memory")
	}
	for i, call := range []func() []byte{
		func() []byte { b, _ := seg.Head(h); return b },
		func() []byte { b, _ := seg.Rec(shortRecs()[0]); return b },
		func() []byte { b, _ := seg.Seg(h, shortRecs()...); return b },
	} {
		first := call()
		want := slices.Clone(first)
		fill(first[:cap(first)])
		if !bytes.Equal(call(), want) {
			t.Errorf("%d: two answers are one memory", i)
		}
	}
}
