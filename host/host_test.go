package host_test

import (
	"bytes"
	"math"
	"slices"
	"testing"

	"quickset/api"
	"quickset/host"
	"quickset/replay"
)

// P17.1

func TestNew(t *testing.T) {
	d := fenced(t, 100, 1, 1, 5, 0)
	for id := range mostHosts {
		h, e := host.New(id, d)
		wantHost(t, id, h, e, api.Host{Id: id, Ver: 1})
	}
	b, at := framesOf(len(headFrame(api.Header{})), data(0, 4, 10), trimRec(2, 1, 12), check(40), trimRec(9, 1, 3))
	d = device(nil, slices.Concat(headFrame(api.Header{}), b), segment(api.Header{Host: 3, Epoch: 4, Seq: 5}, place(20, 2, 7, 9, 3)))
	h, e := host.New(3, d)
	wantHost(t, "of others' records", h, e, api.Host{Id: 3, Ver: 41, M: []api.Ext{
		{Lba: 0, N: 2, Ver: 10, Zone: 1, Off: at[0]},
		{Lba: 2, N: 1, Ver: 12, Zone: -1},
		{Lba: 3, N: 1, Ver: 10, Zone: 1, Off: at[0] + 48},
		{Lba: 9, N: 1, Ver: 3, Zone: -1},
		{Lba: 20, N: 2, Ver: 7, Zone: 9, Off: 3},
	}})
	d = device(segment(api.Header{}, data(0, 1, 0)))
	h, e = host.New(0, d)
	wantHost(t, "of the version 0", h, e, api.Host{Ver: 1, M: []api.Ext{{N: 1, Off: len(headFrame(api.Header{})) + placeOf(data(0, 1, 0))}}})
}

func TestNewErrors(t *testing.T) {
	good := device(nil, segment(api.Header{}, data(0, 1, 5)))
	for _, id := range []int{-1, mostHosts, mostHosts + 1, math.MinInt, math.MaxInt} {
		h, e := host.New(id, good)
		wantNoHost(t, id, h, e, api.ErrArg)
	}
	for i, d := range wrongDevices() {
		h, e := host.New(3, d)
		wantNoHost(t, i, h, e, api.ErrArg)
	}
	h, e := host.New(3, device(segment(api.Header{}, place(0, 1, 1, 1<<40+1, 0)))) // no map may have it
	wantNoHost(t, "replay.Map's error", h, e, api.ErrArg)
	tooMany := device(apart(0, 4000), apart(4000, 8000), apart(8000, mostExts+1))
	h, e = host.New(3, tooMany)
	wantNoHost(t, "too many extents", h, e, api.ErrLong)
	h, e = host.New(mostHosts, tooMany) // the number is looked at first
	wantNoHost(t, "both", h, e, api.ErrArg)
}

// apart is a segment of trimmed blocks, none beside another.
func apart(from, to int) []byte {
	var l []api.Rec
	for i := from; i < to; i++ {
		l = append(l, trimRec(2*i, 1, 1))
	}
	return segment(api.Header{}, l...)
}

func TestGain(t *testing.T) {
	h := api.Host{Id: 4, Ver: 7, Seq: 2, M: []api.Ext{{N: 1, Ver: 3, Zone: -1}}, S: []api.Span{{From: 1, To: 5, Owner: 4, Epoch: 2}}}
	want := h
	for i, c := range []struct {
		zone, epoch int
		own         []api.Fence
	}{
		{5, 9, []api.Fence{{Zone: 5, Host: 4, Epoch: 9}}},
		{0, 1, []api.Fence{{Zone: 0, Host: 4, Epoch: 1}, {Zone: 5, Host: 4, Epoch: 9}}},
		{3, 2, []api.Fence{{Zone: 0, Host: 4, Epoch: 1}, {Zone: 3, Host: 4, Epoch: 2}, {Zone: 5, Host: 4, Epoch: 9}}},
		{3, 7, []api.Fence{{Zone: 0, Host: 4, Epoch: 1}, {Zone: 3, Host: 4, Epoch: 7}, {Zone: 5, Host: 4, Epoch: 9}}},
		{5, 1, []api.Fence{{Zone: 0, Host: 4, Epoch: 1}, {Zone: 3, Host: 4, Epoch: 7}, {Zone: 5, Host: 4, Epoch: 1}}}, // also a lesser one
		{0, 1, []api.Fence{{Zone: 0, Host: 4, Epoch: 1}, {Zone: 3, Host: 4, Epoch: 7}, {Zone: 5, Host: 4, Epoch: 1}}},
		{math.MaxInt, math.MaxInt, []api.Fence{{Zone: 0, Host: 4, Epoch: 1}, {Zone: 3, Host: 4, Epoch: 7}, {Zone: 5, Host: 4, Epoch: 1}, {Zone: math.MaxInt, Host: 4, Epoch: math.MaxInt}}},
	} {
		var e api.Errno
		h, e = host.Gain(h, c.zone, c.epoch)
		want.Own = c.own
		wantHost(t, i, h, e, want)
	}
	for _, zone := range []int{-1, -2, math.MinInt} {
		x, e := host.Gain(h, zone, 1)
		wantNoHost(t, zone, x, e, api.ErrArg)
	}
	for _, epoch := range []int{0, -1, math.MinInt} {
		x, e := host.Gain(h, 0, epoch)
		wantNoHost(t, epoch, x, e, api.ErrArg)
	}
}

// A segment goes on till its own zone is gained again.
func TestGainOfTheSegmentsZone(t *testing.T) {
	d := fenced(t, 500, 2, 3, 4, 5, 6)
	h := owner(t, 1, d, 0, 1)
	d, h = commit(t, d, h, write(3, 1, 1))
	if !h.Open || h.P.Zone != 0 {
		t.Fatalf("got %v", h)
	}
	for _, zone := range []int{1, 2, 3} {
		if x := gained(t, h, zone, 9); !x.Open || !samePack(x.P, h.P) {
			t.Errorf("%d: got %v", zone, x)
		}
	}
	for _, epoch := range []int{3, 4, 9} { // also under the epoch that it has already
		want := h
		want.Open, want.P = false, api.Pack{}
		want.Own = []api.Fence{{Zone: 0, Host: 1, Epoch: epoch}, {Zone: 1, Host: 1, Epoch: 5}}
		x, e := host.Gain(h, 0, epoch)
		wantHost(t, epoch, x, e, want)
	}
	x := gained(t, h, 0, 4)
	d, x = commit(t, d, x, write(4, 1, 2))
	if x.P.Zone != 1 || x.Seq != 2 || d.Z[0].State != api.Implicit { // what is not open is not finished
		t.Errorf("got %v, and zone 0 %v", x, d.Z[0])
	}
	// None is open: the zone of none is none's.
	y := gained(t, owner(t, 1, d), 0, 4)
	if y.Open || len(y.Own) != 1 {
		t.Errorf("got %v", y)
	}
}

func TestBlocks(t *testing.T) {
	h := api.Host{Id: 2, Ver: 7, Seq: 2, M: []api.Ext{{N: 1, Ver: 3, Zone: -1}}, Own: []api.Fence{{Zone: 1, Host: 2, Epoch: 9}}}
	want := h
	for i, c := range []struct {
		from, to, epoch int
		s               []api.Span
	}{
		{10, 50, 3, []api.Span{{From: 10, To: 50, Owner: 2, Epoch: 3}}},
		{20, 30, 4, []api.Span{{From: 10, To: 20, Owner: 2, Epoch: 3}, {From: 20, To: 30, Owner: 2, Epoch: 4}, {From: 30, To: 50, Owner: 2, Epoch: 3}}},
		{0, 1, 1, []api.Span{{From: 0, To: 1, Owner: 2, Epoch: 1}, {From: 10, To: 20, Owner: 2, Epoch: 3}, {From: 20, To: 30, Owner: 2, Epoch: 4}, {From: 30, To: 50, Owner: 2, Epoch: 3}}},
		{15, 40, 2, []api.Span{{From: 0, To: 1, Owner: 2, Epoch: 1}, {From: 10, To: 15, Owner: 2, Epoch: 3}, {From: 15, To: 40, Owner: 2, Epoch: 2}, {From: 40, To: 50, Owner: 2, Epoch: 3}}},
		{10, 15, 8, []api.Span{{From: 0, To: 1, Owner: 2, Epoch: 1}, {From: 10, To: 15, Owner: 2, Epoch: 8}, {From: 15, To: 40, Owner: 2, Epoch: 2}, {From: 40, To: 50, Owner: 2, Epoch: 3}}},
		{50, 60, 3, []api.Span{{From: 0, To: 1, Owner: 2, Epoch: 1}, {From: 10, To: 15, Owner: 2, Epoch: 8}, {From: 15, To: 40, Owner: 2, Epoch: 2}, {From: 40, To: 50, Owner: 2, Epoch: 3}, {From: 50, To: 60, Owner: 2, Epoch: 3}}}, // not joined
		{1, 10, 1, []api.Span{{From: 0, To: 1, Owner: 2, Epoch: 1}, {From: 1, To: 10, Owner: 2, Epoch: 1}, {From: 10, To: 15, Owner: 2, Epoch: 8}, {From: 15, To: 40, Owner: 2, Epoch: 2}, {From: 40, To: 50, Owner: 2, Epoch: 3}, {From: 50, To: 60, Owner: 2, Epoch: 3}}},
		{5, mostLba, math.MaxInt, []api.Span{{From: 0, To: 1, Owner: 2, Epoch: 1}, {From: 1, To: 5, Owner: 2, Epoch: 1}, {From: 5, To: mostLba, Owner: 2, Epoch: math.MaxInt}}},
		{0, mostLba, 1, []api.Span{{From: 0, To: mostLba, Owner: 2, Epoch: 1}}},
		{mostLba - 1, mostLba, 1, []api.Span{{From: 0, To: mostLba - 1, Owner: 2, Epoch: 1}, {From: mostLba - 1, To: mostLba, Owner: 2, Epoch: 1}}},
	} {
		var e api.Errno
		h, e = host.Blocks(h, c.from, c.to, c.epoch)
		want.S = c.s
		wantHost(t, i, h, e, want)
	}
}

func TestBlocksErrors(t *testing.T) {
	h := api.Host{Id: 2, S: []api.Span{{From: 1, To: 5, Owner: 2, Epoch: 2}}}
	for _, c := range []struct{ from, to, epoch int }{
		{-1, 5, 1}, {math.MinInt, 5, 1}, {5, 5, 1}, {5, 4, 1}, {0, 0, 1}, {5, math.MinInt, 1}, {0, mostLba + 1, 1}, {0, math.MaxInt, 1},
		{mostLba, mostLba + 1, 1}, {mostLba, mostLba, 1}, {5, 6, 0}, {5, 6, -1}, {5, 6, math.MinInt},
	} {
		x, e := host.Blocks(h, c.from, c.to, c.epoch)
		wantNoHost(t, c, x, e, api.ErrArg)
	}
}

func TestLose(t *testing.T) {
	h := api.Host{Id: 2, Ver: 7, Seq: 2, Open: true, P: api.Pack{Zone: 1, Cap: 90, At: 20}, M: []api.Ext{{Lba: 12, N: 1, Ver: 3, Zone: -1}}, Own: []api.Fence{{Zone: 1, Host: 2, Epoch: 9}}}
	h.S = []api.Span{{From: 10, To: 20, Owner: 2, Epoch: 3}, {From: 20, To: 30, Owner: 2, Epoch: 4}, {From: 40, To: 50, Owner: 2, Epoch: 3}}
	a, b, c := h.S[0], h.S[1], h.S[2]
	for _, x := range []struct {
		from, to int
		s        []api.Span
	}{
		{0, 10, []api.Span{a, b, c}}, {30, 40, []api.Span{a, b, c}}, {50, 60, []api.Span{a, b, c}},
		{10, 20, []api.Span{b, c}}, {20, 30, []api.Span{a, c}}, {40, 50, []api.Span{a, b}}, {10, 30, []api.Span{c}}, {20, 50, []api.Span{a}}, {0, 60, nil},
		{15, 45, []api.Span{{From: 10, To: 15, Owner: 2, Epoch: 3}, {From: 45, To: 50, Owner: 2, Epoch: 3}}},
		{12, 13, []api.Span{{From: 10, To: 12, Owner: 2, Epoch: 3}, {From: 13, To: 20, Owner: 2, Epoch: 3}, b, c}},
		{math.MinInt, math.MaxInt, nil}, {math.MinInt, 11, []api.Span{{From: 11, To: 20, Owner: 2, Epoch: 3}, b, c}}, {49, math.MaxInt, []api.Span{a, b, {From: 40, To: 49, Owner: 2, Epoch: 3}}},
		{15, 15, []api.Span{a, b, c}}, {25, 15, []api.Span{a, b, c}}, {math.MaxInt, math.MinInt, []api.Span{a, b, c}}, // no blocks
	} {
		want := h
		want.S = x.s
		wantHost(t, x, host.Lose(h, x.from, x.to), api.OK, want) // all else stays, also what the map has of them
	}
}

func TestMine(t *testing.T) {
	h := api.Host{S: []api.Span{{From: 10, To: 20, Epoch: 3}, {From: 20, To: 30, Epoch: 4}, {From: 40, To: 41, Epoch: 3}, {From: mostLba - 1, To: mostLba, Epoch: 1}}}
	has := func(lba int) bool { return 10 <= lba && lba < 30 || lba == 40 }
	for lba := -3; lba < 45; lba++ {
		all := true
		for n := 1; n < 50; n++ {
			all = all && has(lba+n-1)
			if got := host.Mine(h, lba, n); got != all {
				t.Errorf("%d, %d: got %t", lba, n, got)
			}
		}
		for _, n := range []int{0, -1, math.MinInt, math.MaxInt, mostLba} {
			if host.Mine(h, lba, n) || host.Mine(api.Host{}, lba, n) {
				t.Errorf("%d, %d are its", lba, n)
			}
		}
	}
	if !host.Mine(h, mostLba-1, 1) || host.Mine(h, mostLba-1, 2) || host.Mine(h, mostLba, 1) || host.Mine(h, math.MaxInt, math.MaxInt) || host.Mine(h, math.MinInt, 1) {
		t.Error("the last block")
	}
	if host.Mine(api.Host{}, 0, 1) {
		t.Error("no blocks")
	}
}

// A model of Blocks and Lose goes block by block, each of which has what gave it.
type given struct{ call, epoch int }

const givenBlocks = 6

func spansOf(id int, l []given) []api.Span {
	var out []api.Span
	for lba, g := range l {
		switch {
		case g.call == 0:
		case lba > 0 && l[lba-1] == g:
			out[len(out)-1].To++
		default:
			out = append(out, api.Span{From: lba, To: lba + 1, Owner: id, Epoch: g.epoch})
		}
	}
	return out
}

func TestAllShortWaysOfBlocks(t *testing.T) {
	var walk func(h api.Host, l [givenBlocks]given, call int)
	walk = func(h api.Host, l [givenBlocks]given, call int) {
		wantHost(t, l, h, api.OK, api.Host{Id: 5, S: spansOf(5, l[:])})
		for from := range givenBlocks {
			for to := from + 1; to <= givenBlocks; to++ {
				all := true
				for _, g := range l[from:to] {
					all = all && g.call > 0
				}
				if host.Mine(h, from, to-from) != all {
					t.Fatalf("%v: %d to %d are its: %t", l, from, to, !all)
				}
				if call > 3 {
					continue
				}
				behind, without := l, l
				for lba := from; lba < to; lba++ {
					behind[lba], without[lba] = given{call, 1 + call%2}, given{}
				}
				walk(withBlocks(t, h, from, to, 1+call%2), behind, call+1)
				walk(host.Lose(h, from, to), without, call+1)
			}
		}
	}
	walk(api.Host{Id: 5}, [givenBlocks]given{}, 1)
}

// P17.2

func TestRecords(t *testing.T) {
	h := withBlocks(t, withBlocks(t, api.Host{Id: 3, Ver: 40}, 0, 20, 1), 20, mostLba, 2)
	l := []api.Io{write(5, 2, 1), trim(15, 10), write(0, mostCopy, 2), trim(0, mostTrim), write(mostLba-1, 1, 3), trim(mostLba-mostTrim, mostTrim), write(mostLba-mostCopy, mostCopy, 4), write(5, 2, 5), trim(3, 1)}
	want := []api.Rec{
		{Kind: api.DataR, Lba: 5, N: 2, Ver: 40, Data: text(1, 32)},
		{Kind: api.TrimR, Lba: 15, N: 10, Ver: 41},
		{Kind: api.DataR, Lba: 0, N: mostCopy, Ver: 42, Data: text(2, 4096)},
		{Kind: api.TrimR, Lba: 0, N: mostTrim, Ver: 43},
		{Kind: api.DataR, Lba: mostLba - 1, N: 1, Ver: 44, Data: text(3, 16)},
		{Kind: api.TrimR, Lba: mostLba - mostTrim, N: mostTrim, Ver: 45},
		{Kind: api.DataR, Lba: mostLba - mostCopy, N: mostCopy, Ver: 46, Data: text(4, 4096)},
		{Kind: api.DataR, Lba: 5, N: 2, Ver: 47, Data: text(5, 32)},
		{Kind: api.TrimR, Lba: 3, N: 1, Ver: 48},
	}
	for n := range len(l) + 1 {
		got, e := host.Records(h, l[:n]...)
		if !slices.EqualFunc(got, want[:n], sameRec) || e != api.OK {
			t.Errorf("%d: got %v, %d", n, got, e)
		}
	}
	if got, e := host.Records(api.Host{}); len(got) != 0 || e != api.OK {
		t.Errorf("of none: got %v, %d", got, e)
	}
	got, e := host.Records(h, api.Io{Do: api.TrimO, Lba: 7, N: 1, Data: []byte{}})
	if len(got) != 1 || !sameRec(got[0], api.Rec{Kind: api.TrimR, Lba: 7, N: 1, Ver: 40}) || e != api.OK {
		t.Errorf("of empty bytes: got %v, %d", got, e)
	}
}

// badIos are requests that may not be.
func badIos() []api.Io {
	l := []api.Io{
		{}, {Lba: 10, N: 1}, {Do: 3, Lba: 10, N: 1}, {Do: -1, Lba: 10, N: 1}, {Do: math.MaxInt, Lba: 10, N: 1, Data: make([]byte, 16)},
		write(10, 0, 1), write(10, mostCopy+1, 1), write(-1, 1, 1), write(math.MinInt, 1, 1), write(mostLba, 1, 1), write(mostLba-1, 2, 1), write(mostLba-mostCopy+1, mostCopy, 1), write(math.MaxInt, 1, 1),
		{Do: api.WriteO, Lba: 10, N: 1}, {Do: api.WriteO, Lba: 10, N: 1, Data: make([]byte, 15)}, {Do: api.WriteO, Lba: 10, N: 1, Data: make([]byte, 17)}, {Do: api.WriteO, Lba: 10, N: 2, Data: make([]byte, 16)}, {Do: api.WriteO, Lba: 10, N: -1, Data: make([]byte, 16)},
		{Do: api.WriteO, Lba: 10, N: math.MinInt}, {Do: api.WriteO, Lba: 10, N: 1 << 60}, {Do: api.WriteO, Lba: 10, N: math.MaxInt},
		trim(10, 0), trim(10, -1), trim(10, mostTrim+1), trim(-1, 1), trim(-1, 2), trim(mostLba, 1), trim(mostLba-mostTrim+1, mostTrim), trim(math.MaxInt, math.MaxInt), trim(math.MinInt, math.MinInt), trim(mostLba-1, 2),
		{Do: api.TrimO, Lba: 10, N: 1, Data: make([]byte, 16)}, {Do: api.TrimO, Lba: 10, N: 1, Data: []byte{0}},
	}
	return l
}

func TestRecordsErrors(t *testing.T) {
	h := withBlocks(t, api.Host{Id: 3, Ver: 40}, 10, 50, 1)
	h = withBlocks(t, h, 60, 70, 1)
	good := write(10, 1, 1)
	type wrongIo struct {
		o api.Io
		e api.Errno
	}
	var wrong []wrongIo
	for _, o := range badIos() {
		wrong = append(wrong, wrongIo{o, api.ErrBad})
	}
	for _, o := range []api.Io{write(9, 1, 1), write(9, 2, 1), write(50, 1, 1), write(49, 2, 1), write(9, 42, 1), write(45, 20, 1), write(0, 1, 1), write(mostLba-1, 1, 1), trim(9, 1), trim(10, 41), trim(59, 1), trim(49, 12), trim(69, mostTrim), trim(0, mostTrim)} {
		wrong = append(wrong, wrongIo{o, api.ErrMine})
	}
	for _, w := range wrong {
		for _, l := range [][]api.Io{{w.o}, {good, w.o}, {w.o, good}, {good, good, w.o, good}, {w.o, w.o}} {
			got, e := host.Records(h, l...)
			if len(got) != 0 || e != w.e {
				t.Errorf("%v: got %v, %d, want %d", w.o, got, e, w.e)
			}
		}
		for _, x := range wrong { // of two that are wrong the first one's
			got, e := host.Records(h, good, w.o, x.o)
			if len(got) != 0 || e != w.e {
				t.Errorf("%v, then %v: got %v, %d, want %d", w.o, x.o, got, e, w.e)
			}
		}
	}
	if _, e := host.Records(h, write(50, mostCopy+1, 1)); e != api.ErrBad { // both are wrong with it
		t.Errorf("got %d", e)
	}
	if _, e := host.Records(api.Host{}, write(0, 1, 1)); e != api.ErrMine {
		t.Errorf("a host without blocks: got %d", e)
	}
}

// P17.4

func TestCommit(t *testing.T) {
	d := fenced(t, 4096, 1, 2, 7, 8)
	d, _ = commit(t, d, owner(t, 5, d, 0), write(30, 4, 9), trim(31, 1), write(90, 1, 4))
	was := owner(t, 2, d, 1)
	if was.Ver != 4 {
		t.Fatalf("got %v", was)
	}
	l := []api.Io{write(10, 2, 1), write(11, 1, 2), trim(12, 5), write(32, 1, 3), trim(90, 1)}
	recs := []api.Rec{
		{Kind: api.DataR, Lba: 10, N: 2, Ver: 4, Data: text(1, 32)},
		{Kind: api.DataR, Lba: 11, N: 1, Ver: 5, Data: text(2, 16)},
		{Kind: api.TrimR, Lba: 12, N: 5, Ver: 6},
		{Kind: api.DataR, Lba: 32, N: 1, Ver: 7, Data: text(3, 16)},
		{Kind: api.TrimR, Lba: 90, N: 1, Ver: 8},
	}
	head := api.Header{Host: 2, Epoch: 8}
	b, at := framesOf(len(headFrame(head)), recs...)
	x, h, e := host.Commit(d, was, l...)
	if !bytes.Equal(x.Z[1].Data, slices.Concat(headFrame(head), b)) || x.Z[1].State != api.Implicit {
		t.Fatalf("zone 1 is %v", x.Z[1])
	}
	want := was
	want.Open, want.Seq, want.Ver = true, 1, 9
	want.P = api.Pack{H: head, Zone: 1, Cap: 4096, At: len(x.Z[1].Data)}
	other := len(headFrame(api.Header{Host: 5, Epoch: 7})) + placeOf(data(30, 4, 1))
	want.M = []api.Ext{
		{Lba: 10, N: 1, Ver: 4, Zone: 1, Off: at[0]},
		{Lba: 11, N: 1, Ver: 5, Zone: 1, Off: at[1]},
		{Lba: 12, N: 5, Ver: 6, Zone: -1},
		{Lba: 30, N: 1, Ver: 1, Zone: 0, Off: other},
		{Lba: 31, N: 1, Ver: 2, Zone: -1},
		{Lba: 32, N: 1, Ver: 7, Zone: 1, Off: at[3]},
		{Lba: 33, N: 1, Ver: 1, Zone: 0, Off: other + 48},
		{Lba: 90, N: 1, Ver: 8, Zone: -1},
	}
	wantHost(t, "Commit", h, e, want)
	d.Z[1].Data, d.Z[1].State = x.Z[1].Data, x.Z[1].State
	d.Z[0].State = api.Closed // one alone may be open
	if !sameDevice(x, d) {
		t.Errorf("got %v", x)
	}

	// The next one goes behind it.
	y, k := commit(t, x, h, write(11, 1, 5))
	r := api.Rec{Kind: api.DataR, Lba: 11, N: 1, Ver: 9, Data: text(5, 16)}
	b, at = framesOf(len(x.Z[1].Data), r)
	if !bytes.Equal(y.Z[1].Data, slices.Concat(x.Z[1].Data, b)) || k.P.At != len(y.Z[1].Data) {
		t.Errorf("got %v, and zone 1 %v", k, y.Z[1])
	}
	want.Ver, want.P.At = 10, len(y.Z[1].Data)
	want.M[1] = api.Ext{Lba: 11, N: 1, Ver: 9, Zone: 1, Off: at[0]}
	wantHost(t, "the next one", k, api.OK, want)
}

func TestCommitOfNone(t *testing.T) {
	d := fenced(t, 4096, 1, 2, 7, 8)
	h := owner(t, 2, d, 1)
	x, k, e := host.Commit(d, h)
	wantHost(t, "none is open", k, e, h)
	if !sameDevice(x, d) {
		t.Errorf("got %v", x)
	}
	d, h = commit(t, d, h, write(1, 1, 1))
	d = do(t, d, api.Cmd{Do: api.FenceC, Zone: 1, Epoch: 20})
	x, k, e = host.Commit(d, h, []api.Io{}...)
	wantHost(t, "one is open", k, e, h)
	if !sameDevice(x, d) {
		t.Errorf("got %v", x)
	}
	x, k, e = host.Commit(d, api.Host{})
	wantHost(t, "no zones", k, e, api.Host{})
	if !sameDevice(x, d) {
		t.Errorf("got %v", x)
	}
	for i, d := range wrongDevices() { // nothing is asked of the device
		x, k, e := host.Commit(d, h)
		wantHost(t, i, k, e, h)
		if !sameDevice(x, d) {
			t.Errorf("%d: got %v", i, x)
		}
	}
}

func wantNothing(t *testing.T, what any, d api.Zns, h api.Host, e, want api.Errno) {
	t.Helper()
	wantNoHost(t, what, h, e, want)
	if !sameDevice(d, api.Zns{}) {
		t.Errorf("%v: got %v", what, d)
	}
}

func TestCommitErrors(t *testing.T) {
	d := fenced(t, 200, 1, 1, 7)
	h := withBlocks(t, gained(t, api.Host{Id: 1, Ver: 1}, 0, 7), 10, 50, 1)
	for _, o := range badIos() {
		x, k, e := host.Commit(d, h, write(10, 1, 1), o)
		wantNothing(t, o, x, k, e, api.ErrBad)
		x, k, e = host.Commit(api.Zns{}, h, o) // ahead of a device that may not be
		wantNothing(t, o, x, k, e, api.ErrBad)
	}
	x, k, e := host.Commit(d, h, write(10, 1, 1), write(9, 1, 1))
	wantNothing(t, "another one's", x, k, e, api.ErrMine)
	for i, d := range wrongDevices() {
		x, k, e := host.Commit(d, h, write(10, 1, 1))
		wantNothing(t, i, x, k, e, api.ErrArg)
		x, k, e = host.Commit(d, h, write(9, 1, 1))
		wantNothing(t, i, x, k, e, api.ErrMine)
	}
	x, k, e = host.Commit(d, h, write(10, 40, 1))
	wantNothing(t, "no room", x, k, e, api.ErrSpace)
	x, k, e = host.Commit(d, withBlocks(t, api.Host{Id: 1, Ver: 1}, 10, 50, 1), write(10, 1, 1))
	wantNothing(t, "no zones", x, k, e, api.ErrSpace)
	h.Ver = -1
	x, k, e = host.Commit(d, h, write(10, 1, 1))
	wantNothing(t, "a version below 0", x, k, e, api.ErrArg)
}

// Where Put's append goes wrong, what it tells is told.
func TestCommitTellsWhatPutTells(t *testing.T) {
	d := fenced(t, 100, 2, 2, 7, 8)
	d, h := commit(t, d, owner(t, 1, d, 0, 1), write(10, 1, 1))
	for _, c := range []struct {
		zone int
		l    []api.Io
	}{{0, []api.Io{write(10, 1, 2)}}, {0, []api.Io{write(10, 2, 2), trim(3, 1)}}} {
		y := do(t, d, api.Cmd{Do: api.FenceC, Zone: c.zone, Epoch: 20})
		recs, _ := host.Records(h, c.l...)
		wantD, wantH, _, want := host.Put(y, h, recs...)
		x, k, e := host.Commit(y, h, c.l...)
		if e != api.ErrFence || e != want || !sameDevice(x, wantD) || !sameDevice(x, y) || !sameHost(k, wantH) || k.Open || k.Ver != h.Ver || !slices.Equal(k.M, h.M) {
			t.Errorf("%v: got %v, %v, %d", c, x, k, e)
		}
	}
}

// The map's error: nothing is told, so nothing was done.
func TestCommitErrLong(t *testing.T) {
	d := device(nil, apart(0, 4000), apart(4000, 8000), apart(8000, mostExts))
	d = do(t, d, api.Cmd{Do: api.FenceC, Zone: 0, Epoch: 3})
	h := owner(t, 1, d, 0)
	if len(h.M) != mostExts {
		t.Fatalf("got %d", len(h.M))
	}
	x, k, e := host.Commit(d, h, write(1, 1, 1))
	wantNothing(t, "one more", x, k, e, api.ErrLong)
	x, k, e = host.Commit(d, h, trim(0, 1), write(1, 1, 1), trim(0, 3))
	wantNothing(t, "one more on the way", x, k, e, api.ErrLong)
	x, k, e = host.Commit(d, h, trim(0, 3), write(1, 1, 1)) // two are one, then three
	wantNothing(t, "one more than there were", x, k, e, api.ErrLong)
	x, k = commit(t, d, h, trim(0, 5), write(1, 1, 1)) // three are one, then three
	if len(k.M) != mostExts || k.Ver != h.Ver+2 || len(x.Z[0].Data) != k.P.At {
		t.Errorf("got %d extents, the version %d", len(k.M), k.Ver)
	}
}

func TestRead(t *testing.T) {
	d := fenced(t, mostCap, 1, 2, 7, 8)
	h := owner(t, 2, d, 1)
	d, h = commit(t, d, h, write(10, 3, 1), write(11, 1, 2), trim(14, 1), write(100, mostCopy, 3), write(mostLba-1, 1, 4))
	zeros := make([]byte, 1000)
	all := slices.Concat(zeros[:160], text(1, 48)[:16], text(2, 16), text(1, 48)[32:], zeros[:160])
	for lba := range 20 {
		for n := 1; lba+n < 20; n++ {
			b, e := host.Read(d, h, lba, n)
			if !bytes.Equal(b, all[16*lba:16*(lba+n)]) || e != api.OK {
				t.Errorf("%d, %d: got %v, %d", lba, n, b, e)
			}
		}
	}
	if b, e := host.Read(d, h, 100, mostCopy); !bytes.Equal(b, text(3, mostCopy*16)) || e != api.OK {
		t.Errorf("as many as can be: got %d bytes, %d", len(b), e)
	}
	if b, e := host.Read(d, h, mostLba-1, 1); !bytes.Equal(b, text(4, 16)) || e != api.OK {
		t.Errorf("the last block: got %v, %d", b, e)
	}
	d = do(t, d, api.Cmd{Do: api.FenceC, Zone: 1, Epoch: 20}) // nothing is asked of a fence
	if b, e := host.Read(d, h, 10, 1); !bytes.Equal(b, text(1, 16)) || e != api.OK {
		t.Errorf("another one's fence: got %v, %d", b, e)
	}
}

func wantNoBytes(t *testing.T, what any, b []byte, e, want api.Errno) {
	t.Helper()
	if len(b) != 0 || e != want {
		t.Errorf("%v: got %v, %d, want %d", what, b, e, want)
	}
}

func TestReadErrors(t *testing.T) {
	d := fenced(t, 4096, 1, 2, 7, 8)
	h := withBlocks(t, owner(t, 2, d, 1), 0, mostLba, 1)
	d, h = commit(t, d, h, write(10, 3, 1))
	narrow := host.Lose(h, 12, mostLba)
	for _, c := range []struct{ lba, n int }{
		{10, 0}, {10, -1}, {10, mostCopy + 1}, {10, 4096}, {-1, 1}, {-1, 2}, {mostLba, 1}, {mostLba - 1, 2}, {mostLba - mostCopy + 1, mostCopy}, {math.MinInt, 1}, {math.MaxInt, 1}, {0, math.MaxInt}, {0, math.MinInt}, {math.MaxInt, math.MaxInt}, {math.MinInt, math.MinInt},
	} {
		for _, x := range []api.Host{h, narrow, {}} { // ahead of ErrMine
			b, e := host.Read(d, x, c.lba, c.n)
			wantNoBytes(t, c, b, e, api.ErrBad)
		}
	}
	for _, c := range []struct{ lba, n int }{{12, 1}, {11, 2}, {0, 13}, {mostLba - 1, 1}, {mostLba - mostCopy, mostCopy}} {
		b, e := host.Read(d, narrow, c.lba, c.n)
		wantNoBytes(t, c, b, e, api.ErrMine)
		b, e = host.Read(api.Zns{}, narrow, c.lba, c.n) // ahead of what the device has
		wantNoBytes(t, c, b, e, api.ErrMine)
	}
	gone := do(t, d, api.Cmd{Do: api.ResetC, Zone: 1, Epoch: 8})
	b, e := host.Read(gone, h, 9, 2)
	wantNoBytes(t, "the bytes are gone", b, e, api.ErrForm)
	b, e = host.Read(api.Zns{}, h, 10, 1)
	wantNoBytes(t, "the zone is gone", b, e, api.ErrForm)
	h.M = append(h.M, api.Ext{Lba: 3, N: 1})
	b, e = host.Read(d, h, 10, 1)
	wantNoBytes(t, "no map", b, e, api.ErrArg)
}

// The examples of the chapter.
func TestExamples(t *testing.T) {
	d := fenced(t, 4096, 1, 2, 7, 8)
	h, _ := host.New(1, d)
	h = withBlocks(t, h, 0, 10, 1)
	x, k, e := host.Commit(d, h, write(5, 1, 1))
	wantNothing(t, "a host without zones", x, k, e, api.ErrSpace)
	x, k, e = host.Commit(d, gained(t, h, 0, 7), write(10, 1, 1))
	wantNothing(t, "of another one's blocks", x, k, e, api.ErrMine)
}

// What a host knows is what one knows that is made anew.
func TestNewBehindCommit(t *testing.T) {
	d := fenced(t, 300, 1, 3, 7, 8, 9)
	h := owner(t, 2, d, 0, 1, 2)
	for i, l := range [][]api.Io{{write(3, 4, 1)}, {trim(4, 1), write(5, 1, 2)}, {write(0, 9, 3)}, {trim(0, 20)}, {write(6, 3, 4)}} {
		d, h = commit(t, d, h, l...)
		g, e := host.New(6, d)
		if e != api.OK || !slices.Equal(g.M, h.M) || g.Ver != h.Ver || g.Seq != 0 || g.Open || len(replay.Torn(d)) != 0 {
			t.Errorf("%d: got %v, %d, want %v", i, g, e, h)
		}
	}
}
