package host_test

import (
	"bytes"
	"slices"
	"testing"

	"quickset/api"
	"quickset/host"
)

// roomyBytes are b's, with room behind them in which stands what is not their own.
func roomyBytes(b []byte) []byte { return slices.Concat(b, []byte{99, 99})[:len(b)] }

var behind = []byte{99, 99}

func cloneBytes(d api.Zns) api.Zns {
	d.Z = slices.Clone(d.Z)
	for i := range d.Z {
		d.Z[i].Data = bytes.Clone(d.Z[i].Data)
	}
	return d
}

func roomyDevice(d api.Zns) api.Zns {
	d.Z = slices.Concat(d.Z, []api.Zone{{State: 77}})[:len(d.Z)]
	for i := range d.Z {
		d.Z[i].Data = roomyBytes(d.Z[i].Data)
	}
	return d
}

func roomyRecs(l []api.Rec) []api.Rec {
	l = slices.Concat(l, []api.Rec{{Kind: 77}})[:len(l)]
	for i := range l {
		l[i].Data = roomyBytes(l[i].Data)
	}
	return l
}

func roomyIos(l []api.Io) []api.Io {
	l = slices.Concat(l, []api.Io{{Do: 77}})[:len(l)]
	for i := range l {
		if len(l[i].Data) > 0 {
			l[i].Data = roomyBytes(l[i].Data)
		}
	}
	return l
}

func roomyHost(h api.Host) api.Host {
	h.Own = slices.Concat(h.Own, []api.Fence{{Zone: 77}})[:len(h.Own)]
	h.S = slices.Concat(h.S, []api.Span{{From: 77}})[:len(h.S)]
	h.M = slices.Concat(h.M, []api.Ext{{Lba: 77}})[:len(h.M)]
	h.P.Buf = roomyBytes(h.P.Buf)
	h.P.L = roomyRecs(h.P.L)
	return h
}

// wantRoom wants that nothing was written behind what was handed in.
func wantRoom(t *testing.T, what string, d api.Zns, h api.Host) {
	t.Helper()
	ok := d.Z[:len(d.Z)+1][len(d.Z)].State == 77 && h.Own[:len(h.Own)+1][len(h.Own)].Zone == 77 && h.S[:len(h.S)+1][len(h.S)].From == 77 &&
		h.M[:len(h.M)+1][len(h.M)].Lba == 77 && h.P.L[:len(h.P.L)+1][len(h.P.L)].Kind == 77 && bytes.Equal(h.P.Buf[:len(h.P.Buf)+2][len(h.P.Buf):], behind)
	for _, z := range d.Z {
		ok = ok && bytes.Equal(z.Data[:len(z.Data)+2][len(z.Data):], behind)
	}
	if !ok {
		t.Errorf("%s wrote behind what was handed in", what)
	}
}

func spoilBytes(b []byte) {
	b = b[:cap(b)]
	for i := range b {
		b[i] = 200
	}
}

func spoilDevice(d api.Zns) {
	z := d.Z[:cap(d.Z)]
	for i := range z {
		spoilBytes(z[i].Data)
		z[i] = api.Zone{State: -5}
	}
}

func spoilRecs(l []api.Rec) {
	for _, r := range l[:cap(l)] {
		spoilBytes(r.Data)
	}
	clear(l[:cap(l)])
}

func spoilIos(l []api.Io) {
	for _, o := range l[:cap(l)] {
		spoilBytes(o.Data)
	}
	clear(l[:cap(l)])
}

func spoilHost(h api.Host) {
	clear(h.Own[:cap(h.Own)])
	clear(h.S[:cap(h.S)])
	clear(h.M[:cap(h.M)])
	spoilBytes(h.P.Buf)
	spoilRecs(h.P.L)
}

// aCase is a device and a host, made anew each time.
type aCase struct {
	what string
	d    api.Zns
	h    api.Host
}

// cases are: a segment is open, with room or nearly none; none is open; the host is fenced off; it has no room at all; something waits in its segment.
func cases(t *testing.T) []aCase {
	t.Helper()
	d := fenced(t, 300, 1, 2, 4, 5, 6)
	other, _ := commit(t, d, owner(t, 5, d, 2), write(40, 2, 9), trim(41, 1))
	fresh := withBlocks(t, withBlocks(t, owner(t, 2, other, 0, 1), 10, 20, 2), 30, 31, 3)
	x, h := commit(t, other, fresh, write(3, 2, 1), trim(4, 1))
	full, k := commit(t, x, h, write(5, 9, 2))
	waits := h
	waits.P.Buf, waits.P.L = recFrame(trimRec(5, 1, 2)), []api.Rec{trimRec(5, 1, 2), data(3, 1, 1)}
	return []aCase{
		{"open", x, h},
		{"nearly full", full, k},
		{"none is open", other, fresh},
		{"fenced off", do(t, x, api.Cmd{Do: api.FenceC, Zone: 0, Epoch: 9}), h},
		{"no room", other, owner(t, 2, other, 2)},
		{"waits", x, waits},
	}
}

// each does a call of roomy arguments, and asks that these stay as they were, also when the answer is written into, and that the answer stays as it was when they are written into.
func each(t *testing.T, what string, call func(d api.Zns, h api.Host) (api.Zns, api.Host)) {
	t.Helper()
	for i, c := range cases(t) {
		name := what + ", " + c.what
		d, h := roomyDevice(c.d), roomyHost(c.h)
		wantD, wantH := call(cloneBytes(c.d), roomyHost(c.h))
		again := cases(t)[i]

		gotD, gotH := call(d, h)
		if !sameDevice(d, again.d) || !sameHost(h, again.h) {
			t.Errorf("%s changed what was handed in", name)
		}
		wantRoom(t, name, d, h)
		spoilDevice(gotD)
		spoilHost(gotH)
		if !sameDevice(d, again.d) || !sameHost(h, again.h) {
			t.Errorf("%s: the answer has something together with what was handed in", name)
		}
		wantRoom(t, name, d, h)
		gotD, gotH = call(d, h)
		spoilDevice(d)
		spoilHost(h)
		if !sameDevice(gotD, wantD) || !sameHost(gotH, wantH) {
			t.Errorf("%s: got %v, %v, want %v, %v", name, gotD, gotH, wantD, wantH)
		}
	}
}

// R2: what is handed in stays as it was, an answer is the caller's own, and stays as it is when what was handed in changes.
func TestWhoseIsTheHost(t *testing.T) {
	each(t, "New", func(d api.Zns, h api.Host) (api.Zns, api.Host) {
		h, _ = host.New(1, d)
		return api.Zns{}, h
	})
	for _, zone := range []int{0, 1, 2, 5} {
		each(t, "Gain", func(d api.Zns, h api.Host) (api.Zns, api.Host) {
			h, _ = host.Gain(h, zone, 7)
			return api.Zns{}, h
		})
	}
	for _, c := range [][2]int{{12, 15}, {0, 50}, {10, 20}, {31, 40}, {5, 5}, {7, 3}} {
		each(t, "Blocks", func(d api.Zns, h api.Host) (api.Zns, api.Host) {
			h, _ = host.Blocks(h, c[0], c[1], 7)
			return api.Zns{}, h
		})
		each(t, "Lose", func(d api.Zns, h api.Host) (api.Zns, api.Host) {
			return api.Zns{}, host.Lose(h, c[0], c[1])
		})
		each(t, "Mine and Read", func(d api.Zns, h api.Host) (api.Zns, api.Host) {
			host.Mine(h, c[0], c[1])
			_, _ = host.Read(d, h, c[0], c[1])
			return api.Zns{}, api.Host{}
		})
	}
}

func TestWhoseIsWhatIsDone(t *testing.T) {
	for _, l := range [][]api.Io{nil, {write(3, 1, 1)}, {write(3, 2, 1), trim(2, 4), write(15, 6, 2)}, {write(3, 256, 1)}, {trim(0, 0)}} {
		each(t, "Commit", func(d api.Zns, h api.Host) (api.Zns, api.Host) {
			d, h, _ = host.Commit(d, h, l...)
			return d, h
		})
	}
	for _, l := range [][]api.Rec{nil, {data(3, 1, 1)}, someRecs(), {data(3, 256, 1)}, {{}}} {
		each(t, "Put", func(d api.Zns, h api.Host) (api.Zns, api.Host) {
			d, h, _, _ = host.Put(d, h, l...)
			return d, h
		})
	}
}

func TestWhoseAreTheRequests(t *testing.T) {
	l := []api.Io{write(3, 2, 1), trim(2, 4), write(15, 2, 2)}
	for i, c := range cases(t) {
		want, _ := host.Records(c.h, l...)
		wantD, wantH, _ := host.Commit(c.d, c.h, l...)
		ios := roomyIos(l)
		recs, _ := host.Records(c.h, ios...)
		d, h, _ := host.Commit(c.d, c.h, ios...)
		spoilRecs(recs)
		spoilDevice(d)
		spoilHost(h)
		if !slices.EqualFunc(ios, l, func(a, b api.Io) bool {
			return a.Do == b.Do && a.Lba == b.Lba && a.N == b.N && bytes.Equal(a.Data, b.Data)
		}) || ios[:len(l)+1][len(l)].Do != 77 || !bytes.Equal(ios[0].Data[:34][32:], behind) {
			t.Errorf("%d: the requests are %v", i, ios)
		}
		recs, _ = host.Records(c.h, ios...)
		d, h, _ = host.Commit(c.d, c.h, ios...)
		spoilIos(ios)
		if !slices.EqualFunc(recs, want, sameRec) || !sameDevice(d, wantD) || !sameHost(h, wantH) {
			t.Errorf("%d: got %v, %v, %v", i, recs, d, h)
		}
		spoilBytes(recs[0].Data) // no two lists of an answer have anything together
		if !sameRec(recs[2], want[2]) {
			t.Errorf("%d: got %v", i, recs[2])
		}
	}
	x := write(3, 1, 1)
	recs, _ := host.Records(cases(t)[0].h, x, x) // one's bytes twice
	spoilBytes(recs[0].Data)
	if !bytes.Equal(recs[1].Data, text(1, 16)) {
		t.Errorf("got %v", recs)
	}
}

func TestWhoseAreTheRecords(t *testing.T) {
	l := someRecs()
	for i, c := range cases(t) {
		wantD, wantH, places, _ := host.Put(c.d, c.h, l...)
		recs := roomyRecs(l)
		d, h, at, _ := host.Put(c.d, c.h, recs...)
		spoilDevice(d)
		spoilHost(h)
		clear(at[:cap(at)])
		if !slices.EqualFunc(recs, someRecs(), sameRec) || recs[:len(l)+1][len(l)].Kind != 77 || !bytes.Equal(recs[0].Data[:34][32:], behind) {
			t.Errorf("%d: the records are %v", i, recs)
		}
		d, h, at, _ = host.Put(c.d, c.h, recs...)
		spoilRecs(recs)
		if !sameDevice(d, wantD) || !sameHost(h, wantH) || !slices.Equal(at, places) {
			t.Errorf("%d: got %v, %v, %v", i, d, h, at)
		}
	}
}

func TestWhoseAreTheBytesThatAreRead(t *testing.T) {
	for i, c := range cases(t) {
		for _, lba := range []int{3, 4, 40, 41} {
			d, h := roomyDevice(c.d), roomyHost(c.h)
			want, _ := host.Read(c.d, c.h, lba, 1)
			want = bytes.Clone(want)
			b, _ := host.Read(d, h, lba, 1)
			spoilBytes(b)
			if !sameDevice(d, c.d) || !sameHost(h, c.h) {
				t.Errorf("%d: the answer has something together with what was handed in", i)
			}
			wantRoom(t, "Read", d, h)
			b, _ = host.Read(d, h, lba, 1)
			spoilDevice(d)
			spoilHost(h)
			if !bytes.Equal(b, want) {
				t.Errorf("%d: got %v, want %v", i, b, want)
			}
		}
	}
}
