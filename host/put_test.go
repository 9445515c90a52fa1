package host_test

import (
	"bytes"
	"math"
	"slices"
	"testing"

	"quickset/api"
	"quickset/host"
	"quickset/seg"
	"quickset/zns"
)

// P17.3

// wantPut holds what Put told against the device and the host that are wanted, and the places against where the records' bytes stand.
func wantPut(t *testing.T, what any, d api.Zns, h api.Host, at []int, e api.Errno, wantD api.Zns, wantH api.Host, l ...api.Rec) {
	t.Helper()
	wantHost(t, what, h, e, wantH)
	if !sameDevice(d, wantD) {
		t.Errorf("%v: got the device %v, want %v", what, d, wantD)
	}
	if len(at) != len(l) {
		t.Fatalf("%v: got the places %v", what, at)
	}
	for i, r := range l {
		b, frame := d.Z[h.P.Zone].Data, recFrame(r)
		from := at[i] - placeOf(r)
		if from < 0 || from+len(frame) > len(b) || !bytes.Equal(b[from:from+len(frame)], frame) {
			t.Errorf("%v: record %d does not stand at %d", what, i, at[i])
		}
	}
}

// with is a device, one of whose zones is in a state, with these bytes.
func with(d api.Zns, zone, state int, b []byte) api.Zns {
	d.Z = slices.Clone(d.Z)
	d.Z[zone].State, d.Z[zone].Data = state, b
	return d
}

// writing is a host that writes to a zone, in which there are so many bytes.
func writing(h api.Host, head api.Header, zone, most, at int) api.Host {
	h.Open, h.P = true, api.Pack{H: head, Zone: zone, Cap: most, At: at}
	h.Seq = head.Seq + 1
	return h
}

func TestPut(t *testing.T) {
	for n := range len(someRecs()) + 1 {
		l := someRecs()[:n]
		d := fenced(t, 500, 1, 1, 0, 300, 4)
		was := owner(t, 6, d, 1, 2)
		was.M, was.Ver, was.Seq = []api.Ext{{N: 1, Ver: 3, Zone: -1}}, 40, 130
		head := api.Header{Host: 6, Epoch: 300, Seq: 130}
		b := segment(head, l...)
		x, h, at, e := host.Put(d, was, l...)
		wantD, wantH := with(d, 1, api.Implicit, b), writing(was, head, 1, 500, len(b))
		wantPut(t, n, x, h, at, e, wantD, wantH, l...)
		if f := seg.Scan(x.Z[1].Data); f.Used != len(b) || !slices.EqualFunc(f.L, l, sameRec) {
			t.Errorf("%d: found %v", n, f)
		}

		again := append(someRecs(), data(1, 1, 0))
		c, _ := framesOf(0, again...)
		y, k, at, e := host.Put(x, h, again...)
		wantPut(t, "behind it", y, k, at, e, with(x, 1, api.Implicit, slices.Concat(b, c)), writing(wantH, head, 1, 500, len(b)+len(c)), again...)
	}
}

// What just goes in is put there, and with one byte less there is another zone.
func TestPutRoom(t *testing.T) {
	first, l := data(3, 1, 7), []api.Rec{trimRec(5, 1, 8), move(0, 2, 2, 3, 4)}
	head := api.Header{Host: 1, Epoch: 7}
	next := api.Header{Host: 1, Epoch: 8, Seq: 1}
	b, c := segment(head, first), segment(head, append([]api.Rec{first}, l...)...)
	for more := -3; more <= 3; more++ {
		most := len(c) + more
		d := fenced(t, most, 1, 1, 7, 8)
		was := owner(t, 1, d, 0, 1)
		d, h, _ := put(t, d, was, first)
		if !bytes.Equal(d.Z[0].Data, b) {
			t.Fatalf("got %v", d)
		}
		x, k, at, e := host.Put(d, h, l...)
		switch {
		case more > 0:
			wantPut(t, more, x, k, at, e, with(d, 0, api.Implicit, c), writing(was, head, 0, most, len(c)), l...)
		case more == 0:
			wantPut(t, more, x, k, at, e, with(d, 0, api.Full, c), writing(was, head, 0, most, len(c)), l...)
			y, k, at, e := host.Put(x, k)
			wantPut(t, "none has room", y, k, at, e, x, writing(was, head, 0, most, len(c)))
			y, k, at, e = host.Put(x, k, first) // it is finished already
			f := segment(next, first)
			wantPut(t, "the next one", y, k, at, e, with(x, 1, api.Implicit, f), writing(was, next, 1, most, len(f)), first)
		default:
			f := segment(next, l...)
			wantPut(t, more, x, k, at, e, with(with(d, 0, api.Full, b), 1, api.Implicit, f), writing(was, next, 1, most, len(f)), l...)
		}
	}
}

// A zone takes the header's frame and these, up to its last byte; that counts behind the finishing, too.
func TestPutErrSpaceOfLongOnes(t *testing.T) {
	l := []api.Rec{data(3, 3, 7), trimRec(5, 1, 8)}
	for _, seq := range []int{0, 127, 128, 1 << 20} { // of which the header's length hangs
		head := api.Header{Host: 1, Epoch: 7, Seq: seq}
		b := segment(head, l...)
		for more := -2; more <= 2; more++ {
			most := len(b) + more
			d := fenced(t, most, 1, 1, 7, 8)
			was := owner(t, 1, d, 0, 1)
			was.Seq = seq
			x, h, at, e := host.Put(d, was, l...)
			switch {
			case more < 0:
				wantNoPut(t, more, x, h, at, e, api.ErrSpace)
			case more == 0:
				wantPut(t, more, x, h, at, e, with(d, 0, api.Full, b), writing(was, head, 0, most, most), l...)
			default:
				wantPut(t, more, x, h, at, e, with(d, 0, api.Implicit, b), writing(was, head, 0, most, len(b)), l...)
			}
		}
	}
	d := fenced(t, 100, 1, 1, 7, 8)
	d, h, _ := put(t, d, owner(t, 1, d, 0, 1), trimRec(5, 1, 8))
	x, k, at, e := host.Put(d, h, data(0, 256, 1))
	wantNoPut(t, "too long for each", x, k, at, e, api.ErrSpace)
	if !sameDevice(d, with(d, 0, api.Implicit, d.Z[0].Data)) {
		t.Error("it was finished")
	}
	d = fenced(t, len(headFrame(api.Header{Host: 1, Epoch: 7}))-1, 1, 1, 7)
	x, k, at, e = host.Put(d, owner(t, 1, d, 0))
	wantNoPut(t, "not even the header", x, k, at, e, api.ErrSpace)
}

func wantNoPut(t *testing.T, what any, d api.Zns, h api.Host, at []int, e, want api.Errno) {
	t.Helper()
	wantNothing(t, what, d, h, e, want)
	if len(at) != 0 {
		t.Errorf("%v: got the places %v", what, at)
	}
}

func TestPutErrSpace(t *testing.T) {
	r := data(3, 1, 7)
	d := fenced(t, 100, 2, 3, 4, 5, 6)
	x, k, at, e := host.Put(d, owner(t, 1, d), r)
	wantNoPut(t, "no zones", x, k, at, e, api.ErrSpace)
	h := gained(t, gained(t, gained(t, owner(t, 1, d), 0, 3), 1, 6), 3, 1)
	h = gained(t, gained(t, h, 64, 1), math.MaxInt, 1)
	x, k, at, e = host.Put(d, h, r)
	wantNoPut(t, "other epochs, and zones that there are not", x, k, at, e, api.ErrSpace)
	x, k, at, e = host.Put(d, h)
	wantNoPut(t, "none, and no zone", x, k, at, e, api.ErrSpace)
	// All is used up.
	d, h, _ = put(t, d, owner(t, 1, d, 0, 1, 2), data(0, 4, 1))
	d, h, _ = put(t, d, h, data(0, 4, 1))
	d, h, _ = put(t, d, h, data(0, 4, 1))
	if h.P.Zone != 2 || h.Seq != 3 {
		t.Fatalf("got %v", h)
	}
	x, k, at, e = host.Put(d, h, data(0, 4, 1))
	wantNoPut(t, "used up", x, k, at, e, api.ErrSpace)
	if d.Z[2].State != api.Implicit {
		t.Errorf("zone 2 is %v", d.Z[2])
	}
}

// The first zone that is Empty, under the epoch that is its fence's.
func TestPutChoosesTheFirst(t *testing.T) {
	r := data(3, 1, 7)
	fences := []int{1, 2, 3, 4, 5, 6, 7, 8, 9, 0}
	d := fenced(t, 100, 8, 10, fences...)
	d = do(t, d,
		api.Cmd{Do: api.FinishC, Zone: 1, Epoch: 2},
		api.Cmd{Do: api.OpenC, Zone: 2, Epoch: 3}, // no bytes, and yet not Empty
		api.Cmd{Do: api.AppendC, Zone: 3, Epoch: 4, Data: []byte{1}},
		api.Cmd{Do: api.AppendC, Zone: 4, Epoch: 5, Data: []byte{1}}, api.Cmd{Do: api.CloseC, Zone: 4, Epoch: 5},
		api.Cmd{Do: api.AppendC, Zone: 5, Epoch: 6, Data: []byte{1}}, api.Cmd{Do: api.ResetC, Zone: 5, Epoch: 6}, // Empty again
	)
	for _, c := range []struct {
		own  [][2]int // zone, epoch
		want int
	}{
		{[][2]int{{1, 2}, {2, 3}, {3, 4}, {4, 5}, {5, 6}, {6, 7}}, 5},
		{[][2]int{{1, 2}, {2, 3}, {3, 4}, {4, 5}, {6, 7}, {7, 8}}, 6},
		{[][2]int{{8, 9}, {7, 8}, {6, 7}}, 6},
		{[][2]int{{8, 9}, {7, 8}, {0, 1}}, 0},
		{[][2]int{{0, 2}, {5, 5}, {6, 7}}, 6},             // another epoch than its fence
		{[][2]int{{0, 9}, {5, 1}, {9, 1}, {8, 9}}, 8},     // zone 9 has the fence 0
		{[][2]int{{10, 1}, {64, 1}, {100, 1}, {7, 8}}, 7}, // there are ten
	} {
		was := owner(t, 2, d)
		for _, f := range c.own {
			was = gained(t, was, f[0], f[1])
		}
		head := api.Header{Host: 2, Epoch: fences[c.want]}
		b := segment(head, r)
		x, h, at, e := host.Put(d, was, r)
		wantPut(t, c, x, h, at, e, with(d, c.want, api.Implicit, b), writing(was, head, c.want, 100, len(b)), r)
	}
	was := owner(t, 2, d, 1, 2, 3, 4)
	x, h, at, e := host.Put(d, was, r)
	wantNoPut(t, "none is Empty", x, h, at, e, api.ErrSpace)
}

// Of hosts that may not be: a zone below 0 is none, and the error of packer.Begin is told.
func TestPutOfWrongHosts(t *testing.T) {
	r := data(3, 1, 7)
	d := fenced(t, 100, 1, 1, 0, 5)
	was := api.Host{Id: 2, Own: []api.Fence{{Zone: -1, Epoch: 5}, {Zone: math.MinInt, Epoch: 5}, {Zone: 1, Epoch: 5}}}
	b := segment(api.Header{Host: 2, Epoch: 5}, r)
	x, h, at, e := host.Put(d, was, r)
	wantPut(t, "zones below 0", x, h, at, e, with(d, 1, api.Implicit, b), writing(was, api.Header{Host: 2, Epoch: 5}, 1, 100, len(b)), r)
	was.Id = -1
	x, h, at, e = host.Put(d, was, r)
	wantNoPut(t, "a number below 0", x, h, at, e, api.ErrArg)
	was.Id, was.Seq = 2, -1
	x, h, at, e = host.Put(d, was, r)
	wantNoPut(t, "a segment below 0", x, h, at, e, api.ErrArg)
}

func TestPutErrors(t *testing.T) {
	good := data(3, 1, 7)
	d := fenced(t, 100, 1, 1, 4, 5)
	d, open, _ := put(t, d, owner(t, 1, d, 0, 1), good)
	for i, h := range []api.Host{open, owner(t, 1, d, 1), owner(t, 1, d)} { // ahead of ErrSpace, too
		for k, w := range wrongRecs() {
			for _, l := range [][]api.Rec{{w.r}, {good, w.r}, {w.r, good}, {good, good, w.r, good}, {data(0, 256, 1), w.r}} {
				x, y, at, e := host.Put(d, h, l...)
				wantNoPut(t, []int{i, k}, x, y, at, e, w.e)
			}
			for _, behind := range wrongRecs() { // of two the first one's
				x, y, at, e := host.Put(d, h, good, w.r, behind.r)
				wantNoPut(t, []int{i, k}, x, y, at, e, w.e)
			}
			for _, wrong := range wrongDevices() { // a device that may not be goes ahead of it
				x, y, at, e := host.Put(wrong, h, w.r)
				wantNoPut(t, []int{i, k}, x, y, at, e, api.ErrArg)
			}
		}
		for k, wrong := range wrongDevices() {
			for _, l := range [][]api.Rec{nil, {good}, {data(0, 256, 1)}} {
				x, y, at, e := host.Put(wrong, h, l...)
				wantNoPut(t, []int{i, k}, x, y, at, e, api.ErrArg)
			}
		}
	}
}

// wantStopped holds what Put told where the append went wrong: that no segment is open, and nothing else is changed but by the finishing, and the beginning.
func wantStopped(t *testing.T, what any, d api.Zns, h api.Host, at []int, e api.Errno, wantD api.Zns, was api.Host, seq int, want api.Errno) {
	t.Helper()
	was.Open, was.P, was.Seq = false, api.Pack{}, seq
	if !sameHost(h, was) || e != want || len(at) != 0 {
		t.Errorf("%v: got %v, %v, %d, want %v, %d", what, h, at, e, was, want)
	}
	if !sameDevice(d, wantD) {
		t.Errorf("%v: got the device %v, want %v", what, d, wantD)
	}
}

// The append to the segment that is open goes wrong.
func TestPutStopped(t *testing.T) {
	r := data(3, 1, 7)
	d := fenced(t, 100, 1, 2, 4, 5)
	d, h, _ := put(t, d, owner(t, 1, d, 0, 1), r)
	h.M, h.Ver = []api.Ext{{N: 1, Ver: 3, Zone: -1}}, 40
	for _, c := range []struct {
		what string
		want api.Errno
		l    []api.Cmd
	}{
		{"fenced", api.ErrFence, []api.Cmd{{Do: api.FenceC, Zone: 0, Epoch: 6}}},
		{"fenced and reset", api.ErrFence, []api.Cmd{{Do: api.FenceC, Zone: 0, Epoch: 6}, {Do: api.ResetC, Zone: 0, Epoch: 6}}},
		{"finished", api.ErrState, []api.Cmd{{Do: api.FinishC, Zone: 0, Epoch: 4}}},
		{"others appended", api.ErrFull, []api.Cmd{{Do: api.AppendC, Zone: 0, Epoch: 4, Data: make([]byte, 50)}}},
		{"torn", api.ErrFull, []api.Cmd{{Do: api.TornC, Zone: 0, Epoch: 4, Data: make([]byte, 50), N: 40}}},
	} {
		x := do(t, d, c.l...)
		y, k, at, e := host.Put(x, h, r)
		wantStopped(t, c.what, y, k, at, e, x, h, 1, c.want)
		// Then the next one is begun, and what is not open is not finished.
		next := api.Header{Host: 1, Epoch: 5, Seq: 1}
		b := segment(next, r)
		z, k, at, e := host.Put(y, k, r)
		want := with(y, 1, api.Implicit, b)
		if y.Z[0].State == api.Implicit {
			want = with(want, 0, api.Closed, y.Z[0].Data) // one alone may be open
		}
		wantPut(t, c.what, z, k, at, e, want, writing(h, next, 1, 100, len(b)), r)
	}
	x := do(t, d, api.Cmd{Do: api.OpenC, Zone: 1, Epoch: 5})
	y, k, at, e := host.Put(x, h, r) // zone 0 is closed now
	wantStopped(t, "another one is open", y, k, at, e, x, h, 1, api.ErrOpen)
	x = do(t, d, api.Cmd{Do: api.FenceC, Zone: 0, Epoch: 6}, api.Cmd{Do: api.ResetC, Zone: 0, Epoch: 6}, api.Cmd{Do: api.FenceC, Zone: 1, Epoch: 9})
	x.Z[0].Fence = 4 // a device that does not know the fence any more
	x.Active = 1
	x = do(t, x, api.Cmd{Do: api.OpenC, Zone: 1, Epoch: 9})
	y, k, at, e = host.Put(x, h, r)
	wantStopped(t, "another one is active", y, k, at, e, x, h, 1, api.ErrActive)
}

// The append to the one that is begun goes wrong: what the finishing changed stays.
func TestPutStoppedBehindTheFinishing(t *testing.T) {
	long := data(0, 3, 7)
	d := fenced(t, 100, 1, 2, 4, 5, 6)
	d, h, _ := put(t, d, owner(t, 1, d, 0, 2), long)
	h.M, h.Ver = []api.Ext{{N: 1, Ver: 3, Zone: -1}}, 40

	other := do(t, d, api.Cmd{Do: api.OpenC, Zone: 1, Epoch: 5})
	x, k, at, e := host.Put(other, h, long)
	wantStopped(t, "another one is open", x, k, at, e, with(other, 0, api.Full, d.Z[0].Data), h, 2, api.ErrOpen)

	narrow := do(t, d, api.Cmd{Do: api.FenceC, Zone: 0, Epoch: 9}, api.Cmd{Do: api.AppendC, Zone: 1, Epoch: 5, Data: []byte{1}})
	x, k, at, e = host.Put(narrow, h, long) // zone 0 is another one's now, and can't be finished
	wantStopped(t, "others are active", x, k, at, e, narrow, h, 2, api.ErrActive)

	// None was open: Seq is one more, too.
	fresh := owner(t, 1, d, 2)
	x, k, at, e = host.Put(narrow, fresh, long)
	wantStopped(t, "none was open", x, k, at, e, narrow, fresh, 1, api.ErrActive)
	x, k, at, e = host.Put(other, fresh)
	wantStopped(t, "none was open, no records", x, k, at, e, other, fresh, 1, api.ErrActive)

	// Behind that it goes on, as soon as it may.
	room := do(t, narrow, api.Cmd{Do: api.FinishC, Zone: 0, Epoch: 9})
	x, k, at, e = host.Put(room, k, long)
	head := api.Header{Host: 1, Epoch: 6, Seq: 1}
	b := segment(head, long)
	want := with(room, 2, api.Implicit, b)
	want.Z[1].State = api.Closed
	wantPut(t, "behind it", x, k, at, e, want, writing(fresh, head, 2, 100, len(b)), long)
}

// The error of the finishing is passed over; it is done under the segment's epoch, not under one that was gained since.
func TestPutFinishing(t *testing.T) {
	long := data(0, 3, 7)
	d := fenced(t, 100, 2, 3, 4, 5, 6)
	d, was, _ := put(t, d, owner(t, 1, d, 0, 1), long)
	next := api.Header{Host: 1, Epoch: 5, Seq: 1}
	b := segment(next, long)
	for what, l := range [][]api.Cmd{
		{},
		{{Do: api.CloseC, Zone: 0, Epoch: 4}},
		{{Do: api.OpenC, Zone: 0, Epoch: 4}},
		{{Do: api.FinishC, Zone: 0, Epoch: 4}},
		{{Do: api.ResetC, Zone: 0, Epoch: 4}},
	} {
		x := do(t, d, l...)
		y, h, at, e := host.Put(x, was, long)
		want := with(with(x, 0, api.Full, x.Z[0].Data), 1, api.Implicit, b)
		wantPut(t, what, y, h, at, e, want, writing(was, next, 1, 100, len(b)), long)
	}
	x := do(t, d, api.Cmd{Do: api.FenceC, Zone: 0, Epoch: 9})
	y, h, at, e := host.Put(x, was, long)
	wantPut(t, "fenced", y, h, at, e, with(x, 1, api.Implicit, b), writing(was, next, 1, 100, len(b)), long)
	far := was
	far.P.Zone = 17
	y, h, at, e = host.Put(d, far, long)
	wantPut(t, "no such zone", y, h, at, e, with(d, 1, api.Implicit, b), writing(was, next, 1, 100, len(b)), long)
	// A zone of its own that it finishes is not begun again.
	only := owner(t, 1, d, 0)
	only.Open, only.P = true, was.P
	v, k, at, e := host.Put(d, only, long)
	wantNoPut(t, "its own zone", v, k, at, e, api.ErrSpace)
}

func TestPutOfNone(t *testing.T) {
	d := fenced(t, 100, 1, 1, 4, 5)
	was := owner(t, 1, d, 0, 1)
	head := api.Header{Host: 1, Epoch: 4}
	b := headFrame(head)
	x, h, at, e := host.Put(d, was)
	want := writing(was, head, 0, 100, len(b))
	wantPut(t, "none is open", x, h, at, e, with(d, 0, api.Implicit, b), want)
	y, h, at, e := host.Put(x, h, []api.Rec{}...)
	wantPut(t, "one is open", y, h, at, e, x, want)
	y = do(t, y, api.Cmd{Do: api.FenceC, Zone: 0, Epoch: 9}) // nothing is asked of the device
	z, h, at, e := host.Put(y, h)
	wantPut(t, "fenced", z, h, at, e, y, want)
}

// Where more stands in the zone than the host knows of, the places are those where the device has the bytes, and it knows of all again.
func TestPutBehindOthers(t *testing.T) {
	d := fenced(t, 300, 1, 1, 4)
	r := data(3, 1, 7)
	head := api.Header{Host: 1, Epoch: 4}
	d, was, _ := put(t, d, owner(t, 1, d, 0), r)
	l := []api.Rec{trimRec(9, 1, 1), data(4, 2, 8), move(1, 1, 1, 1, 1)}
	c, _ := framesOf(0, l...)
	for _, more := range [][]byte{recFrame(r), {1}, text(1, 60)} {
		x := do(t, d, api.Cmd{Do: api.AppendC, Zone: 0, Epoch: 4, Data: more})
		b := slices.Concat(x.Z[0].Data, c)
		y, h, at, e := host.Put(x, was, l...)
		wantPut(t, more, y, h, at, e, with(x, 0, api.Implicit, b), writing(was, head, 0, 300, len(b)), l...)
	}
	x := do(t, d, api.Cmd{Do: api.ResetC, Zone: 0, Epoch: 4}) // less stands there
	y, h, at, e := host.Put(x, was, l...)
	wantPut(t, "reset", y, h, at, e, with(x, 0, api.Implicit, c), writing(was, head, 0, 300, len(c)), l...)

	// Two that come from one host read what they wrote.
	d1, a := commit(t, d, was, write(20, 2, 5))
	d2, b := commit(t, d1, was, write(30, 2, 6))
	if b1, e := host.Read(d2, a, 20, 2); !bytes.Equal(b1, text(5, 32)) || e != api.OK {
		t.Errorf("got %v, %d", b1, e)
	}
	if b2, e := host.Read(d2, b, 30, 2); !bytes.Equal(b2, text(6, 32)) || e != api.OK {
		t.Errorf("got %v, %d", b2, e)
	}
}

// Whatever the segment that was handed in has to append goes ahead.
func TestPutOfWhatWaits(t *testing.T) {
	d := fenced(t, 300, 1, 1, 4)
	r := data(3, 1, 7)
	d, was, _ := put(t, d, owner(t, 1, d, 0), r)
	was.P.Buf, was.P.L = recFrame(trimRec(5, 1, 2)), []api.Rec{trimRec(5, 1, 2)}
	b := slices.Concat(d.Z[0].Data, was.P.Buf, recFrame(r))
	x, h, at, e := host.Put(d, was, r)
	wantPut(t, "one waits", x, h, at, e, with(d, 0, api.Implicit, b), writing(was, api.Header{Host: 1, Epoch: 4}, 0, 300, len(b)), r)
}

// As many as a zone takes go in by one append.
func TestPutMany(t *testing.T) {
	d := fenced(t, mostCap, 1, 1, 4, 5)
	was := owner(t, 1, d, 0, 1)
	var l []api.Rec
	size := len(headFrame(api.Header{Host: 1, Epoch: 4}))
	for {
		r := trimRec(len(l), 1, len(l))
		if size += len(recFrame(r)); size > mostCap {
			break
		}
		l = append(l, r)
	}
	b := segment(api.Header{Host: 1, Epoch: 4}, l...)
	x, h, at, e := host.Put(d, was, l...)
	state := api.Implicit
	if len(b) == mostCap {
		state = api.Full
	}
	wantPut(t, len(l), x, h, at, e, with(d, 0, state, b), writing(was, api.Header{Host: 1, Epoch: 4}, 0, mostCap, len(b)), l...)
	x, h, at, e = host.Put(d, was, append(l, trimRec(0, 1, 1<<20))...)
	wantNoPut(t, "one more", x, h, at, e, api.ErrSpace)
	if zns.Used(d) != 0 {
		t.Error("something was written")
	}
}
