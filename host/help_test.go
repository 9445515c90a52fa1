package host_test

import (
	"bytes"
	"encoding/binary"
	"hash/crc32"
	"slices"
	"testing"

	"quickset/api"
	"quickset/host"
	"quickset/zns"
)

const (
	mostHosts = 8
	mostCopy  = 256
	mostTrim  = 1 << 20
	mostLba   = 1 << 40
	mostCap   = 65536
	mostExts  = 10000
)

// numbers, vector and frame are written by another hand than the program's.
func numbers(l ...int) []byte {
	var b []byte
	for _, n := range l {
		b = binary.AppendUvarint(b, uint64(n))
	}
	return b
}

func vector(x []byte) []byte { return slices.Concat(numbers(len(x)), x) }

func frame(x []byte) []byte {
	sum := crc32.Checksum(x, crc32.MakeTable(crc32.Castagnoli))
	return binary.LittleEndian.AppendUint32(vector(x), sum)
}

func headFrame(h api.Header) []byte { return frame(numbers(0, h.Host, h.Epoch, h.Seq)) }

func aheadOfData(r api.Rec) []byte {
	return numbers(r.Kind, r.Lba, r.N, r.Ver, r.Zone, r.Off, len(r.Data))
}

func recFrame(r api.Rec) []byte { return frame(slices.Concat(aheadOfData(r), r.Data)) }

// placeOf is where in its frame a record's Data stands.
func placeOf(r api.Rec) int {
	n := len(aheadOfData(r))
	return len(numbers(n+len(r.Data))) + n
}

// framesOf are records' frames, of which the first one begins at from, and where each one's Data stands.
func framesOf(from int, l ...api.Rec) (b []byte, at []int) {
	for _, r := range l {
		at = append(at, from+len(b)+placeOf(r))
		b = append(b, recFrame(r)...)
	}
	return b, at
}

func segment(h api.Header, l ...api.Rec) []byte {
	b, _ := framesOf(0, l...)
	return slices.Concat(headFrame(h), b)
}

// text makes n bytes that look like no pattern, always the same ones.
func text(seed, n int) []byte {
	b := make([]byte, n)
	s := uint32(seed)*2654435761 + 12345
	for i := range b {
		s = s*1664525 + 1013904223
		b[i] = byte(s >> 24)
	}
	return b
}

func write(lba, n, seed int) api.Io {
	return api.Io{Do: api.WriteO, Lba: lba, N: n, Data: text(seed, n*api.Block)}
}

func trim(lba, n int) api.Io { return api.Io{Do: api.TrimO, Lba: lba, N: n} }

func data(lba, n, ver int) api.Rec {
	return api.Rec{Kind: api.DataR, Lba: lba, N: n, Ver: ver, Data: text(ver, n*api.Block)}
}

func trimRec(lba, n, ver int) api.Rec { return api.Rec{Kind: api.TrimR, Lba: lba, N: n, Ver: ver} }

func move(lba, n, ver, zone, off int) api.Rec {
	r := data(lba, n, ver)
	r.Kind, r.Zone, r.Off = api.MoveR, zone, off
	return r
}

func place(lba, n, ver, zone, off int) api.Rec {
	return api.Rec{Kind: api.MapR, Lba: lba, N: n, Ver: ver, Zone: zone, Off: off}
}

func check(ver int, m ...api.Ext) api.Rec {
	var b []byte
	for _, x := range m {
		b = append(b, numbers(x.Lba, x.N, x.Ver, x.Zone+1, x.Off)...)
	}
	return api.Rec{Kind: api.CheckR, Ver: ver, Data: b}
}

// someRecs are records of each kind.
func someRecs() []api.Rec {
	return []api.Rec{
		data(3, 2, 7),
		trimRec(5, 1, 8),
		place(1, 2, 9, 2, 64),
		{Kind: api.CheckR, Ver: 1, Data: []byte("no map")},
		move(0, 1, 2, 3, 4),
	}
}

// wrongRec is a record that may not be, and what is wrong with it.
type wrongRec struct {
	r api.Rec
	e api.Errno
}

func wrongRecs() []wrongRec {
	long := make([]byte, 32769)
	return []wrongRec{
		{api.Rec{}, api.ErrArg},
		{api.Rec{Kind: 6, N: 1}, api.ErrArg},
		{api.Rec{Kind: api.DataR, N: 1}, api.ErrArg},
		{api.Rec{Kind: api.TrimR, N: 1, Ver: -1}, api.ErrArg},
		{api.Rec{Kind: api.TrimR, N: 1, Lba: -1}, api.ErrArg},
		{api.Rec{Kind: api.TrimR, N: 1, Zone: 1}, api.ErrArg},
		{api.Rec{Kind: api.TrimR, Lba: mostLba, N: 1}, api.ErrArg},
		{api.Rec{Kind: api.MapR}, api.ErrArg},
		{api.Rec{Kind: api.CheckR, Data: long}, api.ErrLong},
		{api.Rec{Kind: api.CheckR, N: 1, Data: long}, api.ErrArg},
		{api.Rec{Kind: api.MoveR, N: 257, Data: make([]byte, 257*16)}, api.ErrArg},
	}
}

func sameRec(a, b api.Rec) bool {
	return a.Kind == b.Kind && a.Lba == b.Lba && a.N == b.N && a.Ver == b.Ver && a.Zone == b.Zone && a.Off == b.Off && bytes.Equal(a.Data, b.Data)
}

func samePack(a, b api.Pack) bool {
	return a.H == b.H && a.Zone == b.Zone && a.Cap == b.Cap && a.At == b.At && bytes.Equal(a.Buf, b.Buf) && slices.EqualFunc(a.L, b.L, sameRec)
}

func sameHost(a, b api.Host) bool {
	return a.Id == b.Id && slices.Equal(a.Own, b.Own) && slices.Equal(a.S, b.S) && a.Open == b.Open && samePack(a.P, b.P) &&
		slices.Equal(a.M, b.M) && a.Ver == b.Ver && a.Seq == b.Seq
}

func sameZone(a, b api.Zone) bool {
	return a.State == b.State && a.Fence == b.Fence && bytes.Equal(a.Data, b.Data)
}

func sameDevice(a, b api.Zns) bool {
	return a.Cap == b.Cap && a.Open == b.Open && a.Active == b.Active && slices.EqualFunc(a.Z, b.Z, sameZone)
}

func wantHost(t *testing.T, what any, h api.Host, e api.Errno, want api.Host) {
	t.Helper()
	if !sameHost(h, want) || e != api.OK {
		t.Errorf("%v: got %v, %d, want %v", what, h, e, want)
	}
}

// wantNoHost wants an error, and nothing beside it.
func wantNoHost(t *testing.T, what any, h api.Host, e, want api.Errno) {
	t.Helper()
	if !sameHost(h, api.Host{}) || e != want {
		t.Errorf("%v: got %v, %d, want %d", what, h, e, want)
	}
}

// device is a device whose zones have these bytes.
func device(l ...[]byte) api.Zns {
	d := api.Zns{Cap: mostCap, Open: 1, Active: len(l)}
	for _, b := range l {
		z := api.Zone{Data: b}
		switch {
		case len(b) == mostCap:
			z.State = api.Full
		case len(b) > 0:
			z.State = api.Closed
		}
		d.Z = append(d.Z, z)
	}
	return d
}

// wrongDevices are devices that may not be, of zones in which all is whole.
func wrongDevices() []api.Zns {
	b := segment(api.Header{}, data(0, 1, 5))
	l := []api.Zns{{}, {Cap: 100, Open: 1, Active: 1}}
	change := func(f func(d *api.Zns)) {
		d := device(nil, b, b)
		f(&d)
		l = append(l, d)
	}
	change(func(d *api.Zns) { d.Cap = 0 })
	change(func(d *api.Zns) { d.Cap = mostCap + 1 })
	change(func(d *api.Zns) { d.Cap = len(b) - 1 })
	change(func(d *api.Zns) { d.Open = 0 })
	change(func(d *api.Zns) { d.Open = 4 })
	change(func(d *api.Zns) { d.Active = 4 })
	change(func(d *api.Zns) { d.Active = 1 })
	change(func(d *api.Zns) { d.Z[2].State = api.Full + 1 })
	change(func(d *api.Zns) { d.Z[1].State = api.Empty })
	change(func(d *api.Zns) { d.Z[2].Fence = -1 })
	change(func(d *api.Zns) { d.Z[1].State, d.Z[2].State = api.Implicit, api.Explicit })
	change(func(d *api.Zns) { d.Z = slices.Concat(d.Z, make([]api.Zone, 62)) })
	return l
}

// do does commands, which must all be OK.
func do(t *testing.T, d api.Zns, l ...api.Cmd) api.Zns {
	t.Helper()
	d, done := zns.All(d, l...)
	for i, x := range done {
		if x.E != api.OK {
			t.Fatalf("%v: %v", l[i], x)
		}
	}
	return d
}

// fenced is a device whose zones have these fences.
func fenced(t *testing.T, most, open, active int, fences ...int) api.Zns {
	t.Helper()
	d, e := zns.New(len(fences), most, open, active)
	if e != api.OK {
		t.Fatal(e)
	}
	for zone, epoch := range fences {
		if epoch > 0 {
			d = do(t, d, api.Cmd{Do: api.FenceC, Zone: zone, Epoch: epoch})
		}
	}
	return d
}

// owner is a host anew, which has zones, each under the epoch that is its fence's, and all blocks.
func owner(t *testing.T, id int, d api.Zns, zones ...int) api.Host {
	t.Helper()
	h, e := host.New(id, d)
	if e != api.OK {
		t.Fatal(e)
	}
	for _, zone := range zones {
		h = gained(t, h, zone, d.Z[zone].Fence)
	}
	return withBlocks(t, h, 0, mostLba, 1)
}

func gained(t *testing.T, h api.Host, zone, epoch int) api.Host {
	t.Helper()
	h, e := host.Gain(h, zone, epoch)
	if e != api.OK {
		t.Fatal(e)
	}
	return h
}

func withBlocks(t *testing.T, h api.Host, from, to, epoch int) api.Host {
	t.Helper()
	h, e := host.Blocks(h, from, to, epoch)
	if e != api.OK {
		t.Fatal(e)
	}
	return h
}

// put puts records, which must go.
func put(t *testing.T, d api.Zns, h api.Host, l ...api.Rec) (api.Zns, api.Host, []int) {
	t.Helper()
	d, h, at, e := host.Put(d, h, l...)
	if e != api.OK {
		t.Fatal(e)
	}
	return d, h, at
}

// commit does requests, which must go.
func commit(t *testing.T, d api.Zns, h api.Host, l ...api.Io) (api.Zns, api.Host) {
	t.Helper()
	d, h, e := host.Commit(d, h, l...)
	if e != api.OK {
		t.Fatal(e)
	}
	return d, h
}
