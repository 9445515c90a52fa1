package zns_test

import (
	"bytes"
	"math"
	"slices"
	"strings"
	"testing"

	"quickset/api"
	"quickset/zns"
)

// device is written as its zones' states (E, I, X, C, F: as the document names them, X is Explicit), each with its bytes behind, and its fence behind a stroke: "Iab/3".
func device(most, open, active int, zones ...string) api.Zns {
	d := api.Zns{Cap: most, Open: open, Active: active}
	for _, s := range zones {
		body, fence, _ := strings.Cut(s, "/")
		z := api.Zone{State: strings.IndexByte("EIXCF", body[0]), Data: []byte(body[1:])}
		for _, c := range []byte(fence) {
			z.Fence = z.Fence*10 + int(c-'0')
		}
		d.Z = append(d.Z, z)
	}
	return d
}

// same is told by another hand than the program's.
func same(d, x api.Zns) bool {
	if d.Cap != x.Cap || d.Open != x.Open || d.Active != x.Active || len(d.Z) != len(x.Z) {
		return false
	}
	for i := range d.Z {
		if !sameZone(d.Z[i], x.Z[i]) {
			return false
		}
	}
	return true
}

func sameZone(a, b api.Zone) bool {
	return a.State == b.State && a.Fence == b.Fence && string(a.Data) == string(b.Data)
}

func sameDone(a, b api.Done) bool {
	return a.E == b.E && a.At == b.At && string(a.Data) == string(b.Data)
}

func copyOf(d api.Zns) api.Zns {
	d.Z = slices.Clone(d.Z)
	for i := range d.Z {
		d.Z[i].Data = bytes.Clone(d.Z[i].Data)
	}
	return d
}

// wantDo looks whether the command c at d comes to want and done, and leaves d as it is.
func wantDo(t *testing.T, d api.Zns, c api.Cmd, want api.Zns, done api.Done) {
	t.Helper()
	before := copyOf(d)
	got, p := zns.Do(d, c)
	if !sameDone(p, done) || !same(got, want) {
		t.Errorf("%v at %v:\ngot  %v, %v\nwant %v, %v", c, before, got, p, want, done)
	}
	if !same(d, before) {
		t.Errorf("%v changed what was handed in: %v became %v", c, before, d)
	}
}

// P5.1

var bounds = []int{math.MinInt, -1, 0, 1, 2, 3, 63, 64, 65, 65535, 65536, 65537, math.MaxInt}

func TestNew(t *testing.T) {
	good := 0
	for _, zones := range bounds {
		for _, most := range bounds {
			for _, open := range bounds {
				for _, active := range bounds {
					d, e := zns.New(zones, most, open, active)
					if zones >= 1 && zones <= 64 && most >= 1 && most <= 65536 && open >= 1 && open <= active && active <= zones {
						good++
						wantNew(t, d, e, zones, most, open, active)
					} else if e != api.ErrArg || !same(d, api.Zns{}) {
						t.Errorf("New(%d, %d, %d, %d): got %v, %d, want ErrArg", zones, most, open, active, d, e)
					}
				}
			}
		}
	}
	if good == 0 {
		t.Error("none was good")
	}
}

func wantNew(t *testing.T, d api.Zns, e api.Errno, zones, most, open, active int) {
	t.Helper()
	if e != api.OK || d.Cap != most || d.Open != open || d.Active != active || len(d.Z) != zones {
		t.Fatalf("New(%d, %d, %d, %d): got %v, %d", zones, most, open, active, d, e)
	}
	for _, z := range d.Z {
		if !sameZone(z, api.Zone{}) {
			t.Fatalf("New(%d, %d, %d, %d): has the zone %v", zones, most, open, active, z)
		}
	}
	if e := zns.Check(d); e != api.OK || zns.Used(d) != 0 {
		t.Fatalf("New(%d, %d, %d, %d): Check tells %d, Used %d", zones, most, open, active, e, zns.Used(d))
	}
}

func TestCheckOfBounds(t *testing.T) {
	for _, zones := range []int{0, 1, 2, 3, 63, 64, 65, 1000} {
		for _, most := range bounds {
			for _, open := range bounds {
				for _, active := range bounds {
					want := api.ErrArg
					if zones >= 1 && zones <= 64 && most >= 1 && most <= 65536 && open >= 1 && open <= active && active <= zones {
						want = api.OK
					}
					d := api.Zns{Cap: most, Open: open, Active: active, Z: make([]api.Zone, zones)}
					if e := zns.Check(d); e != want {
						t.Errorf("%d zones, %d, %d, %d: got %d, want %d", zones, most, open, active, e, want)
					}
				}
			}
		}
	}
}

func TestCheckOfZones(t *testing.T) {
	for _, x := range []struct {
		d    api.Zns
		want api.Errno
	}{
		{device(3, 1, 2, "Iab", "Ca/7", "Fabc", "F", "E/12"), api.OK},
		{device(3, 1, 2, "Xab", "Ca", "E", "E"), api.OK},
		{device(3, 2, 2, "X", "Ia", "E"), api.OK},
		{device(3, 2, 3, "X", "Ia", "Cab"), api.OK},
		{device(3, 3, 3, "X", "Ia", "X"), api.OK},
		{device(3, 1, 3, "X", "Ia", "E"), api.ErrArg},    // two are open
		{device(3, 2, 3, "X", "Ia", "Iab"), api.ErrArg},  // three are open
		{device(3, 2, 2, "X", "Ia", "Cab"), api.ErrArg},  // three are active
		{device(3, 1, 1, "Ca", "Ca", "E"), api.ErrArg},   // two are active
		{device(3, 3, 3, "E", "Ea", "E"), api.ErrArg},    // Empty, with bytes
		{device(3, 3, 3, "E", "E", "I"), api.ErrArg},     // Implicit, without
		{device(3, 3, 3, "C", "E", "E"), api.ErrArg},     // Closed, without
		{device(3, 3, 3, "E", "Xabc", "E"), api.ErrArg},  // all bytes, and not Full
		{device(3, 3, 3, "E", "Fabcd", "E"), api.ErrArg}, // more than all
		{device(4, 3, 3, "E", "Fabcd", "E"), api.OK},
	} {
		if e := zns.Check(x.d); e != x.want {
			t.Errorf("%v: got %d, want %d", x.d, e, x.want)
		}
	}
	for _, bad := range []api.Zone{{State: -1}, {State: 5}, {State: math.MaxInt}, {Fence: -1}, {Fence: math.MinInt}} {
		for i := range 3 {
			d := device(3, 3, 3, "E", "X/4", "Ia")
			d.Z[i] = bad
			if e := zns.Check(d); e != api.ErrArg {
				t.Errorf("%v: got %d", d, e)
			}
		}
	}
}

func TestSame(t *testing.T) {
	d := device(3, 2, 3, "Xa", "Ia/2", "Cab", "E")
	all := []api.Zns{
		d,
		{},
		device(4, 2, 3, "Xa", "Ia/2", "Cab", "E"),
		device(3, 1, 3, "Xa", "Ia/2", "Cab", "E"),
		device(3, 2, 4, "Xa", "Ia/2", "Cab", "E"),
		device(3, 2, 3, "Xa", "Ia/2", "Cab"),
		device(3, 2, 3, "Xa", "Ia/2", "Cab", "E", "E"),
		device(3, 2, 3, "Ia", "Ia/2", "Cab", "E"),
		device(3, 2, 3, "Xa", "Ia/3", "Cab", "E"),
		device(3, 2, 3, "Xa", "Ia/2", "Cac", "E"),
		device(3, 2, 3, "Xa", "Ia/2", "Ca", "E"),
		device(3, 2, 3, "Xa", "Ia/2", "Cab", "F"),
		device(3, 2, 3, "Xa", "Ia/2", "Cab", "E/1"),
		device(3, 2, 3, "Ia/2", "Xa", "Cab", "E"),
	}
	for i, x := range all {
		for j, y := range all {
			if zns.Same(x, copyOf(y)) != (i == j) {
				t.Errorf("%v and %v: got %v", x, y, i != j)
			}
		}
	}
	none, empty := api.Zns{Z: []api.Zone{{}}}, api.Zns{Z: []api.Zone{{Data: []byte{}}}}
	if !zns.Same(none, empty) || !zns.Same(api.Zns{}, api.Zns{Z: []api.Zone{}}) {
		t.Error("a list that is nil is another one than an empty one")
	}
}

func TestUsed(t *testing.T) {
	for _, x := range []struct {
		d    api.Zns
		want int
	}{
		{api.Zns{}, 0},
		{device(3, 1, 1, "E", "E"), 0},
		{device(3, 1, 1, "F", "Iab"), 2},
		{device(3, 2, 3, "X", "Ia", "Cab", "Fabc", "Fa"), 7},
		{device(3, 1, 1, "Eabcde"), 5},
	} {
		if n := zns.Used(x.d); n != x.want {
			t.Errorf("%v: got %d, want %d", x.d, n, x.want)
		}
	}
	d, _ := zns.New(64, 65536, 1, 1)
	for i := range d.Z {
		d.Z[i] = api.Zone{State: api.Full, Data: make([]byte, 65536)}
	}
	if n := zns.Used(d); n != 64*65536 || zns.Check(d) != api.OK {
		t.Errorf("got %d", n)
	}
}

// P5.2

var kinds = []int{api.AppendC, api.ReadC, api.ResetC, api.FinishC, api.OpenC, api.CloseC, api.FenceC, api.TornC}

func TestCommandsThatMayNotBe(t *testing.T) {
	d := device(3, 2, 3, "Ia/2", "E/2", "Cab/2")
	refused := api.Done{E: api.ErrArg}
	for _, epoch := range []int{-1, 0, 2, 3} {
		for _, do := range []int{math.MinInt, -1, 0, 9, 10, math.MaxInt} {
			for i := -1; i < 4; i++ {
				wantDo(t, d, api.Cmd{Do: do, Zone: i, Epoch: epoch, Data: []byte("a"), N: 1}, d, refused)
			}
		}
		for _, do := range kinds {
			for _, i := range []int{math.MinInt, -1, 3, 4, 64, math.MaxInt} {
				wantDo(t, d, api.Cmd{Do: do, Zone: i, Epoch: epoch, Data: []byte("a"), N: 1}, d, refused)
			}
		}
	}
}

func TestDevicesThatMayNotBe(t *testing.T) {
	for _, d := range []api.Zns{
		{},
		{Cap: 3, Open: 1, Active: 1},
		device(0, 1, 1, "E"),
		device(65537, 1, 1, "E"),
		device(3, 0, 1, "E"),
		device(3, 2, 1, "E", "E"),
		device(3, 1, 2, "E"),
		device(3, 1, 2, "X", "X"),
		device(3, 1, 1, "X", "Ca"),
		device(3, 1, 2, "X", "Ea"),
		device(3, 1, 2, "X", "Fabcd"),
		{Cap: 3, Open: 1, Active: 1, Z: []api.Zone{{Fence: 1}, {Fence: -1}}},
		{Cap: 3, Open: 1, Active: 1, Z: make([]api.Zone, 65)},
	} {
		for _, do := range append(kinds, 0, 9) {
			for _, epoch := range []int{-1, 0, 1, 2} {
				wantDo(t, d, api.Cmd{Do: do, Epoch: epoch, Data: []byte("a")}, d, api.Done{E: api.ErrArg})
			}
		}
	}
}

func TestFence(t *testing.T) {
	d := device(3, 2, 3, "Ia/2", "X/5", "Cab/5", "F/5", "E/5")
	for i := range d.Z {
		fence := d.Z[i].Fence
		for _, epoch := range []int{math.MinInt, -1, 0, 1, 2, 3, 4, 5, 6, 7, math.MaxInt} {
			want, done := copyOf(d), api.Done{}
			if epoch > fence {
				want.Z[i].Fence = epoch
			} else {
				done.E = api.ErrFence
			}
			wantDo(t, d, api.Cmd{Do: api.FenceC, Zone: i, Epoch: epoch, Off: 7, N: 7, Data: []byte("a")}, want, done)
		}
	}
}

// Another epoch is told ahead of all that stands against the command itself; the epochs of other zones do not count.
func TestOtherEpochs(t *testing.T) {
	d := device(3, 1, 2, "Ia/2", "Fabc/4", "Cab/5", "E/6")
	for i := range d.Z {
		for _, do := range kinds {
			for _, epoch := range []int{math.MinInt, -2, -1, 0, 1, 2, 3, 4, 5, 6, 7, math.MaxInt} {
				if do == api.FenceC || epoch == d.Z[i].Fence {
					continue
				}
				for _, b := range []string{"", "a", "abcd"} {
					wantDo(t, d, api.Cmd{Do: do, Zone: i, Epoch: epoch, Off: -1, N: -1, Data: []byte(b)}, d, api.Done{E: api.ErrFence})
				}
			}
		}
	}
}

// oneOf is a case: a command at a device of few zones, and the zones behind it.
type oneOf struct {
	zones string // before
	c     api.Cmd
	want  string // behind ("": as before)
	done  api.Done
}

func wantEach(t *testing.T, most, open, active int, l []oneOf) {
	t.Helper()
	for _, x := range l {
		if x.want == "" {
			x.want = x.zones
		}
		d := device(most, open, active, strings.Fields(x.zones)...)
		if zns.Check(d) != api.OK {
			t.Fatalf("%s may not be", x.zones)
		}
		wantDo(t, d, x.c, device(most, open, active, strings.Fields(x.want)...), x.done)
	}
}

func adds(i int, b string) api.Cmd { return api.Cmd{Do: api.AppendC, Zone: i, Data: []byte(b)} }

func tears(i int, b string, n int) api.Cmd {
	return api.Cmd{Do: api.TornC, Zone: i, Data: []byte(b), N: n}
}

func opens(i int) api.Cmd { return api.Cmd{Do: api.OpenC, Zone: i} }

func fails(e api.Errno) api.Done { return api.Done{E: e} }

func TestAppend(t *testing.T) {
	at := func(n int) api.Done { return api.Done{At: n} }
	wantEach(t, 3, 2, 3, []oneOf{
		{"E E E E", adds(1, "ab"), "E Iab E E", at(0)},
		{"E Ia E E", adds(1, "b"), "E Iab E E", at(1)},
		{"E Ia E E", adds(1, "bc"), "E Fabc E E", at(1)},
		{"E X E E", adds(1, "a"), "E Xa E E", at(0)},
		{"E Xab E E", adds(1, "c"), "E Fabc E E", at(2)},
		{"E Ca E E", adds(1, "b"), "E Iab E E", at(1)},
		{"E E E E", adds(3, "abc"), "E E E Fabc", at(0)},
		{"Ia Ib E E", adds(1, "c"), "Ia Ibc E E", at(1)},     // open already
		{"Ia Ib E E", adds(2, "c"), "Ca Ib Ic E", at(0)},     // the first one is closed
		{"X Ib E E", adds(2, "c"), "X Cb Ic E", at(0)},       // the first Implicit one
		{"E Ib E Xa", adds(0, "c"), "Ic Cb E Xa", at(0)},     // it stands behind
		{"E E Ib Ia", adds(0, "abc"), "Fabc E Cb Ia", at(0)}, // though it is Full at once
		{"Ia Ib Cc E", adds(2, "d"), "Ca Ib Icd E", at(1)},   // active already
		{"Ia Ib Cc F", adds(2, "de"), "Ca Ib Fcde F", at(1)},
		{"Ca Cb Cc F", adds(1, "d"), "Ca Ibd Cc F", at(1)},
		{"X X E E", adds(2, "c"), "", fails(api.ErrOpen)},
		{"X X Cc E", adds(2, "d"), "", fails(api.ErrOpen)},
		{"X X E E", adds(2, "abc"), "", fails(api.ErrOpen)},
		{"Ia Ib Cc E", adds(3, "d"), "", fails(api.ErrActive)},
		{"X X Cc E", adds(3, "d"), "", fails(api.ErrActive)}, // ahead of ErrOpen
		{"Ca Cb Cc E", adds(3, "abc"), "", fails(api.ErrActive)},
		{"Ca Cb Cc E", adds(3, ""), "", fails(api.ErrArg)}, // the zone's errors ahead of both
		{"Ca Cb Cc E", adds(3, "abcd"), "", fails(api.ErrFull)},
		{"Ca Cb Cc F", adds(3, "a"), "", fails(api.ErrState)},
		{"Ca Cb Cc F", adds(3, ""), "", fails(api.ErrArg)},
		{"X X Cab E", adds(2, "cd"), "", fails(api.ErrFull)},
		{"X X Fa E", adds(2, "d"), "", fails(api.ErrState)},
		{"Ia Ib Cab E", adds(2, "cd"), "", fails(api.ErrFull)}, // none is closed for it
		{"Xab E E E", adds(0, "cd"), "", fails(api.ErrFull)},
	})
}

func TestTorn(t *testing.T) {
	ok := api.Done{}
	wantEach(t, 3, 2, 3, []oneOf{
		{"E E E E", tears(1, "ab", 1), "E Ia E E", ok},
		{"E E E E", tears(1, "ab", 2), "E Iab E E", ok},
		{"E E E E", tears(1, "ab", 0), "", ok},
		{"E Xa E E", tears(1, "bc", 1), "E Xab E E", ok},
		{"E Xa E E", tears(1, "bc", 2), "E Fabc E E", ok},
		{"E Xa E E", tears(1, "bc", 0), "", ok},
		{"E Ia E E", tears(1, "bc", 0), "", ok},
		{"E Ca E E", tears(1, "bc", 0), "", ok}, // still Closed
		{"E Ca E E", tears(1, "bc", 1), "E Iab E E", ok},
		{"Ia Ib E E", tears(2, "cd", 1), "Ca Ib Ic E", ok},
		{"Ia Ib Cc E", tears(2, "d", 1), "Ca Ib Icd E", ok},
		{"Ia Ib E E", tears(2, "cde", 3), "Ca Ib Fcde E", ok},
		{"Ia Ib E E", tears(2, "cd", 0), "", ok}, // none is closed for nothing
		{"Ia Ib Cc E", tears(2, "d", 0), "", ok},
		{"E Ia E E", tears(1, "bc", -1), "", fails(api.ErrArg)},
		{"E Ia E E", tears(1, "bc", 3), "", fails(api.ErrArg)},
		{"E Ia E E", tears(1, "bc", math.MinInt), "", fails(api.ErrArg)},
		{"E Ia E E", tears(1, "bc", math.MaxInt), "", fails(api.ErrArg)},
		{"Ia Ib E E", tears(2, "bc", 3), "", fails(api.ErrArg)}, // none is closed for it
		{"E Ia E E", tears(1, "", 0), "", fails(api.ErrArg)},
		{"E Ia E E", tears(1, "bcd", 0), "", fails(api.ErrFull)}, // all must have room
		{"E Ia E E", tears(1, "bcd", 4), "", fails(api.ErrFull)},
		{"E Fa E E", tears(1, "b", 0), "", fails(api.ErrState)},
		{"X X E E", tears(2, "c", 1), "", fails(api.ErrOpen)},
		{"X X E E", tears(2, "c", 0), "", fails(api.ErrOpen)},
		{"X X Cc E", tears(2, "d", 1), "", fails(api.ErrOpen)},
		{"X X Cc E", tears(3, "d", 1), "", fails(api.ErrActive)},
		{"X X Cc E", tears(3, "d", 0), "", fails(api.ErrActive)},
		{"Ca Cb Cc E", tears(3, "d", 1), "", fails(api.ErrActive)},
		{"Ca Cb Cc E", tears(3, "d", 2), "", fails(api.ErrActive)}, // ahead of how many stay
		{"X X E E", tears(2, "c", -1), "", fails(api.ErrOpen)},
		{"Ca Cb Cc E", tears(3, "abcd", 1), "", fails(api.ErrFull)},
		{"Ca Cb Cc E", tears(3, "", 1), "", fails(api.ErrArg)},
		{"X X Fa E", tears(2, "d", 1), "", fails(api.ErrState)},
	})
}

func TestRead(t *testing.T) {
	reads := func(i, off, n int) api.Cmd { return api.Cmd{Do: api.ReadC, Zone: i, Off: off, N: n} }
	tells := func(s string) api.Done { return api.Done{Data: []byte(s)} }
	bad := fails(api.ErrArg)
	wantEach(t, 4, 2, 3, []oneOf{
		{"Iabc Xd Ce Fghi E", reads(0, 0, 3), "", tells("abc")},
		{"Iabc Xd Ce Fghi E", reads(0, 1, 1), "", tells("b")},
		{"Iabc Xd Ce Fghi E", reads(0, 3, 0), "", tells("")},
		{"Iabc Xd Ce Fghi E", reads(1, 0, 1), "", tells("d")},
		{"Iabc Xd Ce Fghi E", reads(2, 0, 1), "", tells("e")},
		{"Iabc Xd Ce Fghi E", reads(3, 1, 2), "", tells("hi")},
		{"Iabc Xd Ce Fghi E", reads(4, 0, 0), "", tells("")},
		{"Iabc Xd Ce Fghi E", reads(4, 0, 1), "", bad},
		{"Iabc Xd Ce Fghi E", reads(0, 0, 4), "", bad},
		{"Iabc Xd Ce Fghi E", reads(0, 3, 1), "", bad},
		{"Iabc Xd Ce Fghi E", reads(0, -1, 1), "", bad},
		{"Iabc Xd Ce Fghi E", reads(0, 1, -1), "", bad},
		{"Iabc Xd Ce Fghi E", reads(0, math.MaxInt, math.MaxInt), "", bad},
		{"Iabc Xd Ce Fghi E", reads(0, 1, math.MaxInt), "", bad},
		{"Iabc Xd Ce Fghi E", reads(0, math.MinInt, math.MinInt), "", bad},
	})
}

func TestStates(t *testing.T) {
	ok := api.Done{}
	resets := func(i int) api.Cmd { return api.Cmd{Do: api.ResetC, Zone: i} }
	finishes := func(i int) api.Cmd { return api.Cmd{Do: api.FinishC, Zone: i} }
	closes := func(i int) api.Cmd { return api.Cmd{Do: api.CloseC, Zone: i} }
	wantEach(t, 3, 2, 3, []oneOf{
		{"Ia Xb Cc Fd", resets(0), "E Xb Cc Fd", ok},
		{"Ia Xb Cc Fd", resets(1), "Ia E Cc Fd", ok},
		{"Ia Xb Cc Fd", resets(2), "Ia Xb E Fd", ok},
		{"Ia Xb Cc Fd", resets(3), "Ia Xb Cc E", ok},
		{"Ia Xb Cc E", resets(3), "", ok},
		{"Ia Xb Cc Fd", finishes(0), "Fa Xb Cc Fd", ok},
		{"Ia Xb Cc Fd", finishes(1), "Ia Fb Cc Fd", ok},
		{"Ia Xb Cc Fd", finishes(2), "Ia Xb Fc Fd", ok},
		{"Ia Xb Cc Fd", finishes(3), "", ok},
		{"Ia Xb Cc E", finishes(3), "Ia Xb Cc F", ok}, // it was not to be opened
		{"Ia Xb Cc Fd", closes(0), "Ca Xb Cc Fd", ok},
		{"Ia Xb Cc Fd", closes(1), "Ia Cb Cc Fd", ok},
		{"Ia X Cc Fd", closes(1), "Ia E Cc Fd", ok},
		{"Ia Xb Cc Fd", closes(2), "", ok},
		{"Ia Xb Cc Fd", closes(3), "", fails(api.ErrState)},
		{"Ia Xb Cc E", closes(3), "", fails(api.ErrState)},
	})
}

func TestOpen(t *testing.T) {
	ok := api.Done{}
	wantEach(t, 3, 2, 3, []oneOf{
		{"E E E E", opens(2), "E E X E", ok},
		{"Ia E E E", opens(0), "Xa E E E", ok},
		{"X E E E", opens(0), "", ok},
		{"Ca E E E", opens(0), "Xa E E E", ok},
		{"Ia Ib E E", opens(0), "Xa Ib E E", ok}, // open already: none is closed
		{"Xa Ib E E", opens(1), "Xa Xb E E", ok},
		{"Ia Ib E E", opens(3), "Ca Ib E X", ok},
		{"Xa Ib E E", opens(3), "Xa Cb E X", ok},
		{"Ia Ib Cc E", opens(2), "Ca Ib Xc E", ok},
		{"X X E E", opens(3), "", fails(api.ErrOpen)},
		{"X X Cc E", opens(2), "", fails(api.ErrOpen)},
		{"X X Cc E", opens(3), "", fails(api.ErrActive)},
		{"Ca Ib Cc E", opens(3), "", fails(api.ErrActive)},
		{"Ca Ib Cc F", opens(3), "", fails(api.ErrState)},
		{"X X Cc F", opens(3), "", fails(api.ErrState)},
		{"E F E E", opens(1), "", fails(api.ErrState)},
	})
}

// Where as many may be open as active, a Closed zone does not count as open, but as active.
func TestOpenAndActiveAreCountedApart(t *testing.T) {
	wantEach(t, 3, 1, 1, []oneOf{
		{"Ca E", adds(0, "b"), "Iab E", api.Done{At: 1}},
		{"Ca E", adds(1, "b"), "", fails(api.ErrActive)},
		{"Ia E", adds(1, "b"), "", fails(api.ErrActive)}, // it is Implicit, but would stay active
		{"Fa E", adds(1, "b"), "Fa Ib", api.Done{}},
	})
	wantEach(t, 3, 2, 2, []oneOf{
		{"Ca X E", opens(0), "Xa X E", api.Done{}},
		{"Ca X E", opens(2), "", fails(api.ErrActive)},
		{"X E E", opens(2), "X E X", api.Done{}},
	})
	wantEach(t, 3, 1, 2, []oneOf{
		{"Ia E E", opens(2), "Ca E X", api.Done{}},
		{"E E Ia", adds(0, "b"), "Ib E Ca", api.Done{}},
		{"X E E", adds(2, "b"), "", fails(api.ErrOpen)},
	})
}

func TestExample(t *testing.T) {
	d, e := zns.New(2, 4, 1, 2)
	if e != api.OK {
		t.Fatal(e)
	}
	d, p := zns.Do(d, api.Cmd{Do: api.FenceC, Zone: 1, Epoch: 5})
	if !sameDone(p, api.Done{}) {
		t.Fatalf("got %v", p)
	}
	wantDo(t, d, api.Cmd{Do: api.AppendC, Zone: 1, Epoch: 4, Data: []byte("ab")}, d, fails(api.ErrFence))
	wantDo(t, d, api.Cmd{Do: api.AppendC, Zone: 1, Epoch: 5, Data: []byte("ab")}, device(4, 1, 2, "E", "Iab/5"), api.Done{})
}

func TestLargest(t *testing.T) {
	d, e := zns.New(64, 65536, 64, 64)
	if e != api.OK {
		t.Fatal(e)
	}
	b := bytes.Repeat([]byte("abcdefg"), 10000)
	for i := range 64 {
		for _, x := range []struct {
			n    int
			done api.Done
		}{{65537, fails(api.ErrFull)}, {65535, api.Done{}}, {2, fails(api.ErrFull)}, {1, api.Done{At: 65535}}, {1, fails(api.ErrState)}} {
			behind, p := zns.Do(d, api.Cmd{Do: api.AppendC, Zone: i, Data: b[:x.n]})
			if !sameDone(p, x.done) {
				t.Fatalf("zone %d, %d bytes: got %v, want %v", i, x.n, p, x.done)
			}
			d = behind
		}
	}
	if zns.Check(d) != api.OK || zns.Used(d) != 64*65536 {
		t.Errorf("got %d, %d", zns.Check(d), zns.Used(d))
	}
}
