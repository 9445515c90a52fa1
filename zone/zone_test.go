package zone_test

import (
	"bytes"
	"math"
	"slices"
	"testing"

	"quickset/api"
	"quickset/zone"
)

const most = 4 // bytes, of the small zones

// mayBe tells it by another hand than the program's: from how many bytes to how many each state has.
func mayBe(z api.Zone, most int) bool {
	if most < 1 || most > 65536 || z.Fence < 0 {
		return false
	}
	bounds := map[int][2]int{0: {0, 0}, 1: {1, most - 1}, 2: {0, most - 1}, 3: {1, most - 1}, 4: {0, most}}
	x, ok := bounds[z.State]
	return ok && x[0] <= len(z.Data) && len(z.Data) <= x[1]
}

// text makes n bytes, no two neighbours alike, from first on.
func text(first byte, n int) []byte {
	b := make([]byte, n)
	for i := range b {
		b[i] = first + byte(i%20)
	}
	return b
}

// anyZones are zones of few bytes, those that may not be among them.
func anyZones() []api.Zone {
	var l []api.Zone
	for _, state := range []int{math.MinInt, -1, 0, 1, 2, 3, 4, 5, 6, math.MaxInt} {
		for _, fence := range []int{math.MinInt, -1, 0, 1, 7, math.MaxInt} {
			for n := range most + 3 {
				l = append(l, api.Zone{State: state, Fence: fence, Data: text('a', n)})
			}
		}
	}
	return l
}

// goodZones are those that may be, with room for most bytes.
func goodZones() []api.Zone {
	return slices.DeleteFunc(anyZones(), func(z api.Zone) bool { return !mayBe(z, most) })
}

func badZones() []api.Zone {
	return slices.DeleteFunc(anyZones(), func(z api.Zone) bool { return mayBe(z, most) })
}

func same(a, b api.Zone) bool {
	return a.State == b.State && a.Fence == b.Fence && bytes.Equal(a.Data, b.Data)
}

func none(z api.Zone) bool { return z.State == 0 && z.Fence == 0 && len(z.Data) == 0 }

// wantZone looks whether a call that z was handed to came to want, or to the error e alone.
func wantZone(t *testing.T, call string, z, got api.Zone, e api.Errno, want api.Zone, wantE api.Errno) {
	t.Helper()
	if wantE != api.OK {
		want = api.Zone{}
	}
	if e != wantE || !same(got, want) {
		t.Errorf("%s of %v: got %v, %d, want %v, %d", call, z, got, e, want, wantE)
	}
}

// P4.1

func TestCheck(t *testing.T) {
	for _, room := range []int{math.MinInt, -1, 0, 1, 2, 3, 4, 5, 6, 65535, 65536, 65537, math.MaxInt} {
		for _, z := range anyZones() {
			want := api.ErrArg
			if mayBe(z, room) {
				want = api.OK
			}
			if e := zone.Check(z, room); e != want {
				t.Errorf("%v with room for %d: got %d, want %d", z, room, e, want)
			}
		}
	}
	if len(goodZones()) != 4*(1+3+4+3+5) {
		t.Errorf("%d zones may be", len(goodZones()))
	}
}

func TestCheckGreat(t *testing.T) {
	for _, x := range []struct {
		state, n int
		e        api.Errno
	}{
		{api.Implicit, 65535, api.OK}, {api.Implicit, 65536, api.ErrArg},
		{api.Explicit, 65535, api.OK}, {api.Explicit, 65536, api.ErrArg},
		{api.Closed, 65535, api.OK}, {api.Closed, 65536, api.ErrArg},
		{api.Full, 65535, api.OK}, {api.Full, 65536, api.OK}, {api.Full, 65537, api.ErrArg},
		{api.Empty, 65536, api.ErrArg},
	} {
		if e := zone.Check(api.Zone{State: x.state, Data: text(0, x.n)}, 65536); e != x.e {
			t.Errorf("state %d, %d bytes: got %d, want %d", x.state, x.n, e, x.e)
		}
	}
	if e := zone.Check(api.Zone{Data: []byte{}}, 1); e != api.OK {
		t.Errorf("no bytes that are not nil: got %d", e)
	}
}

// Of a zone that may not be ErrArg is told, whatever else is wrong.
func TestZonesThatMayNotBe(t *testing.T) {
	wrong := func(z api.Zone, most int) {
		t.Helper()
		for _, b := range [][]byte{nil, {1}, text(0, 100)} {
			if x, at, e := zone.Append(z, most, b); !none(x) || at != 0 || e != api.ErrArg {
				t.Errorf("Append to %v, room for %d: got %v, %d, %d", z, most, x, at, e)
			}
			for _, keep := range []int{-1, 0, 1, 101} {
				if x, e := zone.Torn(z, most, b, keep); !none(x) || e != api.ErrArg {
					t.Errorf("Torn of %v, room for %d: got %v, %d", z, most, x, e)
				}
			}
		}
		if x, e := zone.Open(z, most); !none(x) || e != api.ErrArg {
			t.Errorf("Open of %v, room for %d: got %v, %d", z, most, x, e)
		}
	}
	for _, z := range badZones() {
		wrong(z, most)
	}
	for _, z := range goodZones() {
		for _, room := range []int{math.MinInt, -1, 0, 65537, math.MaxInt} {
			wrong(z, room)
		}
	}
	wrong(api.Zone{State: api.Full, Data: text(0, 3)}, 2)
	wrong(api.Zone{State: api.Explicit, Data: text(0, 3)}, 3)
}

// P4.2

func TestAppend(t *testing.T) {
	for _, z := range goodZones() {
		for n := range most + 3 {
			b := text('p', n)
			want, wantE := api.Zone{State: api.Implicit, Fence: z.Fence, Data: slices.Concat(z.Data, b)}, api.OK
			switch {
			case n == 0:
				wantE = api.ErrArg
			case z.State == api.Full:
				wantE = api.ErrState
			case len(z.Data)+n > most:
				wantE = api.ErrFull
			case len(z.Data)+n == most:
				want.State = api.Full
			case z.State == api.Explicit:
				want.State = api.Explicit
			}
			wantAt := len(z.Data)
			if wantE != api.OK {
				wantAt = 0
			}
			got, at, e := zone.Append(z, most, b)
			wantZone(t, "Append", z, got, e, want, wantE)
			if at != wantAt {
				t.Errorf("Append of %d bytes to %v: at %d, want %d", n, z, at, wantAt)
			}
		}
	}
}

func TestAppendExample(t *testing.T) {
	z, at, e := zone.Append(api.Zone{}, 3, []byte("ab"))
	if !same(z, api.Zone{State: api.Implicit, Data: []byte("ab")}) || at != 0 || e != api.OK {
		t.Errorf("ab: got %v, %d, %d", z, at, e)
	}
	if x, at, e := zone.Append(z, 3, []byte("cd")); !none(x) || at != 0 || e != api.ErrFull {
		t.Errorf("cd: got %v, %d, %d", x, at, e)
	}
	z, at, e = zone.Append(z, 3, []byte("c"))
	if !same(z, api.Zone{State: api.Full, Data: []byte("abc")}) || at != 2 || e != api.OK {
		t.Errorf("c: got %v, %d, %d", z, at, e)
	}
}

func TestAppendErrorsInOrder(t *testing.T) {
	full := api.Zone{State: api.Full, Fence: 3, Data: []byte("abc")}
	finished := api.Zone{State: api.Full, Fence: 3}
	for i, x := range []struct {
		z api.Zone
		b []byte
		e api.Errno
	}{
		{full, nil, api.ErrArg},
		{full, []byte{}, api.ErrArg},
		{full, []byte("d"), api.ErrState},
		{full, []byte("de"), api.ErrState},
		{finished, []byte("d"), api.ErrState},
		{finished, text(0, 100), api.ErrState},
		{finished, nil, api.ErrArg},
		{api.Zone{}, text(0, 100), api.ErrFull},
	} {
		if z, at, e := zone.Append(x.z, most, x.b); !none(z) || at != 0 || e != x.e {
			t.Errorf("%d: Append: got %v, %d, %d, want error %d", i, z, at, e, x.e)
		}
		for _, keep := range []int{math.MinInt, -1, 0, 1, 101, math.MaxInt} {
			if z, e := zone.Torn(x.z, most, x.b, keep); !none(z) || e != x.e {
				t.Errorf("%d: Torn, %d stay: got %v, %d, want error %d", i, keep, z, e, x.e)
			}
		}
	}
}

func TestAppendGreat(t *testing.T) {
	b := text(0, 65537)
	z, at, e := zone.Append(api.Zone{Fence: 9}, 65536, b[:65535])
	if !same(z, api.Zone{State: api.Implicit, Fence: 9, Data: b[:65535]}) || at != 0 || e != api.OK {
		t.Errorf("got state %d, %d bytes, %d, %d", z.State, len(z.Data), at, e)
	}
	if x, _, e := zone.Append(z, 65536, b[65535:]); !none(x) || e != api.ErrFull {
		t.Errorf("got state %d, %d bytes, %d", x.State, len(x.Data), e)
	}
	z, at, e = zone.Append(z, 65536, b[65535:65536])
	if !same(z, api.Zone{State: api.Full, Fence: 9, Data: b[:65536]}) || at != 65535 || e != api.OK {
		t.Errorf("got state %d, %d bytes, %d, %d", z.State, len(z.Data), at, e)
	}
	if x, at, e := zone.Append(api.Zone{}, 65536, b[:65536]); x.State != api.Full || at != 0 || e != api.OK {
		t.Errorf("at once: got state %d, %d, %d", x.State, at, e)
	}
	if x, at, e := zone.Append(api.Zone{}, 65536, b); !none(x) || at != 0 || e != api.ErrFull {
		t.Errorf("too many: got state %d, %d, %d", x.State, at, e)
	}
	if x, at, e := zone.Append(api.Zone{}, 1, b[:1]); x.State != api.Full || at != 0 || e != api.OK {
		t.Errorf("room for one: got state %d, %d, %d", x.State, at, e)
	}
}

func TestTorn(t *testing.T) {
	for _, z := range goodZones() {
		for n := range most + 3 {
			b := text('p', n)
			_, _, appendE := zone.Append(z, most, b)
			for _, keep := range []int{math.MinInt, -1, 0, 1, 2, 3, 4, 5, 6, 7, math.MaxInt} {
				want, wantE := z, appendE
				switch {
				case appendE != api.OK:
				case keep < 0 || keep > n:
					wantE = api.ErrArg
				case keep > 0:
					want = tornZone(z, b[:keep])
				}
				got, e := zone.Torn(z, most, b, keep)
				wantZone(t, "Torn", z, got, e, want, wantE)
			}
		}
	}
}

// tornZone is z, which has room, with b behind it.
func tornZone(z api.Zone, b []byte) api.Zone {
	z.Data = slices.Concat(z.Data, b)
	switch {
	case len(z.Data) == most:
		z.State = api.Full
	case z.State != api.Explicit:
		z.State = api.Implicit
	}
	return z
}

// That the kept bytes would have room is not enough: all must have.
func TestTornNeedsRoomForAll(t *testing.T) {
	z := api.Zone{State: api.Closed, Fence: 1, Data: []byte("abc")}
	for keep := range 3 {
		if x, e := zone.Torn(z, most, []byte("de"), keep); !none(x) || e != api.ErrFull {
			t.Errorf("%d stay: got %v, %d", keep, x, e)
		}
	}
	if x, e := zone.Torn(z, most, []byte("d"), 0); !same(x, z) || e != api.OK {
		t.Errorf("none stays: got %v, %d", x, e)
	}
	if x, e := zone.Torn(z, most, []byte("d"), 1); x.State != api.Full || string(x.Data) != "abcd" || e != api.OK {
		t.Errorf("all stay: got %v, %d", x, e)
	}
}

// P4.3

func TestRead(t *testing.T) {
	numbers := []int{math.MinInt, math.MinInt + 1, -2, -1, 0, 1, 2, 3, 4, 5, 6, 7, 8, math.MaxInt - 1, math.MaxInt}
	for _, z := range goodZones() {
		for _, off := range numbers {
			for _, n := range numbers {
				size := len(z.Data)
				good := 0 <= off && off <= size && 0 <= n && n <= size && off+n <= size
				b, e := zone.Read(z, off, n)
				if good && (e != api.OK || !bytes.Equal(b, text('a', size)[off:off+n])) {
					t.Errorf("%d from %d on of %v: got %v, %d", n, off, z, b, e)
				}
				if !good && (e != api.ErrArg || len(b) != 0) {
					t.Errorf("%d from %d on of %v: got %v, %d, want ErrArg", n, off, z, b, e)
				}
			}
		}
	}
}

func TestStates(t *testing.T) {
	for _, z := range goodZones() {
		with := func(state int) api.Zone { return api.Zone{State: state, Fence: z.Fence, Data: z.Data} }

		opened, wantE := with(api.Explicit), api.OK
		if z.State == api.Full {
			wantE = api.ErrState
		}
		got, e := zone.Open(z, most)
		wantZone(t, "Open", z, got, e, opened, wantE)

		closed, wantE := with(api.Closed), api.OK
		if z.State == api.Empty || z.State == api.Full {
			wantE = api.ErrState
		}
		if len(z.Data) == 0 {
			closed = with(api.Empty)
		}
		got, e = zone.Close(z)
		wantZone(t, "Close", z, got, e, closed, wantE)

		got, e = zone.Finish(z)
		wantZone(t, "Finish", z, got, e, with(api.Full), api.OK)

		got, e = zone.Reset(z)
		wantZone(t, "Reset", z, got, e, api.Zone{Fence: z.Fence}, api.OK)
	}
}

func TestStatesOfOne(t *testing.T) {
	z, e := zone.Open(api.Zone{Fence: 4}, 1)
	if !same(z, api.Zone{State: api.Explicit, Fence: 4}) || e != api.OK {
		t.Fatalf("Open: got %v, %d", z, e)
	}
	if x, e := zone.Close(z); !same(x, api.Zone{Fence: 4}) || e != api.OK {
		t.Errorf("Close without bytes: got %v, %d", x, e)
	}
	if x, e := zone.Close(api.Zone{State: api.Closed, Data: []byte("a")}); x.State != api.Closed || e != api.OK {
		t.Errorf("Close of a closed one: got %v, %d", x, e)
	}
	f, e := zone.Finish(z)
	if !same(f, api.Zone{State: api.Full, Fence: 4}) || e != api.OK {
		t.Errorf("Finish without bytes: got %v, %d", f, e)
	}
	if x, e := zone.Finish(f); !same(x, f) || e != api.OK {
		t.Errorf("Finish of a full one: got %v, %d", x, e)
	}
	for _, x := range []api.Zone{f, {Fence: 4}, z} {
		if r, e := zone.Reset(x); !same(r, api.Zone{Fence: 4}) || e != api.OK {
			t.Errorf("Reset of %v: got %v, %d", x, r, e)
		}
	}
}

// These are not told how many bytes have room, so they do as their words say with any zone.
func TestAnyZones(t *testing.T) {
	for _, z := range anyZones() {
		if b, e := zone.Read(z, 0, len(z.Data)); !bytes.Equal(b, z.Data) || e != api.OK {
			t.Errorf("Read of %v: got %v, %d", z, b, e)
		}
		if b, e := zone.Read(z, 0, len(z.Data)+1); len(b) != 0 || e != api.ErrArg {
			t.Errorf("Read behind the end of %v: got %v, %d", z, b, e)
		}
		if x, e := zone.Finish(z); x.State != api.Full || x.Fence != z.Fence || !bytes.Equal(x.Data, z.Data) || e != api.OK {
			t.Errorf("Finish of %v: got %v, %d", z, x, e)
		}
		if x, e := zone.Reset(z); !same(x, api.Zone{Fence: z.Fence}) || e != api.OK {
			t.Errorf("Reset of %v: got %v, %d", z, x, e)
		}
		want, wantE := api.Zone{State: api.Closed, Fence: z.Fence, Data: z.Data}, api.OK
		if len(z.Data) == 0 {
			want.State = api.Empty
		}
		if z.State == api.Empty || z.State == api.Full {
			wantE = api.ErrState
		}
		x, e := zone.Close(z)
		wantZone(t, "Close", z, x, e, want, wantE)
	}
}

// P4.4

func TestOpenedActive(t *testing.T) {
	if zone.Opened() != 0 || zone.Active() != 0 {
		t.Error("of no zones some are open")
	}
	var all []api.Zone
	opened, active := 0, 0
	for _, z := range anyZones() {
		o, a := 0, 0
		if z.State == 1 || z.State == 2 {
			o = 1
		}
		if z.State == 1 || z.State == 2 || z.State == 3 {
			a = 1
		}
		if zone.Opened(z) != o || zone.Active(z) != a {
			t.Errorf("%v: got %d, %d, want %d, %d", z, zone.Opened(z), zone.Active(z), o, a)
		}
		all = append(all, z)
		opened += o
		active += a
		if zone.Opened(all...) != opened || zone.Active(all...) != active {
			t.Errorf("%d zones: got %d, %d, want %d, %d", len(all), zone.Opened(all...), zone.Active(all...), opened, active)
		}
	}
	z := api.Zone{State: api.Implicit, Data: []byte("a")}
	if zone.Opened(z, z, z) != 3 || zone.Active(z, z, z) != 3 {
		t.Error("one zone thrice is not counted thrice")
	}
}

// P4.5

// afterwards are the zones that all calls answer of z; reset tells whether it was by Reset.
func afterwards(z api.Zone, tell func(x api.Zone, reset bool)) {
	told := func(x api.Zone, e api.Errno) {
		if e == api.OK {
			tell(x, false)
		}
	}
	for n := range most + 1 {
		b := text('p', n)
		x, _, e := zone.Append(z, most, b)
		told(x, e)
		for keep := range n + 1 {
			told(zone.Torn(z, most, b, keep))
		}
	}
	told(zone.Open(z, most))
	told(zone.Close(z))
	told(zone.Finish(z))
	if x, e := zone.Reset(z); e == api.OK {
		tell(x, true)
	}
}

func TestWhatFollows(t *testing.T) {
	type place struct {
		state int
		data  string
	}
	const fence = 6
	found := map[place]bool{}
	states := map[int]bool{}
	work := []api.Zone{{Fence: fence}}
	for len(work) > 0 {
		z := work[0]
		work = work[1:]
		p := place{z.State, string(z.Data)}
		if found[p] {
			continue
		}
		found[p], states[z.State] = true, true
		afterwards(z, func(x api.Zone, reset bool) {
			if zone.Check(x, most) != api.OK || !mayBe(x, most) || x.Fence != fence {
				t.Errorf("of %v came %v", z, x)
			}
			if !reset && !bytes.HasPrefix(x.Data, z.Data) {
				t.Errorf("of %v came %v: what was there is gone", z, x)
			}
			work = append(work, x)
		})
	}
	if len(states) != 5 {
		t.Errorf("only %d states were come to", len(states))
	}
}

// What each append told is where its bytes are read, to the end.
func TestPlacesStay(t *testing.T) {
	type piece struct {
		at int
		b  []byte
	}
	z := api.Zone{Fence: 2}
	var pieces []piece
	for i := range 40 {
		b := text(byte(i), i%7+1)
		next, at, e := zone.Append(z, 1000, b)
		if e != api.OK {
			t.Fatalf("%d: got %d", i, e)
		}
		pieces = append(pieces, piece{at, b})
		switch i % 4 {
		case 1:
			next, e = zone.Close(next)
		case 2:
			next, e = zone.Open(next, 1000)
		case 3:
			next, e = zone.Torn(next, 1000, []byte("torn"), i%5)
		}
		if e != api.OK {
			t.Fatalf("%d: got %d", i, e)
		}
		z = next
		for _, p := range pieces {
			if got, e := zone.Read(z, p.at, len(p.b)); !bytes.Equal(got, p.b) || e != api.OK {
				t.Fatalf("%d: at %d: got %v, %d, want %v", i, p.at, got, e, p.b)
			}
		}
	}
}

// R2

type call struct {
	name string
	do   func(z api.Zone, b []byte) []byte
}

// calls answer bytes, each one its way.
func calls() []call {
	return []call{
		{"Append", func(z api.Zone, b []byte) []byte { x, _, _ := zone.Append(z, most, b); return x.Data }},
		{"Torn of none", func(z api.Zone, b []byte) []byte { x, _ := zone.Torn(z, most, b, 0); return x.Data }},
		{"Torn", func(z api.Zone, b []byte) []byte { x, _ := zone.Torn(z, most, b, 1); return x.Data }},
		{"Read", func(z api.Zone, b []byte) []byte { x, _ := zone.Read(z, 1, 1); return x }},
		{"Open", func(z api.Zone, b []byte) []byte { x, _ := zone.Open(z, most); return x.Data }},
		{"Close", func(z api.Zone, b []byte) []byte { x, _ := zone.Close(z); return x.Data }},
		{"Finish", func(z api.Zone, b []byte) []byte { x, _ := zone.Finish(z); return x.Data }},
		{"Reset", func(z api.Zone, b []byte) []byte { x, _ := zone.Reset(z); return x.Data }},
	}
}

func fill(b []byte) {
	for i := range b {
		b[i] = 99
	}
}

// The zones' bytes have room behind them, so that a call which appended in place would be seen.
func TestNothingIsShared(t *testing.T) {
	for _, c := range calls() {
		all := []byte("abcdefgh")
		z := api.Zone{State: api.Explicit, Fence: 3, Data: all[:2]}
		b := all[4:6] // behind the zone's bytes, in the same memory
		got := c.do(z, b)
		want := bytes.Clone(got)
		if string(all) != "abcdefgh" || z.State != api.Explicit || z.Fence != 3 || len(z.Data) != 2 {
			t.Errorf("%s: what was handed in was changed: %q, %v", c.name, all, z)
		}
		if again := c.do(z, b); !bytes.Equal(again, want) {
			t.Errorf("%s: asked again it answers %q, not %q", c.name, again, want)
		}
		fill(got[:cap(got)])
		if string(all) != "abcdefgh" {
			t.Errorf("%s: the answer is an argument's memory", c.name)
		}
		if again := c.do(z, b); !bytes.Equal(again, want) {
			t.Errorf("%s: two answers are one memory: %q, not %q", c.name, again, want)
		}
		got = c.do(z, b)
		fill(all)
		if !bytes.Equal(got, want) {
			t.Errorf("%s: the answer follows what is written into an argument: %q, not %q", c.name, got, want)
		}
	}
}

func TestCountsChangeNothing(t *testing.T) {
	l := goodZones()
	zone.Opened(l...)
	zone.Active(l...)
	for _, z := range l {
		zone.Check(z, most)
	}
	if !slices.EqualFunc(l, goodZones(), same) {
		t.Error("zones that were handed in were changed")
	}
}
