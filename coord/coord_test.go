package coord_test

import (
	"bytes"
	"math"
	"slices"
	"testing"

	"quickset/api"
	"quickset/coord"
)

const (
	most    = 1 << 40
	longest = 1 << 30
)

// The events, by what counts in each.

func joins(host int) api.Event      { return api.Event{Do: api.JoinE, Host: host} }
func elects(host int) api.Event     { return api.Event{Do: api.ElectE, Host: host} }
func ticks(now int) api.Event       { return api.Event{Do: api.TickE, Now: now} }
func asks(host, zone int) api.Event { return api.Event{Do: api.ZoneE, Host: host, Zone: zone} }

func acks(host, zone, epoch int) api.Event {
	return api.Event{Do: api.AckE, Host: host, Zone: zone, Epoch: epoch}
}

func spans(host, from, to int) api.Event {
	return api.Event{Do: api.SpanE, Host: host, From: from, To: to}
}

func renews(host, key, epoch int) api.Event {
	return api.Event{Do: api.RenewE, Host: host, Key: key, Epoch: epoch}
}

func leaves(host, key, epoch int) api.Event {
	return api.Event{Do: api.LeaveE, Host: host, Key: key, Epoch: epoch}
}

// The answers.

func fails(e api.Errno) api.Answer { return api.Answer{E: e} }
func epoch(n int) api.Answer       { return api.Answer{Epoch: n} }

func fence(zone, host, epoch int) api.Answer {
	return api.Answer{Epoch: epoch, Todo: []api.Fence{{Zone: zone, Host: host, Epoch: epoch}}}
}

func sameAnswer(a, b api.Answer) bool {
	return a.E == b.E && a.Epoch == b.Epoch && slices.Equal(a.Todo, b.Todo)
}

// same tells it by itself, so that coord.Same can be held against it.
func same(c, d api.Coord) bool {
	return c.T.Last == d.T.Last && c.T.Now == d.T.Now && c.Ttl == d.Ttl && c.Zones == d.Zones &&
		slices.Equal(c.T.L, d.T.L) && slices.Equal(c.S, d.S) && slices.Equal(c.Wait, d.Wait)
}

func copyOf(c api.Coord) api.Coord {
	c.T.L, c.S, c.Wait = slices.Clone(c.T.L), slices.Clone(c.S), slices.Clone(c.Wait)
	return c
}

// rows makes spans of what is written as from, to, owner, epoch.
func rows(l [][4]int) []api.Span {
	var s []api.Span
	for _, x := range l {
		s = append(s, api.Span{From: x[0], To: x[1], Owner: x[2], Epoch: x[3]})
	}
	return s
}

// done is a new coordinator behind events that all must come to something.
func done(t *testing.T, zones, blocks, ttl int, l ...api.Event) api.Coord {
	t.Helper()
	c, e := coord.New(zones, blocks, ttl)
	if e != api.OK {
		t.Fatalf("New: got %d", e)
	}
	for _, x := range l {
		d, a := coord.Do(c, x)
		if a.E != api.OK {
			t.Fatalf("%v: got %d", x, a.E)
		}
		c = d
	}
	return c
}

// busy is a coordinator of four zones, a hundred blocks and leases of 10 at the time 5: 1, 2 and 3 are members (1 and 3 till 15, 2 till 10), zone 0 is 1's and zone 3 is 2's, zone 1 is asked for by 3 and zone 2 by 2, blocks are 1's, 2's and 1's, the cleaner is 2.
func busy(t *testing.T) api.Coord {
	t.Helper()
	return done(t, 4, 100, 10,
		joins(2),
		asks(2, 3),
		acks(2, 3, 2),
		elects(2),
		ticks(5),
		joins(1),
		joins(3),
		asks(1, 0),
		acks(1, 0, 6),
		asks(3, 1),
		asks(2, 2),
		spans(1, 10, 20),
		spans(2, 20, 30),
		spans(1, 30, 40),
	)
}

// busyOne is what busy must be.
func busyOne() api.Coord {
	return api.Coord{
		T: api.Leases{Last: 11, Now: 5, L: []api.Lease{
			{Key: 0, Host: 1, Epoch: 6, Until: 15},
			{Key: 3, Host: 2, Epoch: 2, Until: 10},
			{Key: 1000, Host: 2, Epoch: 3, Until: 10},
			{Key: 2001, Host: 1, Epoch: 4, Until: 15},
			{Key: 2002, Host: 2, Epoch: 1, Until: 10},
			{Key: 2003, Host: 3, Epoch: 5, Until: 15},
		}},
		S: []api.Span{
			{From: 0, To: 10, Owner: -1},
			{From: 10, To: 20, Owner: 1, Epoch: 9},
			{From: 20, To: 30, Owner: 2, Epoch: 10},
			{From: 30, To: 40, Owner: 1, Epoch: 11},
			{From: 40, To: 100, Owner: -1},
		},
		Wait:  []api.Fence{{Zone: 1, Host: 3, Epoch: 7}, {Zone: 2, Host: 2, Epoch: 8}},
		Ttl:   10,
		Zones: 4,
	}
}

// with is busyOne behind a change.
func with(change func(c *api.Coord)) api.Coord {
	c := busyOne()
	change(&c)
	return c
}

func TestBusy(t *testing.T) {
	if c := busy(t); !same(c, busyOne()) {
		t.Fatalf("got %v, want %v", c, busyOne())
	}
}

// P8.1

func TestNew(t *testing.T) {
	for _, x := range [][3]int{{1, 1, 1}, {64, most, longest}, {4, 100, 10}, {1, most, 1}, {64, 1, 1}} {
		c, e := coord.New(x[0], x[1], x[2])
		want := api.Coord{S: []api.Span{{To: x[1], Owner: -1}}, Ttl: x[2], Zones: x[0]}
		if !same(c, want) || e != api.OK {
			t.Errorf("%v: got %v, %d", x, c, e)
		}
	}
	for _, x := range [][3]int{
		{0, 1, 1}, {-1, 1, 1}, {65, 1, 1}, {math.MinInt, 1, 1}, {math.MaxInt, 1, 1},
		{1, 0, 1}, {1, -1, 1}, {1, most + 1, 1}, {1, math.MinInt, 1}, {1, math.MaxInt, 1},
		{1, 1, 0}, {1, 1, -1}, {1, 1, longest + 1}, {1, 1, math.MinInt}, {1, 1, math.MaxInt},
		{0, 0, 0},
	} {
		if c, e := coord.New(x[0], x[1], x[2]); !same(c, api.Coord{}) || e != api.ErrArg {
			t.Errorf("%v: got %v, %d, want ErrArg", x, c, e)
		}
	}
}

func TestOwner(t *testing.T) {
	c := busy(t)
	for _, x := range [][3]int{
		{0, 1, 6}, {3, 2, 2},
		{1, -1, 0}, {2, -1, 0}, // asked for is not granted
		{4, -1, 0}, {63, -1, 0}, {64, -1, 0}, {-1, -1, 0}, {math.MinInt, -1, 0}, {math.MaxInt, -1, 0},
		{api.CleanerK, -1, 0}, {api.MemberK + 1, -1, 0}, // keys of what is no zone
	} {
		if host, n := coord.Owner(c, x[0]); host != x[1] || n != x[2] {
			t.Errorf("%d: got %d, %d, want %v", x[0], host, n, x[1:])
		}
	}
	last := done(t, 64, 1, 1, joins(0), asks(0, 63), acks(0, 63, 2))
	if host, n := coord.Owner(last, 63); host != 0 || n != 2 {
		t.Errorf("got %d, %d", host, n)
	}
}

func TestCleaner(t *testing.T) {
	if host, n := coord.Cleaner(busy(t)); host != 2 || n != 3 {
		t.Errorf("got %d, %d", host, n)
	}
	if host, n := coord.Cleaner(done(t, 4, 100, 10, joins(1))); host != -1 || n != 0 {
		t.Errorf("got %d, %d", host, n)
	}
	if host, n := coord.Cleaner(done(t, 4, 100, 10, joins(0), elects(0))); host != 0 || n != 2 {
		t.Errorf("got %d, %d", host, n)
	}
}

func TestMember(t *testing.T) {
	c := busy(t)
	for host := -3; host < 12; host++ {
		if is := coord.Member(c, host); is != (1 <= host && host <= 3) {
			t.Errorf("%d: got %v", host, is)
		}
	}
	// What has the leases of these keys is no host, whatever is added to MemberK.
	for _, host := range []int{-2000, -1997, -1000, math.MinInt, math.MaxInt} {
		if coord.Member(c, host) {
			t.Errorf("%d is a member", host)
		}
	}
	c = done(t, 4, 100, 10, joins(0), joins(7))
	if !coord.Member(c, 0) || !coord.Member(c, 7) || coord.Member(c, 6) || coord.Member(c, 8) {
		t.Errorf("got %v", c.T)
	}
}

func TestSame(t *testing.T) {
	if !coord.Same(busy(t), busyOne()) || !coord.Same(api.Coord{}, api.Coord{}) {
		t.Error("what is the same was told apart")
	}
	if !coord.Same(api.Coord{}, api.Coord{T: api.Leases{L: []api.Lease{}}, S: []api.Span{}, Wait: []api.Fence{}}) {
		t.Error("lists without elements were told apart")
	}
	for i, change := range []func(c *api.Coord){
		func(c *api.Coord) { c.T.Last++ },
		func(c *api.Coord) { c.T.Now++ },
		func(c *api.Coord) { c.Ttl++ },
		func(c *api.Coord) { c.Zones++ },
		func(c *api.Coord) { c.T.L = c.T.L[1:] },
		func(c *api.Coord) { c.T.L = nil },
		func(c *api.Coord) { c.T.L[5].Key++ },
		func(c *api.Coord) { c.T.L[5].Host++ },
		func(c *api.Coord) { c.T.L[0].Epoch++ },
		func(c *api.Coord) { c.T.L[0].Until++ },
		func(c *api.Coord) { c.S = c.S[:4] },
		func(c *api.Coord) { c.S = nil },
		func(c *api.Coord) { c.S[0].From++ },
		func(c *api.Coord) { c.S[4].To++ },
		func(c *api.Coord) { c.S[1].Owner++ },
		func(c *api.Coord) { c.S[1].Epoch++ },
		func(c *api.Coord) { c.Wait = c.Wait[:1] },
		func(c *api.Coord) { c.Wait = nil },
		func(c *api.Coord) { c.Wait[0].Zone++ },
		func(c *api.Coord) { c.Wait[0].Host++ },
		func(c *api.Coord) { c.Wait[1].Epoch++ },
		func(c *api.Coord) { c.Wait[0], c.Wait[1] = c.Wait[1], c.Wait[0] },
	} {
		c := with(change)
		if coord.Same(c, busyOne()) || coord.Same(busyOne(), c) {
			t.Errorf("%d: what is not the same was not told apart", i)
		}
	}
}

// P8.2

// wantDone does an event of busy that must come to something.
func wantDone(t *testing.T, e api.Event, want api.Answer, change func(c *api.Coord)) {
	t.Helper()
	c, a := coord.Do(busy(t), e)
	if !sameAnswer(a, want) {
		t.Errorf("%v: got %v, want %v", e, a, want)
	}
	if behind := with(change); !same(c, behind) {
		t.Errorf("%v: got %v, want %v", e, c, behind)
	}
}

// wantFail does an event of c that must come to an error, and change nothing.
func wantFail(t *testing.T, c api.Coord, e api.Event, want api.Errno) {
	t.Helper()
	d, a := coord.Do(c, e)
	if !sameAnswer(a, fails(want)) || !same(d, c) {
		t.Errorf("%v: got %v, want %d, and %v", e, a, want, d)
	}
}

func TestEventsThatMayNotBe(t *testing.T) {
	c := busy(t)
	for _, do := range []int{0, -1, 9, 10, 100, math.MinInt, math.MaxInt} {
		wantFail(t, c, api.Event{Do: do, Host: 1, Zone: 1, From: 50, To: 60, Now: 6, Key: 2001, Epoch: 4}, api.ErrArg)
	}
	for _, host := range []int{-1, -2, 8, 9, 1000, math.MinInt, math.MaxInt} {
		for do := api.JoinE; do <= api.LeaveE; do++ {
			e := api.Event{Do: do, Host: host, Zone: 1, Epoch: 7, From: 50, To: 60, Now: 6, Key: 2001}
			if do != api.TickE {
				wantFail(t, c, e, api.ErrArg)
			} else if d, a := coord.Do(c, e); !sameAnswer(a, api.Answer{}) || d.T.Now != 6 {
				t.Errorf("%v: got %v, %v", e, a, d)
			}
		}
	}
	wantFail(t, c, api.Event{Do: api.TickE, Host: 99, Now: 4}, api.ErrArg)
	wantFail(t, c, api.Event{Do: api.ZoneE, Host: 8, Zone: 0}, api.ErrArg)               // not ErrNone, nor ErrHeld
	wantFail(t, c, api.Event{Do: api.AckE, Host: 8, Zone: 3, Epoch: 3}, api.ErrArg)      // not ErrNone
	wantFail(t, c, api.Event{Do: api.LeaveE, Host: -1, Key: 2001, Epoch: 4}, api.ErrArg) // not ErrStale
	wantFail(t, c, api.Event{Do: api.RenewE, Host: -1, Key: 2001, Epoch: 4}, api.ErrArg) // not ErrStale
	wantFail(t, c, api.Event{Do: api.SpanE, Host: 8, From: 10, To: 20}, api.ErrArg)      // not ErrNone, nor ErrHeld
	wantFail(t, c, api.Event{Do: 9, Host: 1, Zone: 1, Epoch: 7, Now: 6, Key: 5}, api.ErrArg)
}

func TestJoin(t *testing.T) {
	wantDone(t, joins(0), epoch(12), func(c *api.Coord) {
		c.T.Last = 12
		c.T.L = slices.Insert(c.T.L, 3, api.Lease{Key: 2000, Host: 0, Epoch: 12, Until: 15})
	})
	wantDone(t, joins(7), epoch(12), func(c *api.Coord) {
		c.T.Last = 12
		c.T.L = append(c.T.L, api.Lease{Key: 2007, Host: 7, Epoch: 12, Until: 15})
	})
	for host := 1; host <= 3; host++ {
		wantFail(t, busy(t), joins(host), api.ErrHeld)
	}
}

func TestJoinBehindTheEndOfAMembership(t *testing.T) {
	c := done(t, 4, 100, 10, joins(1), ticks(10), joins(1))
	want := []api.Lease{{Key: 2001, Host: 1, Epoch: 2, Until: 20}}
	if !slices.Equal(c.T.L, want) || c.T.Last != 2 {
		t.Errorf("got %v", c.T)
	}
}

func TestZone(t *testing.T) {
	c := done(t, 4, 100, 10, joins(1), joins(2))
	for i, x := range []struct{ host, zone int }{{1, 3}, {2, 0}, {1, 1}} {
		d, a := coord.Do(c, asks(x.host, x.zone))
		if !sameAnswer(a, fence(x.zone, x.host, 3+i)) {
			t.Errorf("%v: got %v", x, a)
		}
		if host, n := coord.Owner(d, x.zone); host != -1 || n != 0 {
			t.Errorf("%v: granted ahead of its fence, to %d under %d", x, host, n)
		}
		c = d
	}
	want := []api.Fence{{Zone: 3, Host: 1, Epoch: 3}, {Zone: 0, Host: 2, Epoch: 4}, {Zone: 1, Host: 1, Epoch: 5}}
	if !slices.Equal(c.Wait, want) || c.T.Last != 5 || len(c.T.L) != 2 {
		t.Errorf("got %v", c)
	}
	b := busy(t)
	for _, zone := range []int{-1, 4, 64, 1000, 2001, math.MinInt, math.MaxInt} {
		wantFail(t, b, asks(1, zone), api.ErrArg)
		wantFail(t, b, asks(0, zone), api.ErrArg) // ahead of ErrNone
	}
	for zone := range 4 {
		wantFail(t, b, asks(0, zone), api.ErrNone) // ahead of ErrHeld
		for host := 1; host <= 3; host++ {         // whoever has it, or asked for it, who asks again too
			wantFail(t, b, asks(host, zone), api.ErrHeld)
		}
	}
}

func TestZoneThatIsFreeAgain(t *testing.T) {
	d, a := coord.Do(done(t, 4, 100, 10, joins(1), asks(1, 0), acks(1, 0, 2), leaves(1, 0, 2)), asks(1, 0))
	if !sameAnswer(a, fence(0, 1, 3)) || !slices.Equal(d.Wait, a.Todo) {
		t.Errorf("got %v, %v", a, d)
	}
	d, a = coord.Do(done(t, 4, 100, 10, joins(1), asks(1, 0), acks(1, 0, 2), ticks(10), joins(2)), asks(2, 0))
	if !sameAnswer(a, fence(0, 2, 4)) || !slices.Equal(d.Wait, a.Todo) {
		t.Errorf("got %v, %v", a, d)
	}
}

func TestAck(t *testing.T) {
	wantDone(t, acks(3, 1, 7), epoch(7), func(c *api.Coord) {
		c.Wait = c.Wait[1:]
		c.T.L = slices.Insert(c.T.L, 1, api.Lease{Key: 1, Host: 3, Epoch: 7, Until: 15})
	})
	wantDone(t, acks(2, 2, 8), epoch(8), func(c *api.Coord) {
		c.Wait = c.Wait[:1]
		c.T.L = slices.Insert(c.T.L, 1, api.Lease{Key: 2, Host: 2, Epoch: 8, Until: 15})
	})
	for _, x := range []struct {
		e    api.Event
		want api.Errno
	}{
		{acks(3, 1, 6), api.ErrNone},
		{acks(3, 1, 8), api.ErrNone}, // another zone's
		{acks(3, 2, 7), api.ErrNone},
		{acks(3, 1, 0), api.ErrNone},
		{acks(1, 0, 6), api.ErrNone}, // it is granted already
		{acks(2, 1, 6), api.ErrNone}, // ahead of ErrStale
		{acks(3, -1, 7), api.ErrNone},
		{acks(3, 4, 7), api.ErrNone},
		{acks(3, math.MinInt, math.MaxInt), api.ErrNone},
		{acks(2, 1, 7), api.ErrStale},
		{acks(0, 1, 7), api.ErrStale}, // no member at all
		{acks(7, 2, 8), api.ErrStale},
		{acks(3, 2, 8), api.ErrStale},
	} {
		wantFail(t, busy(t), x.e, x.want)
	}
}

// The lease begins when the fence is done, not when it was asked for; and the epoch is that of the asking, whatever was granted since.
func TestAckLate(t *testing.T) {
	c := done(t, 4, 100, 10, joins(1), asks(1, 2), ticks(3), joins(2), elects(2), ticks(9), acks(1, 2, 2))
	want := []api.Lease{
		{Key: 2, Host: 1, Epoch: 2, Until: 19},
		{Key: 1000, Host: 2, Epoch: 4, Until: 13},
		{Key: 2001, Host: 1, Epoch: 1, Until: 10},
		{Key: 2002, Host: 2, Epoch: 3, Until: 13},
	}
	if !slices.Equal(c.T.L, want) || c.T.Last != 4 || len(c.Wait) != 0 {
		t.Errorf("got %v", c)
	}
	wantFail(t, c, acks(1, 2, 2), api.ErrNone)
}

func TestSpan(t *testing.T) {
	for _, x := range []struct {
		e    api.Event
		want []api.Span
	}{
		{spans(3, 40, 41), rows([][4]int{{0, 10, -1, 0}, {10, 20, 1, 9}, {20, 30, 2, 10}, {30, 40, 1, 11}, {40, 41, 3, 12}, {41, 100, -1, 0}})},
		{spans(3, 0, 10), rows([][4]int{{0, 10, 3, 12}, {10, 20, 1, 9}, {20, 30, 2, 10}, {30, 40, 1, 11}, {40, 100, -1, 0}})},
		{spans(1, 0, 20), rows([][4]int{{0, 20, 1, 12}, {20, 30, 2, 10}, {30, 40, 1, 11}, {40, 100, -1, 0}})},
		{spans(1, 12, 13), rows([][4]int{{0, 10, -1, 0}, {10, 12, 1, 9}, {12, 13, 1, 12}, {13, 20, 1, 9}, {20, 30, 2, 10}, {30, 40, 1, 11}, {40, 100, -1, 0}})},
		{spans(2, 20, 30), rows([][4]int{{0, 10, -1, 0}, {10, 20, 1, 9}, {20, 30, 2, 12}, {30, 40, 1, 11}, {40, 100, -1, 0}})},
		{spans(1, 35, 100), rows([][4]int{{0, 10, -1, 0}, {10, 20, 1, 9}, {20, 30, 2, 10}, {30, 35, 1, 11}, {35, 100, 1, 12}})},
	} {
		wantDone(t, x.e, epoch(12), func(c *api.Coord) { c.T.Last, c.S = 12, x.want })
	}
	b := busy(t)
	for _, x := range [][2]int{{5, 5}, {6, 5}, {-1, 5}, {50, 101}, {100, 101}, {0, 101}, {math.MinInt, math.MaxInt}, {math.MaxInt, math.MinInt}, {25, 25}} {
		wantFail(t, b, spans(1, x[0], x[1]), api.ErrArg)
		wantFail(t, b, spans(0, x[0], x[1]), api.ErrNone) // ahead of ErrArg
	}
	for _, x := range [][3]int{{1, 20, 30}, {1, 0, 100}, {1, 29, 40}, {1, 10, 21}, {1, 25, 26}, {3, 0, 11}, {3, 39, 50}, {2, 19, 30}, {2, 20, 31}} {
		wantFail(t, b, spans(x[0], x[1], x[2]), api.ErrHeld)
		wantFail(t, b, spans(7, x[1], x[2]), api.ErrNone) // ahead of ErrHeld
	}
	if c := done(t, 1, most, 1, joins(7), spans(7, most-1, most)); !slices.Equal(c.S, rows([][4]int{{0, most - 1, -1, 0}, {most - 1, most, 7, 2}})) {
		t.Errorf("got %v", c.S)
	}
}

func TestElect(t *testing.T) {
	c := busy(t)
	for host := 1; host <= 3; host++ {
		wantFail(t, c, elects(host), api.ErrHeld) // who is it already too
	}
	wantFail(t, c, elects(0), api.ErrNone) // ahead of ErrHeld
	wantFail(t, c, elects(7), api.ErrNone)
	c = done(t, 4, 100, 10, joins(1), joins(2), ticks(4))
	wantFail(t, c, elects(0), api.ErrNone)
	d, a := coord.Do(c, elects(2))
	want := append([]api.Lease{{Key: 1000, Host: 2, Epoch: 3, Until: 14}}, c.T.L...)
	if !sameAnswer(a, epoch(3)) || !slices.Equal(d.T.L, want) || d.T.Last != 3 {
		t.Errorf("got %v, %v", a, d.T)
	}
	d, a = coord.Do(d, leaves(2, 1000, 3))
	if host, _ := coord.Cleaner(d); host != -1 || a.E != api.OK {
		t.Errorf("got %v, %v", a, d)
	}
	if d, a = coord.Do(d, elects(1)); !sameAnswer(a, epoch(4)) {
		t.Errorf("got %v, %v", a, d)
	}
}

func TestTick(t *testing.T) {
	for now := 5; now < 10; now++ {
		wantDone(t, ticks(now), api.Answer{}, func(c *api.Coord) { c.T.Now = now })
	}
	for now := 10; now < 15; now++ { // 2 is over, with all that was till 10
		wantDone(t, ticks(now), api.Answer{}, func(c *api.Coord) {
			c.T.Now = now
			c.T.L = []api.Lease{c.T.L[0], c.T.L[3], c.T.L[5]}
			c.S = []api.Span{c.S[0], c.S[1], {From: 20, To: 30, Owner: -1}, c.S[3], c.S[4]}
			c.Wait = c.Wait[:1]
		})
	}
	for _, now := range []int{15, 16, 1 << 40, math.MaxInt} {
		wantDone(t, ticks(now), api.Answer{}, func(c *api.Coord) {
			c.T.Now, c.T.L, c.Wait = now, nil, nil
			c.S = []api.Span{{From: 0, To: 100, Owner: -1}}
		})
	}
	for _, now := range []int{4, 0, -1, math.MinInt} {
		wantFail(t, busy(t), ticks(now), api.ErrArg)
	}
}

// A zone stays a host's, and the post too, when its membership alone is over; it can be granted no other one, though.
func TestTickOfAMembershipAlone(t *testing.T) {
	c := done(t, 4, 100, 10,
		joins(1), asks(1, 2), spans(1, 0, 5), ticks(1), joins(2), asks(2, 3), spans(2, 5, 9), asks(1, 0), elects(1), acks(1, 2, 2), asks(2, 1), ticks(10))
	if host, n := coord.Owner(c, 2); host != 1 || n != 2 || coord.Member(c, 1) || !coord.Member(c, 2) {
		t.Errorf("got %d, %d", host, n)
	}
	if host, n := coord.Cleaner(c); host != 1 || n != 8 {
		t.Errorf("got %d, %d", host, n)
	}
	wantWait := []api.Fence{{Zone: 3, Host: 2, Epoch: 5}, {Zone: 1, Host: 2, Epoch: 9}}
	wantSpans := rows([][4]int{{0, 5, -1, 0}, {5, 9, 2, 6}, {9, 100, -1, 0}})
	if !slices.Equal(c.Wait, wantWait) || !slices.Equal(c.S, wantSpans) {
		t.Errorf("got %v", c)
	}
	wantFail(t, c, acks(1, 0, 7), api.ErrNone)
	wantFail(t, c, asks(1, 0), api.ErrNone)
	wantFail(t, c, spans(1, 0, 1), api.ErrNone)
	if d, a := coord.Do(c, asks(2, 0)); !sameAnswer(a, fence(0, 2, 10)) || len(d.Wait) != 3 {
		t.Errorf("got %v, %v", a, d)
	}
	if d, a := coord.Do(c, renews(1, 2, 2)); !sameAnswer(a, api.Answer{}) || d.T.L[0].Until != 20 {
		t.Errorf("got %v, %v", a, d)
	}
}

func TestRenew(t *testing.T) {
	c := done(t, 4, 100, 10, joins(1), asks(1, 2), acks(1, 2, 2), elects(1), joins(2), ticks(7))
	for at, x := range []api.Event{renews(1, 2, 2), renews(1, 1000, 3), renews(1, 2001, 1), renews(2, 2002, 4)} {
		want := copyOf(c)
		want.T.L[at].Until = 17
		if d, a := coord.Do(c, x); !sameAnswer(a, api.Answer{}) || !same(d, want) {
			t.Errorf("%v: got %v, %v", x, a, d)
		}
	}
	for _, x := range []struct {
		e    api.Event
		want api.Errno
	}{
		{renews(1, 3, 2), api.ErrNone},
		{renews(1, 2000, 1), api.ErrNone},
		{renews(1, -1, 1), api.ErrNone},
		{renews(1, math.MinInt, 1), api.ErrNone},
		{renews(2, 2, 2), api.ErrStale},
		{renews(1, 2, 1), api.ErrStale},
		{renews(1, 2, 0), api.ErrStale},
		{renews(1, 2002, 4), api.ErrStale},
		{renews(2, 1000, 3), api.ErrStale},
		{renews(1, 2001, math.MaxInt), api.ErrStale},
	} {
		wantFail(t, c, x.e, x.want)
	}
	over := done(t, 4, 100, 10, joins(1), ticks(10))
	wantFail(t, over, renews(1, 2001, 1), api.ErrNone)
}

func TestLeave(t *testing.T) {
	without := func(at int) func(c *api.Coord) {
		return func(c *api.Coord) { c.T.L = slices.Delete(c.T.L, at, at+1) }
	}
	wantDone(t, leaves(1, 0, 6), api.Answer{}, without(0))
	wantDone(t, leaves(2, 3, 2), api.Answer{}, without(1))
	wantDone(t, leaves(2, 1000, 3), api.Answer{}, without(2))
	wantDone(t, leaves(1, 2001, 4), api.Answer{}, func(c *api.Coord) {
		without(3)(c)
		c.S = rows([][4]int{{0, 20, -1, 0}, {20, 30, 2, 10}, {30, 100, -1, 0}})
	})
	wantDone(t, leaves(2, 2002, 1), api.Answer{}, func(c *api.Coord) {
		without(4)(c)
		c.S[2] = api.Span{From: 20, To: 30, Owner: -1}
		c.Wait = c.Wait[:1]
	})
	wantDone(t, leaves(3, 2003, 5), api.Answer{}, func(c *api.Coord) {
		without(5)(c)
		c.Wait = c.Wait[1:]
	})
	for _, x := range []struct {
		e    api.Event
		want api.Errno
	}{
		{leaves(1, 1, 6), api.ErrNone},
		{leaves(3, 1, 7), api.ErrNone}, // asked for is not granted
		{leaves(0, 2000, 4), api.ErrNone},
		{leaves(1, -1, 6), api.ErrNone},
		{leaves(1, math.MaxInt, 6), api.ErrNone},
		{leaves(1, math.MinInt, 6), api.ErrNone},
		{leaves(2, 0, 6), api.ErrStale},
		{leaves(1, 0, 5), api.ErrStale},
		{leaves(1, 0, 0), api.ErrStale},
		{leaves(0, 0, 6), api.ErrStale},
		{leaves(1, 3, 2), api.ErrStale},
		{leaves(1, 1000, 3), api.ErrStale},
		{leaves(2, 1000, 4), api.ErrStale},
		{leaves(2, 2001, 4), api.ErrStale},
		{leaves(1, 2001, 5), api.ErrStale},
		{leaves(1, 2002, 1), api.ErrStale},
	} {
		wantFail(t, busy(t), x.e, x.want)
	}
	for _, host := range []int{0, 7} { // the first host and the last one
		c := done(t, 4, 100, 10, joins(host), asks(host, 0), spans(host, 0, 100), leaves(host, 2000+host, 1))
		if len(c.T.L) != 0 || len(c.Wait) != 0 || !slices.Equal(c.S, rows([][4]int{{0, 100, -1, 0}})) || c.T.Last != 3 {
			t.Errorf("%d: got %v", host, c)
		}
	}
}

// The chapter's examples.
func TestExamples(t *testing.T) {
	c, _ := coord.New(4, 100, 10)
	c, a := coord.Do(c, joins(1))
	if !sameAnswer(a, epoch(1)) {
		t.Errorf("got %v", a)
	}
	c, a = coord.Do(c, asks(1, 0))
	if !sameAnswer(a, fence(0, 1, 2)) {
		t.Errorf("got %v", a)
	}
	c, a = coord.Do(c, acks(1, 0, 2))
	if host, n := coord.Owner(c, 0); host != 1 || n != 2 || !sameAnswer(a, epoch(2)) {
		t.Errorf("got %d, %d, %v", host, n, a)
	}
}

// P8.3

func TestAll(t *testing.T) {
	c := busy(t)
	l := []api.Event{joins(0), joins(0), asks(0, 9), acks(3, 1, 7), {Do: 9}, leaves(2, 2002, 1), asks(0, 2), spans(0, 20, 30), ticks(4), ticks(9)}
	want, answers := c, []api.Answer{}
	for _, e := range l {
		d, a := coord.Do(want, e)
		want, answers = d, append(answers, a)
	}
	d, got := coord.All(c, l...)
	if !same(d, want) || !slices.EqualFunc(got, answers, sameAnswer) {
		t.Errorf("got %v, %v, want %v, %v", got, d, answers, want)
	}
	told := []api.Answer{epoch(12), fails(api.ErrHeld), fails(api.ErrArg), epoch(7), fails(api.ErrArg), {}, fence(2, 0, 13), epoch(14), fails(api.ErrArg), {}}
	if !slices.EqualFunc(got, told, sameAnswer) {
		t.Errorf("got %v, want %v", got, told)
	}
	if d, got := coord.All(c); !same(d, c) || len(got) != 0 {
		t.Errorf("got %v, %v", got, d)
	}
}

func TestWrite(t *testing.T) {
	for _, x := range []struct {
		e    api.Event
		want []byte
	}{
		{api.Event{}, make([]byte, 8)},
		{api.Event{Do: 1, Host: 2, Zone: 3, Epoch: 4, From: 5, To: 6, Now: 7, Key: 8}, []byte{1, 2, 3, 4, 5, 6, 7, 8}},
		{api.Event{Do: 9, Host: 300, Key: 2000}, []byte{9, 172, 2, 0, 0, 0, 0, 0, 208, 15}},
		{api.Event{Now: math.MaxInt}, []byte{0, 0, 0, 0, 0, 0, 255, 255, 255, 255, 255, 255, 255, 255, 127, 0}},
	} {
		if b, e := coord.Write(x.e); !bytes.Equal(b, x.want) || e != api.OK {
			t.Errorf("%v: got %v, %d, want %v", x.e, b, e, x.want)
		}
	}
	for _, n := range []int{-1, math.MinInt} {
		for _, e := range []api.Event{{Do: n}, {Host: n}, {Zone: n}, {Epoch: n}, {From: n}, {To: n}, {Now: n}, {Key: n}, {Do: 6, Host: n, Now: 5}} {
			if b, err := coord.Write(e); len(b) != 0 || err != api.ErrArg {
				t.Errorf("%v: got %v, %d, want ErrArg", e, b, err)
			}
		}
	}
}

// tape writes events.
func tape(t *testing.T, l ...api.Event) []byte {
	t.Helper()
	var b []byte
	for _, e := range l {
		x, err := coord.Write(e)
		if err != api.OK {
			t.Fatalf("%v: got %d", e, err)
		}
		b = append(b, x...)
	}
	return b
}

// Wherever a tape is cut off, the events that are whole are done, those too that come to an error.
func TestReplay(t *testing.T) {
	first, _ := coord.New(4, 100, 300)
	l := []api.Event{joins(1), joins(1), asks(1, 3), {Do: 9}, acks(1, 3, 2), {Do: 500, Host: 500}, spans(1, 10, 20), elects(1), ticks(200), renews(1, 2001, 1), leaves(1, 3, 2), ticks(300), leaves(1, 2001, 1)}
	var b []byte
	ends, behind := []int{0}, []api.Coord{first}
	for _, e := range l {
		b = append(b, tape(t, e)...)
		c, _ := coord.Do(behind[len(behind)-1], e)
		ends, behind = append(ends, len(b)), append(behind, c)
	}
	for n := range len(b) + 1 {
		many := 0
		for many < len(l) && ends[many+1] <= n {
			many++
		}
		for _, tail := range [][]byte{nil, {128}, {128, 0}, bytes.Repeat([]byte{255}, 10)} {
			if ends[many] != n && tail != nil {
				continue // it would make another event
			}
			if c, got := coord.Replay(first, append(slices.Clone(b[:n]), tail...)); got != many || !same(c, behind[many]) {
				t.Fatalf("%d of %d bytes, and %v: got %d, %v, want %d, %v", n, len(b), tail, got, c, many, behind[many])
			}
		}
	}
}

// Replay ends at what is no event, whatever stands behind it, and goes on from whichever coordinator.
func TestReplayOfOtherBytes(t *testing.T) {
	c := busy(t)
	whole := tape(t, joins(0), joins(7))
	for _, bad := range [][]byte{
		{1, 0, 0, 0, 0, 0, 0},
		{1, 4, 0, 0, 0, 0, 0, 128, 0},
		{129, 0, 4, 0, 0, 0, 0, 0, 0},
		append([]byte{1, 4, 0}, bytes.Repeat([]byte{255}, 10)...),
		append([]byte{1, 4, 0}, 255, 255, 255, 255, 255, 255, 255, 255, 255, 1), // beyond 63 bits
	} {
		d, n := coord.Replay(c, slices.Concat(whole, bad))
		want, _ := coord.All(c, joins(0), joins(7))
		if n != 2 || !same(d, want) {
			t.Errorf("%v: got %d, %v", bad, n, d)
		}
	}
	for _, bad := range [][]byte{{128, 0}, bytes.Repeat([]byte{255}, 10)} {
		if d, n := coord.Replay(c, slices.Concat(bad, whole)); n != 0 || !same(d, c) {
			t.Errorf("%v: got %d, %v", bad, n, d)
		}
	}
	if d, n := coord.Replay(c, nil); n != 0 || !same(d, c) {
		t.Errorf("got %d, %v", n, d)
	}
	if d, n := coord.Replay(c, make([]byte, 1<<16)); n != 1<<13 || !same(d, c) {
		t.Errorf("got %d, %v", n, d)
	}
}

// R2: nothing that was handed in is changed, and nothing is shared with what is told, also where there is an error.
func TestNothingIsShared(t *testing.T) {
	events := []api.Event{
		joins(0), asks(1, 0), acks(3, 1, 7), acks(2, 2, 8), spans(3, 0, 5), ticks(5), ticks(10), ticks(15),
		renews(1, 2001, 4), renews(2, 2002, 1), leaves(1, 0, 6), leaves(2, 2002, 1), leaves(3, 2003, 5), joins(1), {Do: 9},
	}
	for _, e := range events {
		for name, call := range map[string]func(c api.Coord) api.Coord{
			"Do":     func(c api.Coord) api.Coord { d, _ := coord.Do(c, e); return d },
			"All":    func(c api.Coord) api.Coord { d, _ := coord.All(c, e, joins(7)); return d },
			"Replay": func(c api.Coord) api.Coord { d, _ := coord.Replay(c, tape(t, e)); return d },
			"None":   func(c api.Coord) api.Coord { d, _ := coord.All(c); return d },
		} {
			c := roomy(t)
			told := call(c)
			if !same(c, busyOne()) || !same(wide(c), wide(roomy(t))) {
				t.Errorf("%s of %v changed what was handed in: %v", name, e, wide(c))
			}
			want := copyOf(told)
			spoil(c)
			if !same(told, want) {
				t.Errorf("%s of %v: what was told changed with what was handed in", name, e)
			}
			c = roomy(t)
			told = call(c)
			spoil(told)
			if !same(c, busyOne()) {
				t.Errorf("%s of %v: what was handed in changed with what was told", name, e)
			}
		}
	}
}

// roomy is busy with room in its lists that a call could write into.
func roomy(t *testing.T) api.Coord {
	t.Helper()
	c := busy(t)
	c.T.L = append(make([]api.Lease, 0, 20), c.T.L...)
	c.S = append(make([]api.Span, 0, 20), c.S...)
	c.Wait = append(make([]api.Fence, 0, 20), c.Wait...)
	return c
}

// wide is a coordinator with the room of its lists.
func wide(c api.Coord) api.Coord {
	c.T.L, c.S, c.Wait = c.T.L[:cap(c.T.L)], c.S[:cap(c.S)], c.Wait[:cap(c.Wait)]
	return c
}

func spoil(c api.Coord) {
	c = wide(c)
	for i := range c.T.L {
		c.T.L[i] = api.Lease{Key: -1}
	}
	for i := range c.S {
		c.S[i] = api.Span{From: -1}
	}
	for i := range c.Wait {
		c.Wait[i] = api.Fence{Zone: -1}
	}
}

func TestTodoIsItsOwn(t *testing.T) {
	c, l := coord.All(done(t, 4, 100, 10, joins(1)), asks(1, 0), asks(1, 1), asks(1, 2))
	want := copyOf(c)
	for i, a := range l {
		for k := range a.Todo[:cap(a.Todo)] {
			a.Todo[:cap(a.Todo)][k] = api.Fence{Zone: -1}
		}
		if i < 2 && l[i+1].Todo[0] != want.Wait[i+1] {
			t.Errorf("two answers share their fences")
		}
	}
	if !same(c, want) {
		t.Errorf("the coordinator changed with an answer: %v", c)
	}
}

// R1: of coordinators that none of the calls told nothing is said but that the calls end.
func TestCoordinatorsThatMayNotBe(t *testing.T) {
	odd := []int{math.MinInt, -1, 0, 1, 7, 1000, 2001, math.MaxInt}
	coords := []api.Coord{{}, {Zones: math.MaxInt}, {Zones: math.MaxInt, Ttl: math.MaxInt}, {Zones: math.MinInt, Ttl: math.MinInt}}
	for _, n := range odd {
		for _, change := range []func(c *api.Coord){
			func(c *api.Coord) { c.T.Last = n },
			func(c *api.Coord) { c.T.Now = n },
			func(c *api.Coord) { c.Ttl = n },
			func(c *api.Coord) { c.Zones = n },
			func(c *api.Coord) { c.T.L[3].Key = n },
			func(c *api.Coord) { c.T.L[3].Host = n },
			func(c *api.Coord) { c.T.L[3].Until = n },
			func(c *api.Coord) { c.S[1].From = n },
			func(c *api.Coord) { c.S[1].Owner = n },
			func(c *api.Coord) { c.S = nil },
			func(c *api.Coord) { c.Wait[0].Zone = n },
			func(c *api.Coord) { c.Wait[0].Host = n },
			func(c *api.Coord) { slices.Reverse(c.T.L) },
		} {
			coords = append(coords, with(change))
		}
	}
	for _, c := range coords {
		for do := range 10 {
			for _, n := range odd {
				for _, m := range odd {
					d, l := coord.All(c, api.Event{Do: do, Host: 1, Zone: n, Epoch: m, From: n, To: m, Now: n, Key: n}, api.Event{Do: do, Host: n, Epoch: 7, Zone: m, Key: m, Now: m})
					if len(l) != 2 || !coord.Same(d, d) {
						t.Errorf("got %v", l)
					}
				}
				coord.Owner(c, n)
				coord.Member(c, n)
			}
		}
		coord.Cleaner(c)
	}
}
