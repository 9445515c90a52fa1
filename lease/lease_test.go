package lease_test

import (
	"math"
	"slices"
	"testing"

	"quickset/api"
	"quickset/lease"
)

const longest = 1 << 40

// table makes one of leases that are written as key, host, epoch, until.
func table(last, now int, l ...[4]int) api.Leases {
	t := api.Leases{Last: last, Now: now}
	for _, x := range l {
		t.L = append(t.L, api.Lease{Key: x[0], Host: x[1], Epoch: x[2], Until: x[3]})
	}
	return t
}

// three is a table that may be: the epochs do not rise with the keys, and one host has two things.
func three() api.Leases {
	return table(9, 5, [4]int{3, 2, 4, 25}, [4]int{7, 0, 9, 15}, [4]int{9, 2, 1, 6})
}

func same(a, b api.Leases) bool {
	return a.Last == b.Last && a.Now == b.Now && slices.Equal(a.L, b.L)
}

func copyOf(t api.Leases) api.Leases {
	t.L = slices.Clone(t.L)
	return t
}

// badTables are those that may not be, each by one thing alone where that can be.
func badTables() []api.Leases {
	l := []api.Leases{
		table(-1, 0),
		table(0, -1),
		table(math.MinInt, 0),
		table(0, math.MinInt),
		table(9, -1, [4]int{3, 2, 4, 25}),
		table(9, 5, [4]int{7, 0, 9, 15}, [4]int{3, 2, 4, 25}),                     // keys fall
		table(9, 5, [4]int{3, 2, 4, 25}, [4]int{3, 2, 9, 25}),                     // keys stay
		table(9, 5, [4]int{3, 2, 4, 25}, [4]int{9, 2, 1, 6}, [4]int{7, 0, 9, 15}), // the last ones fall
		table(9, 5, [4]int{3, 2, 4, 25}, [4]int{7, 0, 4, 15}),                     // epochs alike, side by side
		table(9, 5, [4]int{3, 2, 4, 25}, [4]int{7, 0, 9, 15}, [4]int{9, 1, 4, 6}), // and apart
		table(0, 5, [4]int{3, 2, 0, 25}),
		table(0, 5, [4]int{3, 2, 1, 25}),
	}
	for i := range 3 {
		for _, bad := range []func(x *api.Lease){
			func(x *api.Lease) { x.Host = -1 },
			func(x *api.Lease) { x.Host = 8 },
			func(x *api.Lease) { x.Host = math.MinInt },
			func(x *api.Lease) { x.Host = math.MaxInt },
			func(x *api.Lease) { x.Epoch = 0 },
			func(x *api.Lease) { x.Epoch = -1 },
			func(x *api.Lease) { x.Epoch = 10 },
			func(x *api.Lease) { x.Epoch = math.MaxInt },
			func(x *api.Lease) { x.Until = 5 },
			func(x *api.Lease) { x.Until = 4 },
			func(x *api.Lease) { x.Until = 0 },
			func(x *api.Lease) { x.Until = -1 },
			func(x *api.Lease) { x.Until = math.MinInt },
		} {
			t := three()
			bad(&t.L[i])
			l = append(l, t)
		}
	}
	for _, key := range []int{-1, math.MinInt} {
		t := three()
		t.L[0].Key = key
		l = append(l, t)
	}
	return l
}

// P6.1

func TestCheck(t *testing.T) {
	for _, x := range []api.Leases{
		{},
		{L: []api.Lease{}},
		table(7, 0),
		table(0, 7),
		table(math.MaxInt, math.MaxInt),
		table(1, 0, [4]int{0, 0, 1, 1}),
		table(1, 0, [4]int{0, 7, 1, 1}),
		table(2, 0, [4]int{0, 0, 2, 1}),
		table(2, 0, [4]int{0, 0, 2, 1}, [4]int{1, 0, 1, 1}),
		table(2, 0, [4]int{0, 0, 1, 1}, [4]int{math.MaxInt, 0, 2, 1}),
		table(math.MaxInt, math.MaxInt-1, [4]int{math.MaxInt, 7, math.MaxInt, math.MaxInt}),
		table(3, 5, [4]int{1000, 0, 1, 6}, [4]int{2000, 0, 2, longest * 4}),
		three(),
	} {
		if e := lease.Check(x); e != api.OK {
			t.Errorf("%v: got %d", x, e)
		}
	}
	for _, x := range badTables() {
		if e := lease.Check(x); e != api.ErrArg {
			t.Errorf("%v: got %d, want ErrArg", x, e)
		}
	}
}

// Of a table that may not be ErrArg is told (or nothing), also where there is another error, and where what is asked for stands in it.
func TestTablesThatMayNotBe(t *testing.T) {
	for _, x := range badTables() {
		for _, n := range []int{-1, 0, 1, 3, 5, 7, 9, 100} {
			if y, over, e := lease.Tick(x, n); !same(y, api.Leases{}) || len(over) != 0 || e != api.ErrArg {
				t.Errorf("Tick %d of %v: got %v, %v, %d", n, x, y, over, e)
			}
			if y, l, e := lease.Grant(x, n, 2, 1); !same(y, api.Leases{}) || l != (api.Lease{}) || e != api.ErrArg {
				t.Errorf("Grant of %d of %v: got %v, %v, %d", n, x, y, l, e)
			}
			for epoch := range 11 {
				if y, e := lease.Renew(x, n, 2, epoch, 1); !same(y, api.Leases{}) || e != api.ErrArg {
					t.Errorf("Renew of %d of %v: got %v, %d", n, x, y, e)
				}
			}
			if y, e := lease.Revoke(x, n); !same(y, api.Leases{}) || e != api.ErrArg {
				t.Errorf("Revoke of %d of %v: got %v, %d", n, x, y, e)
			}
			if l, is := lease.Holder(x, n); l != (api.Lease{}) || is {
				t.Errorf("Holder of %d of %v: got %v", n, x, l)
			}
			if l := lease.Of(x, n); len(l) != 0 {
				t.Errorf("Of %d of %v: got %v", n, x, l)
			}
			if u := lease.Next(x, n); u != 0 {
				t.Errorf("Next of %d of %v: got %d", n, x, u)
			}
		}
		if u := lease.Next(x); u != 0 {
			t.Errorf("Next of %v: got %d", x, u)
		}
	}
}

func TestHolder(t *testing.T) {
	x := three()
	for _, l := range x.L {
		if got, is := lease.Holder(x, l.Key); got != l || !is {
			t.Errorf("%d: got %v, %v", l.Key, got, is)
		}
	}
	for _, key := range []int{math.MinInt, -1, 0, 2, 4, 6, 8, 10, math.MaxInt} {
		if got, is := lease.Holder(x, key); got != (api.Lease{}) || is {
			t.Errorf("%d: got %v, %v", key, got, is)
		}
	}
	if got, is := lease.Holder(api.Leases{}, 0); got != (api.Lease{}) || is {
		t.Errorf("got %v, %v", got, is)
	}
}

func TestOf(t *testing.T) {
	x := table(9, 0, [4]int{0, 7, 5, 1}, [4]int{3, 2, 4, 9}, [4]int{7, 0, 9, 3}, [4]int{8, 2, 1, 2}, [4]int{2000, 2, 3, 1})
	for host, want := range map[int][]int{0: {7}, 1: nil, 2: {3, 8, 2000}, 7: {0}, -1: nil, 8: nil, math.MinInt: nil, math.MaxInt: nil} {
		if got := lease.Of(x, host); !slices.Equal(got, want) {
			t.Errorf("%d: got %v, want %v", host, got, want)
		}
	}
	if got := lease.Of(api.Leases{Last: 3}, 0); len(got) != 0 {
		t.Errorf("got %v", got)
	}
}

func TestNext(t *testing.T) {
	x := three()
	for _, c := range []struct {
		keys []int
		want int
	}{
		{nil, 6},
		{[]int{}, 6},
		{[]int{3}, 25},
		{[]int{7}, 15},
		{[]int{9}, 6},
		{[]int{3, 7}, 15},
		{[]int{7, 3}, 15},
		{[]int{3, 3, 3}, 25},
		{[]int{9, 7, 3}, 6},
		{[]int{4, 3, -1, 7, 100}, 15}, // of the others there is none
		{[]int{4}, 0},
		{[]int{4, -1, math.MinInt, math.MaxInt}, 0},
	} {
		if got := lease.Next(x, c.keys...); got != c.want {
			t.Errorf("%v: got %d, want %d", c.keys, got, c.want)
		}
	}
	if got := lease.Next(api.Leases{Last: 4, Now: 7}); got != 0 {
		t.Errorf("without leases: got %d", got)
	}
	if got := lease.Next(table(3, math.MaxInt-1, [4]int{1, 0, 3, math.MaxInt})); got != math.MaxInt {
		t.Errorf("got %d", got)
	}
}

// P6.2

func TestTick(t *testing.T) {
	for _, c := range []struct {
		now         int
		over, still []int // places in three
	}{
		{5, nil, []int{0, 1, 2}},
		{6, []int{2}, []int{0, 1}},
		{7, []int{2}, []int{0, 1}},
		{14, []int{2}, []int{0, 1}},
		{15, []int{1, 2}, []int{0}},
		{24, []int{1, 2}, []int{0}},
		{25, []int{0, 1, 2}, nil},
		{26, []int{0, 1, 2}, nil},
		{math.MaxInt, []int{0, 1, 2}, nil},
	} {
		want, all, wantOver := api.Leases{Last: 9, Now: c.now}, three().L, []api.Lease(nil)
		for _, i := range c.over {
			wantOver = append(wantOver, all[i])
		}
		for _, i := range c.still {
			want.L = append(want.L, all[i])
		}
		got, over, e := lease.Tick(three(), c.now)
		if !same(got, want) || !slices.Equal(over, wantOver) || e != api.OK {
			t.Errorf("%d: got %v, %v, %d, want %v, %v", c.now, got, over, e, want, wantOver)
		}
		if lease.Check(got) != api.OK {
			t.Errorf("%d: %v may not be", c.now, got)
		}
	}
	for _, now := range []int{4, 0, -1, math.MinInt} {
		if got, over, e := lease.Tick(three(), now); !same(got, api.Leases{}) || len(over) != 0 || e != api.ErrArg {
			t.Errorf("%d: got %v, %v, %d", now, got, over, e)
		}
	}
	if got, over, e := lease.Tick(api.Leases{}, 0); !same(got, api.Leases{}) || len(over) != 0 || e != api.OK {
		t.Errorf("got %v, %v, %d", got, over, e)
	}
}

// P6.3

func TestGrant(t *testing.T) {
	for at, key := range map[int]int{0: 0, 1: 4, 2: 8, 3: math.MaxInt} {
		for _, host := range []int{0, 2, 7} {
			for _, ttl := range []int{1, 2, longest - 1, longest} {
				l := api.Lease{Key: key, Host: host, Epoch: 10, Until: 5 + ttl}
				want := api.Leases{Last: 10, Now: 5, L: slices.Insert(three().L, at, l)}
				got, granted, e := lease.Grant(three(), key, host, ttl)
				if !same(got, want) || granted != l || e != api.OK {
					t.Errorf("%d, %d, %d: got %v, %v, %d, want %v", key, host, ttl, got, granted, e, want)
				}
				if lease.Check(got) != api.OK {
					t.Errorf("%v may not be", got)
				}
			}
		}
	}
	got, granted, e := lease.Grant(api.Leases{}, 0, 0, 1)
	if want := table(1, 0, [4]int{0, 0, 1, 1}); !same(got, want) || granted != want.L[0] || e != api.OK {
		t.Errorf("got %v, %v, %d", got, granted, e)
	}
}

func TestGrantErrors(t *testing.T) {
	for _, x := range []struct {
		key, host, ttl int
		want           api.Errno
	}{
		{-1, 0, 1, api.ErrArg},
		{math.MinInt, 0, 1, api.ErrArg},
		{4, -1, 1, api.ErrArg},
		{4, math.MinInt, 1, api.ErrArg},
		{4, 8, 1, api.ErrArg},
		{4, math.MaxInt, 1, api.ErrArg},
		{4, 0, 0, api.ErrArg},
		{4, 0, -1, api.ErrArg},
		{4, 0, math.MinInt, api.ErrArg},
		{4, 0, longest + 1, api.ErrArg},
		{4, 0, math.MaxInt, api.ErrArg},
		{3, 2, 1, api.ErrHeld}, // also by the same host
		{3, 1, 1, api.ErrHeld},
		{7, 0, longest, api.ErrHeld},
		{9, 7, 1, api.ErrHeld},
		{3, 8, 1, api.ErrArg}, // ahead of ErrHeld
		{3, -1, 1, api.ErrArg},
		{3, 2, 0, api.ErrArg},
		{3, 1, longest + 1, api.ErrArg},
	} {
		got, l, e := lease.Grant(three(), x.key, x.host, x.ttl)
		if !same(got, api.Leases{}) || l != (api.Lease{}) || e != x.want {
			t.Errorf("%v: got %v, %v, %d", x, got, l, e)
		}
	}
}

// P6.4

func TestRenew(t *testing.T) {
	for i, l := range three().L {
		for _, ttl := range []int{1, 2, l.Until - 6, l.Until - 5, l.Until - 4, 100, longest - 1, longest} {
			if ttl == 0 {
				continue
			}
			want := three()
			if 5+ttl > l.Until {
				want.L[i].Until = 5 + ttl
			}
			got, e := lease.Renew(three(), l.Key, l.Host, l.Epoch, ttl)
			if !same(got, want) || e != api.OK {
				t.Errorf("%d for %d: got %v, %d, want %v", l.Key, ttl, got, e, want)
			}
		}
	}
}

func TestRenewErrors(t *testing.T) {
	for _, x := range []struct {
		key, host, epoch, ttl int
		want                  api.Errno
	}{
		{3, 2, 4, 0, api.ErrArg},
		{3, 2, 4, -1, api.ErrArg},
		{3, 2, 4, math.MinInt, api.ErrArg},
		{3, 2, 4, longest + 1, api.ErrArg},
		{3, 2, 4, math.MaxInt, api.ErrArg},
		{4, 2, 4, 0, api.ErrArg}, // ahead of ErrNone
		{3, 1, 4, 0, api.ErrArg}, // and of ErrStale
		{3, 2, 3, longest + 1, api.ErrArg},
		{4, 2, 4, 1, api.ErrNone},
		{0, 2, 4, 1, api.ErrNone},
		{10, 2, 4, 1, api.ErrNone},
		{-1, 2, 4, 1, api.ErrNone},
		{4, -1, 0, 1, api.ErrNone}, // ahead of what would be ErrStale
		{math.MinInt, 2, 4, 1, api.ErrNone},
		{math.MaxInt, 2, 4, 1, api.ErrNone},
		{3, 0, 4, 1, api.ErrStale},
		{3, -1, 4, 1, api.ErrStale},
		{3, 8, 4, 1, api.ErrStale},
		{3, 2, 3, 1, api.ErrStale},
		{3, 2, 5, 1, api.ErrStale},
		{3, 2, 0, 1, api.ErrStale},
		{3, 2, 1, 1, api.ErrStale}, // the same host's epoch of another thing
		{3, 0, 9, 1, api.ErrStale}, // another thing's lease
	} {
		got, e := lease.Renew(three(), x.key, x.host, x.epoch, x.ttl)
		if !same(got, api.Leases{}) || e != x.want {
			t.Errorf("%v: got %v, %d", x, got, e)
		}
	}
}

func TestRevoke(t *testing.T) {
	for i, l := range three().L {
		want := three()
		want.L = slices.Delete(want.L, i, i+1)
		if got, e := lease.Revoke(three(), l.Key); !same(got, want) || e != api.OK {
			t.Errorf("%d: got %v, %d, want %v", l.Key, got, e, want)
		}
	}
	for _, key := range []int{math.MinInt, -1, 0, 2, 4, 8, 10, math.MaxInt} {
		if got, e := lease.Revoke(three(), key); !same(got, api.Leases{}) || e != api.ErrNone {
			t.Errorf("%d: got %v, %d", key, got, e)
		}
	}
	if got, e := lease.Revoke(table(4, 2, [4]int{0, 1, 3, 4}), 0); !same(got, api.Leases{Last: 4, Now: 2}) || e != api.OK {
		t.Errorf("the only one: got %v, %d", got, e)
	}
}

// The chapter's examples, and DOC.md's fourth.
func TestExamples(t *testing.T) {
	x, l, e := lease.Grant(api.Leases{}, 3, 1, 10)
	if l != (api.Lease{Key: 3, Host: 1, Epoch: 1, Until: 10}) || e != api.OK {
		t.Errorf("got %v, %d", l, e)
	}
	if _, _, e := lease.Grant(x, 3, 2, 10); e != api.ErrHeld {
		t.Errorf("got %d", e)
	}
	if y, over, _ := lease.Tick(x, 9); len(over) != 0 || len(y.L) != 1 {
		t.Errorf("got %v, %v", y, over)
	}
	x, over, e := lease.Tick(x, 10)
	if !slices.Equal(over, []api.Lease{l}) || e != api.OK {
		t.Errorf("got %v, %d", over, e)
	}
	if _, l, e := lease.Grant(x, 3, 2, 10); l != (api.Lease{Key: 3, Host: 2, Epoch: 2, Until: 20}) || e != api.OK {
		t.Errorf("got %v, %d", l, e)
	}
}

// R1: sums beyond an int are promised nothing, but that the call ends.
func TestGreatNumbers(t *testing.T) {
	x := table(math.MaxInt, math.MaxInt-1, [4]int{3, 2, 4, math.MaxInt})
	lease.Grant(x, 4, 0, longest)
	lease.Renew(x, 3, 2, 4, longest)
	if got, e := lease.Renew(x, 3, 2, 4, 1); !same(got, x) || e != api.OK {
		t.Errorf("got %v, %d", got, e)
	}
	if got, e := lease.Revoke(x, 3); !same(got, table(math.MaxInt, math.MaxInt-1)) || e != api.OK {
		t.Errorf("got %v, %d", got, e)
	}
}

// R2: nothing that was handed in is changed, and nothing is shared with what is told.
func TestNothingIsShared(t *testing.T) {
	for name, call := range map[string]func(x api.Leases) []api.Lease{
		"Tick":       func(x api.Leases) []api.Lease { y, _, _ := lease.Tick(x, 5); return y.L },
		"Tick later": func(x api.Leases) []api.Lease { y, _, _ := lease.Tick(x, 20); return y.L },
		"Tick, over": func(x api.Leases) []api.Lease { _, over, _ := lease.Tick(x, 20); return over },
		"Grant":      func(x api.Leases) []api.Lease { y, _, _ := lease.Grant(x, 4, 0, 1); return y.L },
		"Grant last": func(x api.Leases) []api.Lease { y, _, _ := lease.Grant(x, 10, 0, 1); return y.L },
		"Renew":      func(x api.Leases) []api.Lease { y, _ := lease.Renew(x, 7, 0, 9, 50); return y.L },
		"Renew less": func(x api.Leases) []api.Lease { y, _ := lease.Renew(x, 7, 0, 9, 1); return y.L },
		"Revoke":     func(x api.Leases) []api.Lease { y, _ := lease.Revoke(x, 7); return y.L },
		"last one":   func(x api.Leases) []api.Lease { y, _ := lease.Revoke(x, 9); return y.L },
		"first one":  func(x api.Leases) []api.Lease { y, _ := lease.Revoke(x, 3); return y.L },
	} {
		x := three()
		x.L = append(make([]api.Lease, 0, 8), x.L...) // with room that a call could write into
		room := x.L[3:8]
		before := slices.Clone(x.L)
		told := call(x)
		if !slices.Equal(x.L, before) || !slices.Equal(room, make([]api.Lease, 5)) {
			t.Errorf("%s changed what was handed in: %v, %v", name, x.L, room)
		}
		want := slices.Clone(told)
		for i := range x.L {
			x.L[i] = api.Lease{Key: -1}
		}
		if !slices.Equal(told, want) {
			t.Errorf("%s: what was told changed with what was handed in", name)
		}
		copy(x.L, before)
		told = told[:cap(told)]
		for i := range told {
			told[i] = api.Lease{Key: -2}
		}
		if !slices.Equal(x.L, before) {
			t.Errorf("%s: what was handed in changed with what was told", name)
		}
	}
}

func TestTickTellsTwoLists(t *testing.T) {
	x, over, _ := lease.Tick(three(), 6)
	want := copyOf(x)
	for over = over[:cap(over)]; len(over) > 0; over = over[1:] {
		over[0] = api.Lease{Key: -1}
	}
	if !same(x, want) {
		t.Errorf("got %v, want %v", x, want)
	}
}

func TestNextLeavesItsKeys(t *testing.T) {
	keys := []int{9, 3, 7}
	lease.Next(three(), keys...)
	if !slices.Equal(keys, []int{9, 3, 7}) {
		t.Errorf("got %v", keys)
	}
}
