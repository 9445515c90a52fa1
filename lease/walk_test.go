package lease_test

import (
	"slices"
	"testing"

	"quickset/api"
	"quickset/lease"
)

// A model of the document's words by another hand than the program's: leases by their keys, in no order.
type model struct {
	last, now int
	by        map[int]api.Lease
}

// step is one call, told by which it is and its numbers.
type step struct{ do, key, host, epoch, n int }

const (
	tick = iota
	grant
	renew
	revoke
)

func (m *model) tick(now int) ([]api.Lease, api.Errno) {
	if now < m.now {
		return nil, api.ErrArg
	}
	m.now = now
	var over []api.Lease
	for key, l := range m.by {
		if l.Until <= now {
			over = append(over, l)
			delete(m.by, key)
		}
	}
	slices.SortFunc(over, func(a, b api.Lease) int { return a.Key - b.Key })
	return over, api.OK
}

func (m *model) grant(s step) api.Errno {
	if s.key < 0 || s.host < 0 || s.host > 7 || s.n < 1 || s.n > 1<<40 {
		return api.ErrArg
	}
	if _, held := m.by[s.key]; held {
		return api.ErrHeld
	}
	m.last++
	m.by[s.key] = api.Lease{Key: s.key, Host: s.host, Epoch: m.last, Until: m.now + s.n}
	return api.OK
}

func (m *model) renew(s step) api.Errno {
	if s.n < 1 || s.n > 1<<40 {
		return api.ErrArg
	}
	l, held := m.by[s.key]
	if !held {
		return api.ErrNone
	}
	if l.Host != s.host || l.Epoch != s.epoch {
		return api.ErrStale
	}
	if m.now+s.n > l.Until {
		l.Until = m.now + s.n
	}
	m.by[s.key] = l
	return api.OK
}

func (m *model) revoke(key int) api.Errno {
	if _, held := m.by[key]; !held {
		return api.ErrNone
	}
	delete(m.by, key)
	return api.OK
}

func (m *model) copy() *model {
	by := map[int]api.Lease{}
	for key, l := range m.by {
		by[key] = l
	}
	return &model{m.last, m.now, by}
}

// table is the model as the program would tell it.
func (m *model) table() api.Leases {
	t := api.Leases{Last: m.last, Now: m.now}
	for _, l := range m.by {
		t.L = append(t.L, l)
	}
	slices.SortFunc(t.L, func(a, b api.Lease) int { return a.Key - b.Key })
	return t
}

// told is what a step tells beside the table.
type told struct {
	over    []api.Lease
	granted api.Lease
	e       api.Errno
}

func (m *model) do(s step) told {
	var r told
	switch s.do {
	case tick:
		r.over, r.e = m.tick(m.now + s.n)
	case grant:
		if r.e = m.grant(s); r.e == api.OK {
			r.granted = m.by[s.key]
		}
	case renew:
		r.e = m.renew(s)
	case revoke:
		r.e = m.revoke(s.key)
	}
	return r
}

func does(t api.Leases, s step) (api.Leases, told) {
	var r told
	switch s.do {
	case tick:
		t, r.over, r.e = lease.Tick(t, t.Now+s.n)
	case grant:
		t, r.granted, r.e = lease.Grant(t, s.key, s.host, s.n)
	case renew:
		t, r.e = lease.Renew(t, s.key, s.host, s.epoch, s.n)
	case revoke:
		t, r.e = lease.Revoke(t, s.key)
	}
	return t, r
}

// wantStep does a step by both, and answers the table behind it (the one before, if there was an error) and the error.
func wantStep(t *testing.T, x api.Leases, m *model, s step) (api.Leases, api.Errno) {
	t.Helper()
	before := copyOf(x)
	want := m.do(s)
	got, r := does(x, s)
	if !slices.Equal(r.over, want.over) || r.granted != want.granted || r.e != want.e {
		t.Fatalf("%v at %v: got %v, want %v", s, before, r, want)
	}
	if !same(x, before) {
		t.Fatalf("%v changed %v to %v", s, before, x)
	}
	if r.e != api.OK {
		if !same(got, api.Leases{}) {
			t.Fatalf("%v at %v: error %d, and %v", s, before, r.e, got)
		}
		return x, r.e
	}
	if !same(got, m.table()) || lease.Check(got) != api.OK {
		t.Fatalf("%v at %v: got %v, want %v", s, before, got, m.table())
	}
	wantFollows(t, before, got, s, r)
	return got, api.OK
}

// P6.5, by what is told alone.
func wantFollows(t *testing.T, before, behind api.Leases, s step, r told) {
	t.Helper()
	if s.do == grant && (r.granted.Epoch <= before.Last || r.granted.Epoch != behind.Last) {
		t.Fatalf("%v at %v: the epoch %d is no later one", s, before, r.granted.Epoch)
	}
	if s.do != grant && behind.Last != before.Last {
		t.Fatalf("%v at %v: Last is %d", s, before, behind.Last)
	}
	for _, l := range before.L {
		h, is := lease.Holder(behind, l.Key)
		ended := s.do == revoke && s.key == l.Key || l.Until <= behind.Now
		if is == ended || is && (h.Host != l.Host || h.Epoch != l.Epoch || h.Until < l.Until) {
			t.Fatalf("%v at %v: the lease %v became %v, %v", s, before, l, h, is)
		}
		if s.do == tick && slices.Contains(r.over, l) != ended {
			t.Fatalf("%v at %v: told %v as over", s, before, r.over)
		}
	}
}

// wantTold looks what the calls that tell of a table say of it.
func wantTold(t *testing.T, x api.Leases, m *model, keys []int) {
	t.Helper()
	for host := -1; host < 9; host++ {
		var its []int
		for key, l := range m.by {
			if l.Host == host {
				its = append(its, key)
			}
		}
		slices.Sort(its)
		if got := lease.Of(x, host); !slices.Equal(got, its) {
			t.Fatalf("Of %d of %v: got %v, want %v", host, x, got, its)
		}
	}
	least := 0
	for _, l := range m.by {
		if least == 0 || l.Until < least {
			least = l.Until
		}
	}
	if got := lease.Next(x); got != least {
		t.Fatalf("Next of %v: got %d, want %d", x, got, least)
	}
	for _, a := range keys {
		l, held := m.by[a]
		if got, is := lease.Holder(x, a); got != l || is != held {
			t.Fatalf("Holder of %d of %v: got %v, %v", a, x, got, is)
		}
		for _, b := range keys {
			want := m.by[b].Until
			if want == 0 || l.Until != 0 && l.Until < want {
				want = l.Until
			}
			if got := lease.Next(x, a, b); got != want {
				t.Fatalf("Next of %d and %d of %v: got %d, want %d", a, b, x, got, want)
			}
		}
	}
}

// steps are all of few keys, hosts, epochs and times.
func steps() []step {
	l := []step{{do: tick, n: -1}, {do: tick}, {do: tick, n: 1}, {do: tick, n: 2}}
	for key := range 2 {
		l = append(l, step{do: revoke, key: key})
		for host := range 2 {
			for _, n := range []int{1, 3} {
				l = append(l, step{do: grant, key: key, host: host, n: n})
				for epoch := 1; epoch <= 2; epoch++ {
					l = append(l, step{do: renew, key: key, host: host, epoch: epoch, n: n})
				}
			}
		}
	}
	return l
}

// All ways of three steps, from no lease and from two.
func TestWalk(t *testing.T) {
	all := steps()
	var walk func(x api.Leases, m *model, left int)
	walk = func(x api.Leases, m *model, left int) {
		wantTold(t, x, m, []int{0, 1, 2})
		if left == 0 {
			return
		}
		for _, s := range all {
			n := m.copy()
			y, _ := wantStep(t, x, n, s)
			walk(y, n, left-1)
		}
	}
	walk(api.Leases{}, &model{by: map[int]api.Lease{}}, 3)
	x := table(2, 7, [4]int{0, 0, 2, 8}, [4]int{1, 1, 1, 10})
	walk(x, &model{2, 7, map[int]api.Lease{0: x.L[0], 1: x.L[1]}}, 3)
}

// Long ways, whose steps a row of numbers tells that is always the same.
func TestLongWay(t *testing.T) {
	row := uint64(1)
	next := func(n int) int {
		row = row*6364136223846793005 + 1442695040888963407
		return int(row>>33) % n
	}
	keys := []int{-1, 0, 1, 5, 63, 1000, 2000, 2007}
	x, m := api.Leases{}, &model{by: map[int]api.Lease{}}
	done := map[cameTo]int{}
	for range 30000 {
		s := step{do: next(4), key: keys[next(len(keys))], host: next(10) - 1, n: next(40) - 1}
		if s.do == tick {
			s.n = next(6) - 1
		}
		if l, held := m.by[s.key]; s.do == renew && held && next(3) > 0 {
			s.host, s.epoch = l.Host, l.Epoch+next(2)*next(2)
		}
		if s.do == revoke && next(4) > 0 {
			s.do = grant
		}
		y, e := wantStep(t, x, m, s)
		x = y
		done[cameTo{s.do, e}]++
		wantTold(t, x, m, keys)
	}
	for _, c := range []cameTo{
		{tick, api.OK}, {tick, api.ErrArg},
		{grant, api.OK}, {grant, api.ErrArg}, {grant, api.ErrHeld},
		{renew, api.OK}, {renew, api.ErrArg}, {renew, api.ErrNone}, {renew, api.ErrStale},
		{revoke, api.OK}, {revoke, api.ErrNone},
	} {
		if done[c] < 50 {
			t.Errorf("step %d came to %d only %d times", c.do, c.e, done[c])
		}
	}
}

// cameTo is which step came to which error.
type cameTo struct {
	do int
	e  api.Errno
}

// A great table: many keys of few hosts.
func TestGreatTable(t *testing.T) {
	x := api.Leases{Last: 100000}
	for i := range 100000 {
		x.L = append(x.L, api.Lease{Key: 2 * i, Host: i % 8, Epoch: 100000 - i, Until: i + 1})
	}
	if e := lease.Check(x); e != api.OK {
		t.Fatalf("got %d", e)
	}
	if n := len(lease.Of(x, 3)); n != 12500 {
		t.Errorf("got %d", n)
	}
	y, over, e := lease.Tick(x, 60000)
	if len(over) != 60000 || len(y.L) != 40000 || e != api.OK || lease.Next(y) != 60001 {
		t.Errorf("got %d, %d, %d", len(over), len(y.L), e)
	}
	keys := make([]int, 100000)
	for i := range keys {
		keys[i] = 199999 - i
	}
	if u := lease.Next(y, keys...); u != 60001 {
		t.Errorf("got %d", u)
	}
	y.L[39999].Epoch = y.L[0].Epoch
	if lease.Check(y) != api.ErrArg {
		t.Error("an epoch stands in it twice")
	}
}
