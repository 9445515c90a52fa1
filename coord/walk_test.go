package coord_test

import (
	"maps"
	"slices"
	"testing"

	"quickset/api"
	"quickset/coord"
)

// whose is a block's owner and epoch; no one's is none.
type whose struct{ owner, epoch int }

var none = whose{-1, 0}

// held is a lease but for its key.
type held struct{ host, epoch, until int }

// A model of the document's words by another hand than the program's: it stands on no layer below, its leases are in no order, and it knows each block by itself.
type model struct {
	last, now, ttl, zones int
	by                    map[int]held
	of                    []whose
	wait                  []api.Fence
}

func newModel(zones, blocks, ttl int) *model {
	return &model{ttl: ttl, zones: zones, by: map[int]held{}, of: slices.Repeat([]whose{none}, blocks)}
}

func (m *model) copy() *model {
	n := *m
	n.by, n.of, n.wait = maps.Clone(m.by), slices.Clone(m.of), slices.Clone(m.wait)
	return &n
}

// coord is the model as the program would tell it.
func (m *model) coord() api.Coord {
	c := api.Coord{T: api.Leases{Last: m.last, Now: m.now}, Ttl: m.ttl, Zones: m.zones, Wait: m.wait}
	for key, h := range m.by {
		c.T.L = append(c.T.L, api.Lease{Key: key, Host: h.host, Epoch: h.epoch, Until: h.until})
	}
	slices.SortFunc(c.T.L, func(a, b api.Lease) int { return a.Key - b.Key })
	for lba, w := range m.of {
		if lba == 0 || w != m.of[lba-1] {
			c.S = append(c.S, api.Span{From: lba, Owner: w.owner, Epoch: w.epoch})
		}
		c.S[len(c.S)-1].To = lba + 1
	}
	return c
}

func (m *model) member(host int) bool {
	_, is := m.by[2000+host]
	return is
}

// lease lends a thing under the next epoch.
func (m *model) lease(key, host int) api.Answer {
	if _, is := m.by[key]; is {
		return fails(api.ErrHeld)
	}
	m.last++
	m.by[key] = held{host, m.last, m.now + m.ttl}
	return epoch(m.last)
}

func (m *model) zone(e api.Event) api.Answer {
	if e.Zone < 0 || e.Zone >= m.zones {
		return fails(api.ErrArg)
	}
	if !m.member(e.Host) {
		return fails(api.ErrNone)
	}
	_, is := m.by[e.Zone]
	for _, f := range m.wait {
		is = is || f.Zone == e.Zone
	}
	if is {
		return fails(api.ErrHeld)
	}
	m.last++
	m.wait = append(m.wait, api.Fence{Zone: e.Zone, Host: e.Host, Epoch: m.last})
	return fence(e.Zone, e.Host, m.last)
}

func (m *model) ack(e api.Event) api.Answer {
	for i, f := range m.wait {
		if f.Zone != e.Zone || f.Epoch != e.Epoch {
			continue
		}
		if f.Host != e.Host {
			return fails(api.ErrStale)
		}
		m.wait = slices.Concat(m.wait[:i], m.wait[i+1:])
		m.by[e.Zone] = held{e.Host, e.Epoch, m.now + m.ttl}
		return epoch(e.Epoch)
	}
	return fails(api.ErrNone)
}

func (m *model) span(e api.Event) api.Answer {
	if !m.member(e.Host) {
		return fails(api.ErrNone)
	}
	if e.From < 0 || e.From >= e.To || e.To > len(m.of) {
		return fails(api.ErrArg)
	}
	for _, w := range m.of[e.From:e.To] {
		if w.owner >= 0 && w.owner != e.Host {
			return fails(api.ErrHeld)
		}
	}
	m.last++
	for lba := e.From; lba < e.To; lba++ {
		m.of[lba] = whose{e.Host, m.last}
	}
	return epoch(m.last)
}

func (m *model) elect(e api.Event) api.Answer {
	if !m.member(e.Host) {
		return fails(api.ErrNone)
	}
	return m.lease(1000, e.Host)
}

func (m *model) tick(e api.Event) api.Answer {
	if e.Now < m.now {
		return fails(api.ErrArg)
	}
	m.now = e.Now
	for key, h := range m.by {
		if h.until <= m.now {
			delete(m.by, key)
		}
	}
	m.forget()
	return api.Answer{}
}

// forget takes from whoever is no member what only members have.
func (m *model) forget() {
	for lba, w := range m.of {
		if !m.member(w.owner) {
			m.of[lba] = none
		}
	}
	var wait []api.Fence
	for _, f := range m.wait {
		if m.member(f.Host) {
			wait = append(wait, f)
		}
	}
	m.wait = wait
}

// its tells the error with which a lease is renewed or left.
func (m *model) its(e api.Event) api.Errno {
	h, is := m.by[e.Key]
	switch {
	case !is:
		return api.ErrNone
	case h.host != e.Host || h.epoch != e.Epoch:
		return api.ErrStale
	}
	return api.OK
}

func (m *model) renew(e api.Event) api.Answer {
	if err := m.its(e); err != api.OK {
		return fails(err)
	}
	h := m.by[e.Key]
	h.until = max(h.until, m.now+m.ttl)
	m.by[e.Key] = h
	return api.Answer{}
}

func (m *model) leave(e api.Event) api.Answer {
	if err := m.its(e); err != api.OK {
		return fails(err)
	}
	delete(m.by, e.Key)
	m.forget()
	return api.Answer{}
}

func (m *model) do(e api.Event) api.Answer {
	if e.Do < 1 || e.Do > 8 || e.Do != api.TickE && (e.Host < 0 || e.Host > 7) {
		return fails(api.ErrArg)
	}
	switch e.Do {
	case api.JoinE:
		return m.lease(2000+e.Host, e.Host)
	case api.ZoneE:
		return m.zone(e)
	case api.AckE:
		return m.ack(e)
	case api.SpanE:
		return m.span(e)
	case api.ElectE:
		return m.elect(e)
	case api.TickE:
		return m.tick(e)
	case api.RenewE:
		return m.renew(e)
	}
	return m.leave(e)
}

// wantStep does an event by both, and answers the coordinator behind it.
func wantStep(t *testing.T, c api.Coord, m *model, e api.Event) (api.Coord, api.Answer) {
	t.Helper()
	before := m.coord()
	d, a := coord.Do(c, e)
	want := m.do(e)
	if !sameAnswer(a, want) {
		t.Fatalf("%v at %v: got %v, want %v", e, before, a, want)
	}
	if behind := m.coord(); !same(d, behind) || !coord.Same(d, behind) {
		t.Fatalf("%v at %v: got %v, want %v", e, before, d, behind)
	}
	if !same(c, before) {
		t.Fatalf("%v changed %v to %v", e, before, c)
	}
	return d, a
}

// wantTold looks what the calls that tell of a coordinator say of it.
func wantTold(t *testing.T, c api.Coord, m *model) {
	t.Helper()
	who := func(key int) [2]int {
		if h, is := m.by[key]; is {
			return [2]int{h.host, h.epoch}
		}
		return [2]int{-1, 0}
	}
	for zone := -1; zone <= m.zones; zone++ {
		if host, n := coord.Owner(c, zone); [2]int{host, n} != who(zone) {
			t.Fatalf("Owner of %d of %v: got %d, %d", zone, c, host, n)
		}
	}
	if host, n := coord.Cleaner(c); [2]int{host, n} != who(1000) {
		t.Fatalf("Cleaner of %v: got %d, %d", c, host, n)
	}
	for host := -1; host < 9; host++ {
		if coord.Member(c, host) != m.member(host) {
			t.Fatalf("Member %d of %v", host, c)
		}
	}
}

// events are all of two hosts, zones, blocks and keys, with the epochs up to one.
func events(now, epochs int) []api.Event {
	l := []api.Event{ticks(now - 1), ticks(now), ticks(now + 1), ticks(now + 2)}
	for host := range 2 {
		l = append(l, joins(host), elects(host), spans(host, 0, 1), spans(host, 0, 2), spans(host, 1, 2), spans(host, 1, 1))
		for n := 1; n <= epochs; n++ {
			for _, key := range []int{0, 1000, 2000, 2001} {
				l = append(l, renews(host, key, n), leaves(host, key, n))
			}
		}
		for zone := range 2 {
			l = append(l, asks(host, zone))
			for n := 1; n <= epochs; n++ {
				l = append(l, acks(host, zone, n))
			}
		}
	}
	return l
}

// All ways of three events, from some coordinators.
func TestWalk(t *testing.T) {
	for _, first := range [][]api.Event{
		nil,
		{joins(0), joins(1)},
		{joins(0), asks(0, 0), joins(1), spans(1, 0, 1)},
		{joins(1), asks(1, 0), acks(1, 0, 2), ticks(1), joins(0), asks(0, 1)},
		{joins(0), joins(1), elects(0), ticks(2), joins(1), asks(1, 0), spans(1, 0, 2)},
	} {
		c, m := done(t, 2, 2, 2, first...), newModel(2, 2, 2)
		for _, e := range first {
			m.do(e)
		}
		walk(t, c, m, 3)
	}
}

func walk(t *testing.T, c api.Coord, m *model, left int) {
	t.Helper()
	if left == 0 {
		return
	}
	for _, e := range events(m.now, min(m.last+1, 3)) {
		n := m.copy()
		d, a := wantStep(t, c, n, e)
		if a.E == api.OK {
			wantTold(t, d, n)
			walk(t, d, n, left-1)
		}
	}
}

// witness is one who sees only what is told, and holds P8.4 against it.
type witness struct {
	last  int         // the epoch that was told last
	asked []api.Fence // all fences that ever were told
	done  []api.Fence // those of them that were acknowledged
}

func (w *witness) see(t *testing.T, e api.Event, a api.Answer, c api.Coord) {
	t.Helper()
	switch {
	case a.E != api.OK:
		return
	case e.Do == api.AckE:
		f := api.Fence{Zone: e.Zone, Host: e.Host, Epoch: a.Epoch}
		if !slices.Contains(w.asked, f) || slices.Contains(w.done, f) {
			t.Fatalf("%v came to %v, but this fence was done, or never asked for", e, a)
		}
		w.done = append(w.done, f)
	case e.Do == api.JoinE, e.Do == api.ZoneE, e.Do == api.SpanE, e.Do == api.ElectE:
		if a.Epoch <= w.last {
			t.Fatalf("%v came to the epoch %d behind %d", e, a.Epoch, w.last)
		}
		w.last = a.Epoch
		w.asked = append(w.asked, a.Todo...)
	}
	for zone := range c.Zones {
		host, n := coord.Owner(c, zone)
		if host >= 0 && !slices.Contains(w.done, api.Fence{Zone: zone, Host: host, Epoch: n}) {
			t.Fatalf("zone %d is %d's under %d, but this fence was not done", zone, host, n)
		}
	}
	end := 0
	for _, s := range c.S {
		if s.From != end || s.To <= s.From || s.Owner >= 0 && !coord.Member(c, s.Owner) {
			t.Fatalf("%v stands in %v", s, c)
		}
		end = s.To
	}
}

// numbersRow is a row of numbers that is always the same.
func numbersRow() func(n int) int {
	row := uint64(1)
	return func(n int) int {
		row = row*6364136223846793005 + 1442695040888963407
		return int(row>>33) % n
	}
}

// anEvent is one that a row of numbers tells, often such a one as comes to something.
func anEvent(next func(n int) int, m *model) api.Event {
	e := api.Event{Do: 1 + next(8), Host: next(5), Zone: next(7) - 1, Epoch: next(m.last + 2), Key: []int{0, 1, 2, 1000, 2000, 2001, 2002, 2003, 2004}[next(9)]}
	e.From = next(30) - 1
	e.To = e.From + next(8)
	e.Now = m.now + next(4) - 1
	switch {
	case next(50) == 0:
		e.Do = []int{0, 9, -1}[next(3)]
	case next(30) == 0:
		e.Host = []int{-1, 8, 7}[next(3)]
	case e.Do == api.AckE && len(m.wait) > 0 && next(3) > 0:
		f := m.wait[next(len(m.wait))]
		e.Zone, e.Epoch = f.Zone, f.Epoch
		if next(4) > 0 {
			e.Host = f.Host
		}
	case e.Do >= api.RenewE && next(3) > 0:
		if h, is := m.by[e.Key]; is {
			e.Host, e.Epoch = h.host, h.epoch+next(2)*next(2)
		}
	}
	if e.Do == api.LeaveE && next(3) > 0 {
		e.Do = api.JoinE
	}
	return written(e)
}

// written is an event without numbers below 0 that do not count in it: with them it could come to something, and yet not be written.
func written(e api.Event) api.Event {
	if e.Do != api.SpanE {
		e.From, e.To = 0, 0
	}
	if e.Do != api.ZoneE && e.Do != api.AckE {
		e.Zone = 0
	}
	if e.Do == api.TickE {
		e.Host = max(e.Host, 0)
	} else {
		e.Now = 0
	}
	return e
}

// cameTo is which event came to which error.
type cameTo struct {
	do int
	e  api.Errno
}

// A long way, of which now and then the whole is replayed from the beginning.
func TestLongWay(t *testing.T) {
	next := numbersRow()
	first := done(t, 5, 28, 12)
	c, m, w := first, newModel(5, 28, 12), &witness{}
	came := map[cameTo]int{}
	var b []byte
	var answers []api.Answer
	var all []api.Event
	for i := range 20000 {
		e := anEvent(next, m)
		d, a := wantStep(t, c, m, e)
		w.see(t, e, a, d)
		c = d
		came[cameTo{e.Do, a.E}]++
		all, answers = append(all, e), append(answers, a)
		x, err := coord.Write(e)
		if err != api.OK && a.E == api.OK {
			t.Fatalf("%v can't be written", e)
		}
		b = append(b, x...)
		if i%16 == 0 {
			wantTold(t, c, m)
		}
		if i%5000 == 0 {
			if r, _ := coord.Replay(first, b); !coord.Same(r, c) {
				t.Fatalf("replayed it is %v, not %v", r, c)
			}
		}
	}
	if r, n := coord.Replay(first, b); !coord.Same(r, c) || n < 10000 {
		t.Errorf("replayed it is %v, not %v", r, c)
	}
	if d, l := coord.All(first, all...); !coord.Same(d, c) || !slices.EqualFunc(l, answers, sameAnswer) {
		t.Errorf("all together come to %v, not %v", d, c)
	}
	for _, x := range []cameTo{
		{api.JoinE, api.OK}, {api.JoinE, api.ErrHeld}, {api.JoinE, api.ErrArg},
		{api.ZoneE, api.OK}, {api.ZoneE, api.ErrArg}, {api.ZoneE, api.ErrNone}, {api.ZoneE, api.ErrHeld},
		{api.AckE, api.OK}, {api.AckE, api.ErrNone}, {api.AckE, api.ErrStale},
		{api.SpanE, api.OK}, {api.SpanE, api.ErrArg}, {api.SpanE, api.ErrNone}, {api.SpanE, api.ErrHeld},
		{api.ElectE, api.OK}, {api.ElectE, api.ErrNone}, {api.ElectE, api.ErrHeld},
		{api.TickE, api.OK}, {api.TickE, api.ErrArg},
		{api.RenewE, api.OK}, {api.RenewE, api.ErrNone}, {api.RenewE, api.ErrStale},
		{api.LeaveE, api.OK}, {api.LeaveE, api.ErrNone}, {api.LeaveE, api.ErrStale},
		{9, api.ErrArg},
	} {
		if came[x] < 30 {
			t.Errorf("event %d came to %d only %d times", x.do, x.e, came[x])
		}
	}
}

// A tape with very many events, and a coordinator with all that it can have.
func TestGreatOnes(t *testing.T) {
	first := done(t, 64, most, longest)
	var l []api.Event
	for host := range 8 {
		l = append(l, joins(host))
	}
	for zone := range 64 {
		l = append(l, asks(zone%8, zone), acks(zone%8, zone, 9+zone))
	}
	l = append(l, elects(7))
	for i := range 2000 {
		l = append(l, spans(i%8, 1000*i, 1000*i+500))
	}
	for i := range 20000 {
		l = append(l, renews(0, 2000, 1+i%2))
	}
	c, answers := coord.All(first, l...)
	if len(c.T.L) != 73 || len(c.S) != 4000 || len(c.Wait) != 0 || c.T.Last != 73+2000 || len(answers) != len(l) {
		t.Fatalf("got %d leases, %d spans, %d fences", len(c.T.L), len(c.S), len(c.Wait))
	}
	if r, n := coord.Replay(first, tape(t, l...)); n != len(l) || !coord.Same(r, c) {
		t.Errorf("got %d events", n)
	}
}
