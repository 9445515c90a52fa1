package coord

import (
	"slices"
	"sort"

	"quickset/api"
	"quickset/lease"
	"quickset/span"
)

// desk is where events are done: it has the coordinator for its own.
type desk struct {
	api.Coord
}

func newDesk(c api.Coord) *desk {
	k := &desk{c}
	k.T.L = slices.Clone(c.T.L)
	k.S = slices.Clone(c.S)
	k.Wait = slices.Clone(c.Wait)
	return k
}

// acts tells what each kind of event does, once its host is found good. With an error an act changes nothing.
func (k *desk) acts() map[int]func(e api.Event) api.Answer {
	return map[int]func(e api.Event) api.Answer{
		api.JoinE:  k.join,
		api.ZoneE:  k.ask,
		api.AckE:   k.ack,
		api.SpanE:  k.give,
		api.ElectE: k.elect,
		api.TickE:  k.tick,
		api.RenewE: k.renew,
		api.LeaveE: k.leave,
	}
}

// do does an event by the act of its kind. It is no host that lets it be later.
func (k *desk) do(e api.Event, acts map[int]func(e api.Event) api.Answer) api.Answer {
	act, known := acts[e.Do]
	if !known || e.Do != api.TickE && !hostMayBe(e.Host) {
		return refused(api.ErrArg)
	}
	return act(e)
}

func refused(e api.Errno) api.Answer { return api.Answer{E: e} }

func (k *desk) join(e api.Event) api.Answer {
	return k.grant(api.MemberK+e.Host, e.Host)
}

func (k *desk) elect(e api.Event) api.Answer {
	if !Member(k.Coord, e.Host) {
		return refused(api.ErrNone)
	}
	return k.grant(api.CleanerK, e.Host)
}

// grant grants at once what needs no fence.
func (k *desk) grant(key, host int) api.Answer {
	t, l, e := lease.Grant(k.T, key, host, k.Ttl)
	if e != api.OK {
		return refused(e)
	}
	k.T = t
	return api.Answer{Epoch: l.Epoch}
}

// ask gives a zone's epoch away already, but not the zone: the fence must be done at the device ahead of that.
func (k *desk) ask(e api.Event) api.Answer {
	switch {
	case !isZone(k.Coord, e.Zone):
		return refused(api.ErrArg)
	case !Member(k.Coord, e.Host):
		return refused(api.ErrNone)
	case k.isAway(e.Zone):
		return refused(api.ErrHeld)
	}
	f := api.Fence{Zone: e.Zone, Host: e.Host, Epoch: k.nextEpoch()}
	k.Wait = append(k.Wait, f)
	return api.Answer{Epoch: f.Epoch, Todo: []api.Fence{f}}
}

// isAway tells whether a zone is someone's, or will be when its fence is done.
func (k *desk) isAway(zone int) bool {
	host, _ := Owner(k.Coord, zone)
	asked := func(f api.Fence) bool { return f.Zone == zone }
	return host != noOne || slices.ContainsFunc(k.Wait, asked)
}

// nextEpoch takes one of the table's epochs for what is no lease, or not yet.
func (k *desk) nextEpoch() int {
	k.T.Last++
	return k.T.Last
}

func (k *desk) ack(e api.Event) api.Answer {
	at := slices.IndexFunc(k.Wait, func(f api.Fence) bool { return f.Zone == e.Zone && f.Epoch == e.Epoch })
	switch {
	case at < 0:
		return refused(api.ErrNone)
	case k.Wait[at].Host != e.Host:
		return refused(api.ErrStale)
	}
	k.Wait = slices.Delete(k.Wait, at, at+1)
	k.insert(api.Lease{Key: e.Zone, Host: e.Host, Epoch: e.Epoch, Until: k.T.Now + k.Ttl})
	return api.Answer{Epoch: e.Epoch}
}

// insert lays a lease in its place in the table. lease.Grant would take a new epoch for it, but the fence is done under the elder one.
func (k *desk) insert(l api.Lease) {
	at := sort.Search(len(k.T.L), func(i int) bool { return k.T.L[i].Key >= l.Key })
	k.T.L = slices.Insert(k.T.L, at, l)
}

func (k *desk) give(e api.Event) api.Answer {
	if !Member(k.Coord, e.Host) {
		return refused(api.ErrNone)
	}
	were, err := span.Parts(k.S, e.From, e.To)
	if err != api.OK {
		return refused(err)
	}
	anothers := func(s api.Span) bool { return s.Owner != noOne && s.Owner != e.Host }
	if slices.ContainsFunc(were, anothers) {
		return refused(api.ErrHeld)
	}
	s, err := span.Give(k.S, e.From, e.To, e.Host, k.T.Last+1)
	if err != api.OK {
		return refused(err)
	}
	k.S = s
	return api.Answer{Epoch: k.nextEpoch()}
}

func (k *desk) tick(e api.Event) api.Answer {
	t, over, err := lease.Tick(k.T, e.Now)
	if err != api.OK {
		return refused(err)
	}
	k.T = t
	for _, l := range over {
		k.ended(l.Key)
	}
	return api.Answer{}
}

func (k *desk) renew(e api.Event) api.Answer {
	t, err := lease.Renew(k.T, e.Key, e.Host, e.Epoch, k.Ttl)
	if err != api.OK {
		return refused(err)
	}
	k.T = t
	return api.Answer{}
}

func (k *desk) leave(e api.Event) api.Answer {
	l, held := lease.Holder(k.T, e.Key)
	switch {
	case !held:
		return refused(api.ErrNone)
	case l.Host != e.Host, l.Epoch != e.Epoch:
		return refused(api.ErrStale)
	}
	// A lease that is held can always be revoked.
	k.T, _ = lease.Revoke(k.T, e.Key)
	k.ended(e.Key)
	return api.Answer{}
}

// ended does what comes with a lease's end: who is no member any more keeps no blocks, and must not be granted a zone by a fence that is done late. The zones stay its own until their leases end.
func (k *desk) ended(key int) {
	host := key - api.MemberK
	if !hostMayBe(host) {
		return
	}
	// Only spans that may not be, or such a host, have Take fail.
	k.S, _, _ = span.Take(k.S, host)
	k.Wait = slices.DeleteFunc(k.Wait, func(f api.Fence) bool { return f.Host == host })
}
