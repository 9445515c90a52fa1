package zns

import (
	"bytes"
	"slices"

	"quickset/api"
	"quickset/zone"
)

// desk is where commands are done: it has the device for its own. Whether that one may be is looked at once alone, for no command makes a device that may not be of one that may.
type desk struct {
	api.Zns
	mayBe bool
}

func newDesk(d api.Zns) *desk {
	k := &desk{Zns: d, mayBe: Check(d) == api.OK}
	k.Z = slices.Clone(d.Z)
	for i := range k.Z {
		k.Z[i].Data = bytes.Clone(k.Z[i].Data)
	}
	return k
}

// acts tells what each kind of command does, once its zone and epoch are found good. With an error an act changes nothing.
func (k *desk) acts() map[int]func(c api.Cmd) api.Done {
	return map[int]func(c api.Cmd) api.Done{
		api.AppendC: k.add,
		api.TornC:   k.tear,
		api.ReadC:   k.read,
		api.ResetC:  k.reset,
		api.FinishC: k.finish,
		api.OpenC:   k.open,
		api.CloseC:  k.close,
		api.FenceC:  k.fence,
	}
}

// do does a command by the act of its kind. FenceC looks at its epoch itself: it is the only one whose epoch is a new one.
func (k *desk) do(c api.Cmd, acts map[int]func(c api.Cmd) api.Done) api.Done {
	act, known := acts[c.Do]
	switch {
	case !k.mayBe, !known, c.Zone < 0, c.Zone >= len(k.Z):
		return api.Done{E: api.ErrArg}
	case c.Do != api.FenceC && c.Epoch != k.Z[c.Zone].Fence:
		return api.Done{E: api.ErrFence}
	}
	return act(c)
}

func (k *desk) fence(c api.Cmd) api.Done {
	if c.Epoch <= k.Z[c.Zone].Fence {
		return api.Done{E: api.ErrFence}
	}
	k.Z[c.Zone].Fence = c.Epoch
	return api.Done{}
}

func (k *desk) add(c api.Cmd) api.Done {
	z, at, e := zone.Append(k.Z[c.Zone], k.Cap, c.Data)
	if e == api.OK {
		e = k.putOpen(c.Zone, z)
	}
	if e != api.OK {
		return api.Done{E: e}
	}
	return api.Done{At: at}
}

// tear tells what stands against the whole append ahead of what stands against the torn one alone, as the document's order has it.
func (k *desk) tear(c api.Cmd) api.Done {
	if _, _, e := zone.Append(k.Z[c.Zone], k.Cap, c.Data); e != api.OK {
		return api.Done{E: e}
	}
	if _, e := k.toClose(c.Zone); e != api.OK {
		return api.Done{E: e}
	}
	z, e := zone.Torn(k.Z[c.Zone], k.Cap, c.Data, c.N)
	if e != api.OK || c.N == 0 {
		return api.Done{E: e}
	}
	return api.Done{E: k.putOpen(c.Zone, z)}
}

func (k *desk) read(c api.Cmd) api.Done {
	b, e := zone.Read(k.Z[c.Zone], c.Off, c.N)
	return api.Done{E: e, Data: b}
}

func (k *desk) reset(c api.Cmd) api.Done {
	z, e := zone.Reset(k.Z[c.Zone])
	return k.put(c.Zone, z, e)
}

func (k *desk) finish(c api.Cmd) api.Done {
	z, e := zone.Finish(k.Z[c.Zone])
	return k.put(c.Zone, z, e)
}

func (k *desk) close(c api.Cmd) api.Done {
	z, e := zone.Close(k.Z[c.Zone])
	return k.put(c.Zone, z, e)
}

func (k *desk) open(c api.Cmd) api.Done {
	z, e := zone.Open(k.Z[c.Zone], k.Cap)
	if e == api.OK {
		e = k.putOpen(c.Zone, z)
	}
	return api.Done{E: e}
}

// put lays z in zone i's place, if there is no error.
func (k *desk) put(i int, z api.Zone, e api.Errno) api.Done {
	if e == api.OK {
		k.Z[i] = z
	}
	return api.Done{E: e}
}

// putOpen lays z in zone i's place, which had to be opened for it if it was not open: the zone that gives way is closed ahead.
func (k *desk) putOpen(i int, z api.Zone) api.Errno {
	other, e := k.toClose(i)
	if e != api.OK {
		return e
	}
	if other != nobody {
		// An Implicit zone can always be closed.
		k.Z[other], _ = zone.Close(k.Z[other])
	}
	k.Z[i] = z
	return api.OK
}

// nobody is no zone's number.
const nobody = -1

// toClose tells which zone must be closed for zone i to be open, or nobody.
func (k *desk) toClose(i int) (int, api.Errno) {
	switch {
	case zone.Opened(k.Z[i]) == 1:
		return nobody, api.OK
	case zone.Active(k.Z[i]) == 0 && zone.Active(k.Z...) >= k.Active:
		return nobody, api.ErrActive
	case zone.Opened(k.Z...) < k.Open:
		return nobody, api.OK
	}
	other := slices.IndexFunc(k.Z, func(z api.Zone) bool { return z.State == api.Implicit })
	if other < 0 {
		return nobody, api.ErrOpen
	}
	return other, api.OK
}
