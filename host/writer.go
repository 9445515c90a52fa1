package host

import (
	"slices"

	"quickset/api"
	"quickset/packer"
	"quickset/seg"
	"quickset/zns"
)

// writer is a host at a device, of both of which it has copies.
type writer struct {
	api.Host
	d api.Zns
}

func newWriter(d api.Zns, h api.Host) *writer {
	d, _ = zns.All(d) // no command: it is a copy
	return &writer{Host: cloned(h), d: d}
}

// mayPut tells what is wrong with records, or a device, whatever room there is.
func mayPut(d api.Zns, l []api.Rec) api.Errno {
	if e := zns.Check(d); e != api.OK {
		return e
	}
	for _, r := range l {
		if e := seg.Check(r); e != api.OK {
			return e
		}
	}
	return api.OK
}

// add adds records that may be to the segment, if one is open that has room for all of them; else to a new one.
func (w *writer) add(l []api.Rec) ([]int, api.Errno) {
	if w.Open {
		p, at, e := packer.Add(w.P, l...)
		if e == api.OK {
			w.P = p
			return at, api.OK
		}
		w.d, _ = zns.Do(w.d, api.Cmd{Do: api.FinishC, Zone: w.P.Zone, Epoch: w.P.H.Epoch})
	}
	return w.begin(l)
}

// begin begins a segment, in which these records are the first.
func (w *writer) begin(l []api.Rec) ([]int, api.Errno) {
	i := slices.IndexFunc(w.Own, w.takes)
	if i < 0 {
		return nil, api.ErrSpace
	}
	f := w.Own[i]
	var at []int
	p, e := packer.Begin(api.Header{Host: w.Id, Epoch: f.Epoch, Seq: w.Seq}, f.Zone, w.d.Cap)
	if e == api.OK {
		p, at, e = packer.Add(p, l...)
	}
	switch e {
	case api.OK:
		w.Open, w.P = true, p
		w.Seq++
	case api.ErrFull:
		return nil, api.ErrSpace
	}
	return at, e
}

// takes tells whether a segment can be begun in a zone of the host's.
func (w *writer) takes(f api.Fence) bool {
	if f.Zone < 0 || f.Zone >= len(w.d.Z) {
		return false
	}
	z := w.d.Z[f.Zone]
	return z.State == api.Empty && z.Fence == f.Epoch
}

// flush appends what was added, and tells where it stands. The device knows that: where others appended too, there is more than the segment knows of.
func (w *writer) flush(at []int) ([]int, api.Errno) {
	c, p, is := packer.Flush(w.P)
	if !is {
		return at, api.OK
	}
	d, done := zns.Do(w.d, c)
	if done.E != api.OK {
		w.Open, w.P = false, api.Pack{}
		return nil, done.E
	}
	more := done.At - w.P.At
	for i := range at {
		at[i] += more
	}
	p.At += more
	w.d, w.P = d, p
	return at, api.OK
}
