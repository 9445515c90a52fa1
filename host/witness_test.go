package host_test

import (
	"bytes"
	"slices"
	"testing"

	"quickset/api"
	"quickset/host"
	"quickset/replay"
)

// P17.5: a witness that knows only what was asked for, and what was acknowledged: each volume's blocks, and how many bytes each zone had.
type witness struct {
	volume []byte
	ver    map[int]bool // the versions that were acknowledged
}

const (
	witnessBlocks = 24
	witnessZones  = 6
)

func newWitness() *witness {
	return &witness{make([]byte, witnessBlocks*api.Block), map[int]bool{}}
}

// saw keeps what was acknowledged.
func (w *witness) saw(l []api.Io, ver int) {
	for i, o := range l {
		at := w.volume[o.Lba*api.Block:][:o.N*api.Block]
		clear(at)
		copy(at, o.Data)
		w.ver[ver+i] = true
	}
}

// wantRead wants that the hosts read what was acknowledged, each its own half, and one that is made anew all of it.
func (w *witness) wantRead(t *testing.T, d api.Zns, l ...api.Host) {
	t.Helper()
	half := witnessBlocks / len(l)
	for i, h := range l {
		b, e := host.Read(d, h, i*half, half)
		if want := w.volume[i*half*api.Block:][:half*api.Block]; !bytes.Equal(b, want) || e != api.OK {
			t.Fatalf("host %d reads %v, %d, want %v", i, b, e, want)
		}
	}
	g, e := host.New(7, d)
	if e != api.OK {
		t.Fatal(e)
	}
	b, e := host.Read(d, withBlocks(t, g, 0, witnessBlocks, 1), 0, witnessBlocks)
	if !bytes.Equal(b, w.volume) || e != api.OK {
		t.Fatalf("one anew reads %v, %d, want %v", b, e, w.volume)
	}
}

// wantFound wants that records of the versions that were acknowledged are found, and no others.
func (w *witness) wantFound(t *testing.T, d api.Zns) {
	t.Helper()
	many := 0
	for _, z := range d.Z {
		for _, r := range replay.Zone(z).L {
			many++
			if !w.ver[r.Ver] {
				t.Fatalf("the version %d was not acknowledged", r.Ver)
			}
		}
	}
	if many != len(w.ver) || len(replay.Torn(d)) > 0 {
		t.Fatalf("%d records are found, not %d", many, len(w.ver))
	}
}

// wantOneAppend wants that no more than one zone has more bytes, and all else is there as it was.
func wantOneAppend(t *testing.T, before, d api.Zns, refused bool) {
	t.Helper()
	more := 0
	for zone, z := range d.Z {
		old := before.Z[zone].Data
		if !bytes.Equal(z.Data[:min(len(old), len(z.Data))], old) {
			t.Fatalf("zone %d lost something", zone)
		}
		if len(z.Data) > len(old) {
			more++
		}
	}
	if more > 1 || refused && more > 0 {
		t.Fatalf("%d zones were appended to, refused: %t", more, refused)
	}
}

// group are requests of blocks of one half.
func group(next func(int) int, half, halves int) []api.Io {
	n := witnessBlocks / halves
	var l []api.Io
	for range 1 + next(5) {
		lba := half*n + next(n)
		many := 1 + next(min(4, (half+1)*n-lba))
		if next(5) == 0 {
			l = append(l, trim(lba, many))
			continue
		}
		l = append(l, write(lba, many, next(1000)))
	}
	return l
}

func TestWhatWasCommittedIsReadAndFound(t *testing.T) {
	next := row(175)
	for _, hosts := range []int{1, 2, 3} {
		for range 8 {
			d := fenced(t, 300+next(500), 1+next(3), witnessZones-next(2), 1, 2, 3, 4, 5, 6)
			w := newWitness()
			var l []api.Host
			half := witnessBlocks / hosts
			for i := range hosts {
				h, _ := host.New(i, d)
				h.Ver += i << 20 // so that each version is one record's
				for zone := i; zone < witnessZones; zone += hosts {
					h = gained(t, h, zone, zone+1)
				}
				l = append(l, withBlocks(t, h, i*half, (i+1)*half, 1))
			}
			refused := 0
			for range 80 {
				i := next(hosts)
				ios, ver := group(next, i, hosts), l[i].Ver
				switch next(30) {
				case 0: // another one's block
					ios = append(ios, write(witnessBlocks, 1, 1))
				case 1: // a request that may not be
					ios = append(ios, trim(ios[0].Lba, 0))
				}
				x, h, e := host.Commit(d, l[i], ios...)
				switch {
				case e == api.OK:
					wantOneAppend(t, d, x, false)
					w.saw(ios, ver)
					d, l[i] = x, h
				case len(x.Z) > 0:
					wantOneAppend(t, d, x, true)
					d, l[i] = x, h
					refused++
				default:
					refused++
				}
				w.wantRead(t, d, l...)
				w.wantFound(t, d)
			}
			if refused == 0 || len(w.ver) == 0 {
				t.Fatalf("%d refused, %d records", refused, len(w.ver))
			}
		}
	}
}

// What fences refuse leaves nothing, and who has the zones now reads all that was acknowledged ahead of that.
func TestNothingOfAFencedOffGroup(t *testing.T) {
	next := row(176)
	for range 40 {
		d := fenced(t, 400, 2, 4, 1, 2, 0, 0)
		w := newWitness()
		h := withBlocks(t, owner(t, 0, d, 0, 1), 0, witnessBlocks, 1)
		for {
			ios, ver := group(next, 0, 1), h.Ver
			x, k, e := host.Commit(d, h, ios...)
			if e != api.OK {
				break
			}
			w.saw(ios, ver)
			d, h = x, k
			if next(5) == 0 {
				break
			}
		}
		for zone := range 4 {
			d = do(t, d, api.Cmd{Do: api.FenceC, Zone: zone, Epoch: 9})
		}
		g := withBlocks(t, owner(t, 1, d, 0, 1, 2, 3), 0, witnessBlocks, 2)
		for range 3 {
			x, k, e := host.Commit(d, h, group(next, 0, 1)...)
			if e != api.ErrFence && e != api.ErrSpace {
				t.Fatalf("got %d", e)
			}
			if len(x.Z) > 0 {
				if !sameDevice(x, d) {
					t.Fatalf("got %v, want %v", x, d)
				}
				h = k
			}
			w.wantRead(t, d, g)
			w.wantFound(t, d)
			ios, ver := group(next, 0, 1), g.Ver
			d, g = commit(t, d, g, ios[0])
			w.saw(ios[:1], ver)
			w.wantRead(t, d, g)
		}
	}
}

// Torn at each byte the group is there up to some record, and all that stood ahead of it is.
func TestTornGroup(t *testing.T) {
	d := fenced(t, 1000, 1, 1, 3)
	h := owner(t, 2, d, 0)
	d, h = commit(t, d, h, write(0, 3, 1), trim(1, 1))
	l := []api.Io{write(0, 1, 2), write(2, 2, 3), trim(0, 1)}
	recs, _ := host.Records(h, l...)
	x, k := commit(t, d, h, l...)
	from := len(d.Z[0].Data)
	b := x.Z[0].Data[from:]
	for keep := 1; keep < len(b); keep++ {
		whole := 0
		for f, _ := framesOf(0, recs[:whole+1]...); len(f) <= keep; f, _ = framesOf(0, recs[:whole+1]...) {
			whole++
		}
		torn := do(t, d, api.Cmd{Do: api.TornC, Zone: 0, Epoch: 3, Data: b, N: keep})
		g := owner(t, 4, torn)
		_, want := commit(t, d, h, l[:whole]...)
		if !slices.Equal(g.M, want.M) || g.Ver != h.Ver+whole {
			t.Errorf("%d bytes: got %v, want %v", keep, g, want)
		}
	}
	if g := owner(t, 4, x); !slices.Equal(g.M, k.M) || g.Ver != k.Ver {
		t.Errorf("got %v, want %v", g, k)
	}
}
