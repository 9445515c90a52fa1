package host_test

import (
	"bytes"
	"maps"
	"math"
	"slices"
	"testing"

	"quickset/api"
	"quickset/host"
	"quickset/zns"
)

const walkBlocks = 12

// A model of the document's words by another hand than the program's: a device, hosts, and where each block is.
type model struct {
	most, open, active int
	z                  []modelZone
	h                  []modelHost
}

type modelZone struct {
	state, fence int
	b            []byte
	head, torn   bool // torn: nothing is found any more of what comes behind
	l            []modelRec
}

type modelRec struct {
	r   api.Rec
	off int // where its Data stands
}

type modelHost struct {
	own      map[int]int
	s        []given
	seg      bool
	head     api.Header
	zone, at int
	m        blocks
	ver, seq int
}

// spot is where a block is, of zone -1 trimmed.
type spot struct{ ver, zone, off int }

type blocks map[int]spot

func (k blocks) offer(x api.Ext) {
	for i := range x.N {
		s := spot{x.Ver, x.Zone, x.Off + i*api.Block}
		if x.Zone == -1 {
			s.off = 0
		}
		if old, is := k[x.Lba+i]; !is || old.ver < x.Ver {
			k[x.Lba+i] = s
		}
	}
}

func (k blocks) apply(r api.Rec, zone, off int) {
	x := api.Ext{Lba: r.Lba, N: r.N, Ver: r.Ver, Zone: zone, Off: off}
	switch r.Kind {
	case api.TrimR:
		x.Zone, x.Off = -1, 0
	case api.MapR:
		x.Zone, x.Off = r.Zone, r.Off
	case api.CheckR:
		for _, m := range someChecks() {
			if bytes.Equal(check(0, m...).Data, r.Data) {
				for _, x := range m {
					k.offer(x)
				}
			}
		}
		return
	}
	k.offer(x)
}

func (k blocks) exts() []api.Ext {
	var m []api.Ext
	for _, lba := range slices.Sorted(maps.Keys(k)) {
		s := k[lba]
		if n := len(m); n > 0 {
			last := &m[n-1]
			next := last.Off + last.N*api.Block
			if last.Zone == -1 {
				next = 0
			}
			if last.Lba+last.N == lba && last.Ver == s.ver && last.Zone == s.zone && s.off == next {
				last.N++
				continue
			}
		}
		m = append(m, api.Ext{Lba: lba, N: 1, Ver: s.ver, Zone: s.zone, Off: s.off})
	}
	return m
}

// someChecks are checkpoints' maps.
func someChecks() [][]api.Ext {
	return [][]api.Ext{
		{{Lba: 0, N: 2, Ver: 3, Zone: 1, Off: 10}, {Lba: 2, N: 3, Ver: 1, Zone: -1}},
		{{Lba: 1, N: 1, Ver: 7, Zone: 60}, {Lba: 4, N: 2, Ver: 2, Zone: 0, Off: 20}},
		nil,
	}
}

func newModel(most, open, active, zones, hosts int) model {
	m := model{most: most, open: open, active: active, z: make([]modelZone, zones)}
	for range hosts {
		m.h = append(m.h, modelHost{own: map[int]int{}, s: make([]given, walkBlocks), m: blocks{}, ver: 1})
	}
	return m
}

func (m model) clone() model {
	m.z, m.h = slices.Clone(m.z), slices.Clone(m.h)
	for i, h := range m.h {
		m.h[i].own, m.h[i].s, m.h[i].m = maps.Clone(h.own), slices.Clone(h.s), maps.Clone(h.m)
	}
	return m
}

func (m model) device() api.Zns {
	d := api.Zns{Cap: m.most, Open: m.open, Active: m.active}
	for _, z := range m.z {
		d.Z = append(d.Z, api.Zone{State: z.state, Fence: z.fence, Data: z.b})
	}
	return d
}

func (m model) host(i int) api.Host {
	h := m.h[i]
	x := api.Host{Id: i, S: spansOf(i, h.s), Open: h.seg, M: h.m.exts(), Ver: h.ver, Seq: h.seq}
	for _, zone := range slices.Sorted(maps.Keys(h.own)) {
		x.Own = append(x.Own, api.Fence{Zone: zone, Host: i, Epoch: h.own[zone]})
	}
	if h.seg {
		x.P = api.Pack{H: h.head, Zone: h.zone, Cap: m.most, At: h.at}
	}
	return x
}

func isOpen(z modelZone) bool   { return z.state == api.Implicit || z.state == api.Explicit }
func isActive(z modelZone) bool { return isOpen(z) || z.state == api.Closed }

func count(l []modelZone, is func(modelZone) bool) int {
	n := 0
	for _, z := range l {
		if is(z) {
			n++
		}
	}
	return n
}

// enter lets a zone be open, if it may be; it closes the first other one that may be closed, if it must.
func (m model) enter(zone int) api.Errno {
	z := m.z[zone]
	switch {
	case isOpen(z):
		return api.OK
	case !isActive(z) && count(m.z, isActive) >= m.active:
		return api.ErrActive
	case count(m.z, isOpen) < m.open:
		return api.OK
	}
	for i, x := range m.z {
		if i != zone && x.state == api.Implicit {
			m.z[i].state = api.Closed
			return api.OK
		}
	}
	return api.ErrOpen
}

func (m model) append(zone, epoch int, b []byte) api.Errno {
	z := m.z[zone]
	switch {
	case z.fence != epoch:
		return api.ErrFence
	case z.state == api.Full:
		return api.ErrState
	case len(z.b)+len(b) > m.most:
		return api.ErrFull
	}
	if e := m.enter(zone); e != api.OK {
		return e
	}
	z.b = slices.Concat(z.b, b)
	switch {
	case len(z.b) == m.most:
		z.state = api.Full
	case z.state != api.Explicit:
		z.state = api.Implicit
	}
	m.z[zone] = z
	return api.OK
}

// found keeps what the append of a segment's frames lets be found.
func (m model) found(zone int, head bool, l []api.Rec, at []int) {
	z := &m.z[zone]
	z.head = z.head || head
	z.torn = z.torn || !z.head
	z.l = slices.Clone(z.l)
	for i, r := range l {
		if !z.torn {
			z.l = append(z.l, modelRec{r, at[i]})
		}
	}
}

// put tells the model behind it; none, if nothing is told.
func (m model) put(i int, l []api.Rec) (behind model, at []int, e api.Errno, told bool) {
	m = m.clone()
	h := &m.h[i]
	b, _ := framesOf(0, l...)
	first := false
	if !h.seg || h.at+len(b) > m.most {
		if h.seg && m.z[h.zone].fence == h.head.Epoch {
			m.z[h.zone].state = api.Full
		}
		h.seg, first = false, true
		for zone, z := range m.z {
			if epoch, is := h.own[zone]; is && z.state == api.Empty && z.fence == epoch {
				h.seg, h.zone, h.head = true, zone, api.Header{Host: i, Epoch: epoch, Seq: h.seq}
				break
			}
		}
		if !h.seg || len(headFrame(h.head))+len(b) > m.most {
			return m, nil, api.ErrSpace, false
		}
		h.at, h.seq = 0, h.seq+1
		b = slices.Concat(headFrame(h.head), b)
	}
	if len(b) == 0 {
		return m, nil, api.OK, true
	}
	from := len(m.z[h.zone].b)
	if e := m.append(h.zone, h.head.Epoch, b); e != api.OK {
		h.seg = false
		return m, nil, e, true
	}
	h.at = from + len(b)
	if first {
		from += len(headFrame(h.head))
	}
	_, at = framesOf(from, l...)
	m.found(h.zone, first, l, at)
	return m, at, api.OK, true
}

func (m model) recs(i int, l []api.Io) (out []api.Rec, e api.Errno) {
	h := m.h[i]
	for k, o := range l {
		switch {
		case o.Lba < 0 || o.N < 1 || o.Lba+o.N > mostLba: // no more of what a request may be is asked here
			return nil, api.ErrBad
		case o.Lba+o.N > walkBlocks:
			return nil, api.ErrMine
		}
		for lba := o.Lba; lba < o.Lba+o.N; lba++ {
			if h.s[lba].call == 0 {
				return nil, api.ErrMine
			}
		}
		kind := api.TrimR
		if o.Do == api.WriteO {
			kind = api.DataR
		}
		out = append(out, api.Rec{Kind: kind, Lba: o.Lba, N: o.N, Ver: h.ver + k, Data: o.Data})
	}
	return out, api.OK
}

func (m model) commit(i int, l []api.Io) (behind model, e api.Errno, told bool) {
	recs, e := m.recs(i, l)
	if e != api.OK {
		return m, e, false
	}
	if len(l) == 0 {
		return m, api.OK, true
	}
	m, at, e, told := m.put(i, recs)
	if e != api.OK {
		return m, e, told
	}
	h := &m.h[i]
	for k, r := range recs {
		h.m.apply(r, h.zone, at[k])
	}
	h.ver += len(recs)
	return m, api.OK, true
}

// anew is a host as it begins.
func (m model) anew(i int) model {
	m = m.clone()
	h := modelHost{own: map[int]int{}, s: make([]given, walkBlocks), m: blocks{}, ver: 1}
	for zone, z := range m.z {
		for _, r := range z.l {
			h.m.apply(r.r, zone, r.off)
			h.ver = max(h.ver, r.r.Ver+1)
		}
	}
	m.h[i] = h
	return m
}

func (m model) read(i, lba int) ([]byte, api.Errno) {
	h := m.h[i]
	s, is := h.m[lba]
	switch {
	case h.s[lba].call == 0:
		return nil, api.ErrMine
	case !is || s.zone == -1:
		return make([]byte, api.Block), api.OK
	case s.zone >= len(m.z) || s.off+api.Block > len(m.z[s.zone].b):
		return nil, api.ErrForm
	}
	return m.z[s.zone].b[s.off : s.off+api.Block], api.OK
}

// A walk is a device and hosts, and the model of them.
type walk struct {
	d     api.Zns
	h     []api.Host
	m     model
	calls int // of Blocks
}

func newWalk(t *testing.T, most, open, active, zones, hosts int) walk {
	t.Helper()
	w := walk{m: newModel(most, open, active, zones, hosts)}
	d, e := zns.New(zones, most, open, active)
	if e != api.OK {
		t.Fatal(e)
	}
	w.d = d
	for i := range hosts {
		h, e := host.New(i, d)
		if e != api.OK {
			t.Fatal(e)
		}
		w.h = append(w.h, h)
	}
	return w
}

func (w walk) clone() walk {
	w.h, w.m = slices.Clone(w.h), w.m.clone()
	return w
}

func (w walk) gain(t *testing.T, i, zone, epoch int) walk {
	t.Helper()
	w = w.clone()
	w.h[i] = gained(t, w.h[i], zone, epoch)
	h := &w.m.h[i]
	h.own[zone] = epoch
	h.seg = h.seg && h.zone != zone
	return w
}

func (w walk) give(t *testing.T, i, from, to int) walk {
	t.Helper()
	w = w.clone()
	w.calls++
	w.h[i] = withBlocks(t, w.h[i], from, to, w.calls)
	for lba := from; lba < to; lba++ {
		w.m.h[i].s[lba] = given{w.calls, w.calls}
	}
	return w
}

func (w walk) lose(i, from, to int) walk {
	w = w.clone()
	w.h[i] = host.Lose(w.h[i], from, to)
	for lba := from; lba < to; lba++ {
		w.m.h[i].s[lba] = given{}
	}
	return w
}

func (w walk) anew(t *testing.T, i int) walk {
	t.Helper()
	w = w.clone()
	w.m = w.m.anew(i)
	h, e := host.New(i, w.d)
	if e != api.OK {
		t.Fatal(e)
	}
	w.h[i] = h
	return w
}

// told holds what a call told against the model's device and host behind it.
func (w walk) told(t *testing.T, what string, i int, d api.Zns, h api.Host, e api.Errno, m model, want api.Errno, told bool) walk {
	t.Helper()
	if e != want {
		t.Fatalf("%s: got %d, want %d", what, e, want)
	}
	if !told {
		wantNothing(t, what, d, h, e, want)
		return w
	}
	w = w.clone()
	w.d, w.h[i], w.m = d, h, m
	return w
}

func (w walk) commit(t *testing.T, i int, l []api.Io) walk {
	t.Helper()
	m, want, told := w.m.commit(i, l)
	d, h, e := host.Commit(w.d, w.h[i], l...)
	return w.told(t, "Commit", i, d, h, e, m, want, told)
}

func (w walk) put(t *testing.T, i int, l []api.Rec) walk {
	t.Helper()
	m, places, want, told := w.m.put(i, l)
	d, h, at, e := host.Put(w.d, w.h[i], l...)
	if !slices.Equal(at, places) {
		t.Fatalf("Put: got the places %v, want %v", at, places)
	}
	return w.told(t, "Put", i, d, h, e, m, want, told)
}

// fence lets no one who has an elder epoch write to a zone any more.
func (w walk) fence(t *testing.T, zone int) walk {
	t.Helper()
	w = w.clone()
	w.m.z[zone].fence++
	w.d = do(t, w.d, api.Cmd{Do: api.FenceC, Zone: zone, Epoch: w.m.z[zone].fence})
	return w
}

// other does a command of another one's, which may go wrong; what it does to zones' states is taken from the device.
func (w walk) other(c api.Cmd) walk {
	w = w.clone()
	c.Epoch = w.m.z[c.Zone].fence
	w.d, _ = zns.Do(w.d, c)
	for zone, x := range w.d.Z {
		z := &w.m.z[zone]
		z.state = x.State
		switch {
		case len(x.Data) == 0:
			z.b, z.head, z.torn, z.l = nil, false, false, nil
		case len(x.Data) > len(z.b): // it was no record's frame
			z.b, z.torn = bytes.Clone(x.Data), true
		}
	}
	return w
}

// wantAll holds the device, all hosts, and each block that they read against the model.
func (w walk) wantAll(t *testing.T) {
	t.Helper()
	if want := w.m.device(); !sameDevice(w.d, want) {
		t.Fatalf("got the device %v, want %v", w.d, want)
	}
	for i, h := range w.h {
		if want := w.m.host(i); !sameHost(h, want) {
			t.Fatalf("got the host %v, want %v", h, want)
		}
		for lba := range walkBlocks {
			want, e := w.m.read(i, lba)
			if b, got := host.Read(w.d, h, lba, 1); !bytes.Equal(b, want) || got != e {
				t.Fatalf("host %d, block %d: got %v, %d, want %v, %d", i, lba, b, got, want, e)
			}
		}
	}
}

// walkAll goes all ways of so many steps from there on.
func (w walk) walkAll(t *testing.T, steps int) {
	t.Helper()
	w.wantAll(t)
	if steps == 0 {
		return
	}
	seed := len(w.m.z[0].b) + 7*len(w.m.z[1].b) + steps
	w.commit(t, 0, []api.Io{write(0, 2, seed)}).walkAll(t, steps-1)
	w.commit(t, 0, []api.Io{trim(1, 1), write(2, 1, seed), trim(3, 1)}).walkAll(t, steps-1)
	w.put(t, 0, []api.Rec{move(0, 1, 1, 1, 1), trimRec(2, 1, 1)}).walkAll(t, steps-1)
	w.put(t, 0, nil).walkAll(t, steps-1)
	w.other(api.Cmd{Do: api.OpenC, Zone: 2}).walkAll(t, steps-1)
	w.other(api.Cmd{Do: api.ResetC, Zone: 0}).walkAll(t, steps-1)
	for zone := range 2 {
		w.fence(t, zone).walkAll(t, steps-1)
		w.gain(t, 0, zone, w.m.z[zone].fence).walkAll(t, steps-1)
	}
	x := w.anew(t, 0)
	for zone := range 2 {
		x = x.gain(t, 0, zone, x.m.z[zone].fence)
	}
	x.give(t, 0, 0, walkBlocks).walkAll(t, steps-1)
	for _, l := range [][]api.Io{{write(0, 9, 1)}, {write(0, 1, 1), write(walkBlocks, 1, 1)}, {write(0, 1, 1), trim(0, 0)}, nil} { // nothing comes of these
		w.commit(t, 0, l).wantAll(t)
	}
}

func TestAllShortWays(t *testing.T) {
	for _, most := range []int{9, 53, 75, 104} {
		w := newWalk(t, most, 1, 2, 3, 1)
		for zone := range 2 {
			w = w.fence(t, zone).gain(t, 0, zone, 1)
		}
		w.give(t, 0, 0, walkBlocks).walkAll(t, 4)
	}
}

// row makes a row of numbers that is always the same.
func row(x uint64) func(n int) int {
	return func(n int) int {
		x = x*6364136223846793005 + 1442695040888963407
		return int(x>>33) % n
	}
}

func someIos(next func(int) int) []api.Io {
	var l []api.Io
	for range 1 + next(4) {
		lba := next(walkBlocks)
		n := 1 + next(min(4, walkBlocks-lba))
		switch next(20) {
		case 0:
			n = next(4) - 1
		case 1, 2, 3, 4:
			l = append(l, trim(lba, n))
			continue
		}
		l = append(l, api.Io{Do: api.WriteO, Lba: lba, N: n, Data: text(next(1000), max(0, n)*api.Block)})
	}
	return l
}

func walkRecs(next func(int) int) []api.Rec {
	var l []api.Rec
	for range next(4) {
		lba, n, ver := next(walkBlocks-4), 1+next(4), next(9)
		switch next(5) {
		case 0:
			l = append(l, trimRec(lba, n, ver))
		case 1:
			l = append(l, place(lba, n, ver, next(5), next(99)))
		case 2:
			l = append(l, check(ver, someChecks()[next(len(someChecks()))]...))
		case 3:
			l = append(l, move(lba, n, ver, next(100), next(100)))
		case 4:
			l = append(l, data(lba, n, ver))
		}
	}
	return l
}

// others does what a host does not know of, or what is given to it.
func (w walk) others(t *testing.T, next func(int) int, i int) walk {
	t.Helper()
	zone := next(len(w.m.z))
	from := next(walkBlocks)
	to := from + 1 + next(walkBlocks-from)
	switch next(12) {
	case 0:
		return w.fence(t, zone)
	case 1, 2, 3, 4:
		w = w.fence(t, zone).other(api.Cmd{Do: api.ResetC, Zone: zone})
		return w.gain(t, i, zone, w.m.z[zone].fence)
	case 5:
		return w.gain(t, i, zone, 1+next(9))
	case 6:
		return w.lose(i, from, min(to, from+2))
	case 7, 8:
		return w.give(t, i, from, to)
	case 9:
		return w.other(api.Cmd{Do: []int{api.ResetC, api.ResetC, api.FinishC, api.OpenC, api.CloseC}[next(5)], Zone: zone})
	case 10:
		return w.other(api.Cmd{Do: []int{api.ResetC, api.AppendC, api.ResetC}[next(3)], Zone: zone, Data: text(1, 1+next(9))})
	}
	w = w.anew(t, i)
	for zone, z := range w.m.z {
		if zone%len(w.m.h) == i {
			w = w.gain(t, i, zone, max(1, z.fence))
		}
	}
	return w.give(t, i, 0, walkBlocks)
}

func TestLongWays(t *testing.T) {
	next := row(17)
	for hosts := 1; hosts <= 3; hosts++ {
		for _, most := range []int{60, 150, 400} {
			for range 5 {
				zones := hosts + 1 + next(3)
				active := zones - next(2)
				w := newWalk(t, most, 1+next(active), active, zones, hosts)
				for range 600 {
					switch i := next(hosts); next(6) {
					case 0, 1:
						w = w.others(t, next, i)
					case 2:
						w = w.put(t, i, walkRecs(next))
					default:
						w = w.commit(t, i, someIos(next))
					}
					w.wantAll(t)
				}
			}
		}
	}
}

// Every call ends, and none panics, at all arguments.
func TestWildArguments(t *testing.T) {
	wild := []int{math.MinInt, -1, 0, 1, 17, mostCap, 1 << 40, math.MaxInt - 1, math.MaxInt}
	good := device(nil, segment(api.Header{}, data(0, 1, 5)))
	for _, x := range wild {
		for _, y := range wild {
			for _, z := range wild {
				zone := api.Zone{State: x, Fence: y, Data: text(1, 20)}
				for _, d := range []api.Zns{{Cap: x, Open: y, Active: z, Z: []api.Zone{zone, {}}}, good, {}} {
					for _, h := range wildHosts(x, y, z) {
						_, _ = host.New(x, d)
						_, _ = host.Gain(h, x, y)
						_, _ = host.Blocks(h, x, y, z)
						host.Lose(h, x, y)
						host.Mine(h, x, y)
						_, _ = host.Read(d, h, x, y)
						l := []api.Io{{Do: api.WriteO, Lba: x, N: y, Data: text(1, 16)}, {Do: api.TrimO, Lba: y, N: z}, {Do: z, Lba: x, N: y}}
						for k := range l {
							_, _ = host.Records(h, l[k:]...)
							_, _, _ = host.Commit(d, h, l[k:]...)
						}
						_, _, _ = host.Commit(d, h, write(5, 1, 1))
						_, _, _ = host.Commit(d, h)
						r := api.Rec{Kind: api.TrimR, Lba: x, N: y, Ver: z}
						_, _, _, _ = host.Put(d, h, r)
						_, _, _, _ = host.Put(d, h, trimRec(1, 1, 1))
						_, _, _, _ = host.Put(d, h)
					}
				}
			}
		}
	}
}

func wildHosts(x, y, z int) []api.Host {
	own := []api.Fence{{Zone: x, Host: y, Epoch: z}, {Zone: 0, Host: y, Epoch: x}, {Zone: z}, {Zone: 0, Epoch: 0}}
	spans := []api.Span{{From: x, To: y, Owner: z, Epoch: x}, {From: 0, To: 100, Owner: x}, {From: y, To: z}}
	p := api.Pack{H: api.Header{Host: x, Epoch: y, Seq: z}, Zone: x, Cap: y, At: z, Buf: text(1, 3), L: []api.Rec{{Kind: x, N: y}}}
	return []api.Host{
		{},
		{Id: x, Own: own, S: spans, Open: true, P: p, M: []api.Ext{{Lba: x, N: y, Ver: z, Zone: x, Off: y}}, Ver: y, Seq: z},
		{Id: 1, Own: own, S: spans[1:], Ver: z, Seq: x},
		{Id: 1, Own: own, S: spans[:2], Open: true, P: p, M: []api.Ext{{N: 1}}},
		{Id: 1, S: spans, Open: true, P: api.Pack{Zone: 0, Cap: 100, At: z}, Ver: 1},
	}
}
