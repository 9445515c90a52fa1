package zns_test

import (
	"bytes"
	"testing"

	"quickset/api"
	"quickset/zns"
)

// A model of the document's words by another hand than the program's: it stands on no layer below, and knows only devices that may be.

func isOpen(z api.Zone) bool { return z.State == api.Implicit || z.State == api.Explicit }

func isActive(z api.Zone) bool { return isOpen(z) || z.State == api.Closed }

func number(d api.Zns, is func(z api.Zone) bool) int {
	n := 0
	for _, z := range d.Z {
		if is(z) {
			n++
		}
	}
	return n
}

// opened is d, which is the model's own, made ready for zone i to be open.
func opened(d api.Zns, i int) (api.Zns, api.Errno) {
	if isOpen(d.Z[i]) {
		return d, api.OK
	}
	if !isActive(d.Z[i]) && number(d, isActive) == d.Active {
		return d, api.ErrActive
	}
	if number(d, isOpen) < d.Open {
		return d, api.OK
	}
	for k := range d.Z {
		if d.Z[k].State == api.Implicit {
			d.Z[k].State = api.Closed
			return d, api.OK
		}
	}
	return d, api.ErrOpen
}

func appended(z api.Zone, most int, b []byte) api.Zone {
	z.Data = append(bytes.Clone(z.Data), b...)
	if len(z.Data) == most {
		z.State = api.Full
	} else if z.State != api.Explicit {
		z.State = api.Implicit
	}
	return z
}

func modelAppend(d api.Zns, c api.Cmd) (api.Zns, api.Done) {
	z := d.Z[c.Zone]
	if len(c.Data) == 0 {
		return d, fails(api.ErrArg)
	}
	if z.State == api.Full {
		return d, fails(api.ErrState)
	}
	if len(z.Data)+len(c.Data) > d.Cap {
		return d, fails(api.ErrFull)
	}
	x, e := opened(copyOf(d), c.Zone)
	if e != api.OK {
		return d, fails(e)
	}
	if c.Do == api.AppendC {
		x.Z[c.Zone] = appended(z, d.Cap, c.Data)
		return x, api.Done{At: len(z.Data)}
	}
	if c.N < 0 || c.N > len(c.Data) {
		return d, fails(api.ErrArg)
	}
	if c.N == 0 {
		return d, api.Done{}
	}
	x.Z[c.Zone] = appended(z, d.Cap, c.Data[:c.N])
	return x, api.Done{}
}

func modelState(d api.Zns, c api.Cmd) (api.Zns, api.Done) {
	x := copyOf(d)
	z := &x.Z[c.Zone]
	switch c.Do {
	case api.ResetC:
		*z = api.Zone{Fence: z.Fence}
	case api.FinishC:
		z.State = api.Full
	case api.OpenC:
		if z.State == api.Full {
			return d, fails(api.ErrState)
		}
		y, e := opened(x, c.Zone)
		if e != api.OK {
			return d, fails(e)
		}
		y.Z[c.Zone].State = api.Explicit
		return y, api.Done{}
	case api.CloseC:
		if z.State == api.Empty || z.State == api.Full {
			return d, fails(api.ErrState)
		}
		z.State = api.Closed
		if len(z.Data) == 0 {
			z.State = api.Empty
		}
	}
	return x, api.Done{}
}

func model(d api.Zns, c api.Cmd) (api.Zns, api.Done) {
	if c.Do < 1 || c.Do > 8 || c.Zone < 0 || c.Zone >= len(d.Z) {
		return d, fails(api.ErrArg)
	}
	z := d.Z[c.Zone]
	if c.Do == api.FenceC {
		if c.Epoch <= z.Fence {
			return d, fails(api.ErrFence)
		}
		x := copyOf(d)
		x.Z[c.Zone].Fence = c.Epoch
		return x, api.Done{}
	}
	if c.Epoch != z.Fence {
		return d, fails(api.ErrFence)
	}
	switch c.Do {
	case api.AppendC, api.TornC:
		return modelAppend(d, c)
	case api.ReadC:
		if c.Off < 0 || c.N < 0 || c.Off+c.N > len(z.Data) {
			return d, fails(api.ErrArg)
		}
		return d, api.Done{Data: z.Data[c.Off : c.Off+c.N]}
	}
	return modelState(d, c)
}

// commands are all that are told apart at a device of so many zones, with so many epochs, from 0 on.
func commands(zones, epochs int) []api.Cmd {
	var l []api.Cmd
	for do := 0; do <= 9; do++ {
		for i := -1; i <= zones; i++ {
			for epoch := range epochs {
				c := api.Cmd{Do: do, Zone: i, Epoch: epoch}
				switch do {
				case api.AppendC:
					l = append(l, withBytes(c, 0)...)
				case api.TornC:
					for n := -1; n <= 3; n++ {
						l = append(l, withBytes(c, n)...)
					}
				case api.ReadC:
					for off := -1; off <= 3; off++ {
						for n := -1; n <= 3; n++ {
							c.Off, c.N = off, n
							l = append(l, c)
						}
					}
				default:
					l = append(l, c)
				}
			}
		}
	}
	return l
}

func withBytes(c api.Cmd, n int) []api.Cmd {
	var l []api.Cmd
	for _, b := range []string{"", "p", "qr", "stu"} {
		c.N, c.Data = n, []byte(b)
		l = append(l, c)
	}
	return l
}

// shape is a device as a key: which bytes stand there is left away, or too many devices would be gone through.
func shape(d api.Zns) string {
	var b []byte
	for _, z := range d.Z {
		b = append(b, byte(z.State), byte(len(z.Data)), byte(z.Fence))
	}
	return string(b)
}

// walk hands each device that commands come to, of all shapes, and each command to look, with what Do answered.
func walk(t *testing.T, first api.Zns, l []api.Cmd, look func(d, behind api.Zns, c api.Cmd, p api.Done)) int {
	t.Helper()
	found := map[string]bool{shape(first): true}
	work := []api.Zns{first}
	for len(work) > 0 {
		d := work[0]
		work = work[1:]
		before := copyOf(d)
		for _, c := range l {
			behind, p := zns.Do(d, c)
			look(before, behind, c, p)
			if s := shape(behind); !found[s] {
				found[s] = true
				work = append(work, behind)
			}
		}
		if !same(d, before) {
			t.Fatalf("what was handed in was changed: %v became %v", before, d)
		}
	}
	return len(found)
}

// P5.2, of all small devices

func TestAgainstModel(t *testing.T) {
	for _, x := range []struct{ zones, most, open, active, epochs int }{
		{1, 2, 1, 1, 3}, {2, 2, 1, 1, 3}, {2, 3, 1, 2, 2}, {2, 2, 2, 2, 2},
		{3, 2, 1, 1, 1}, {3, 2, 1, 2, 1}, {3, 2, 1, 3, 1}, {3, 2, 2, 2, 1}, {3, 2, 2, 3, 1}, {3, 2, 3, 3, 1},
	} {
		d, e := zns.New(x.zones, x.most, x.open, x.active)
		if e != api.OK {
			t.Fatalf("%v: got %d", x, e)
		}
		met := map[api.Errno]bool{}
		n := walk(t, d, commands(x.zones, x.epochs), func(d, behind api.Zns, c api.Cmd, p api.Done) {
			want, done := model(d, c)
			if !sameDone(p, done) || !same(behind, want) {
				t.Fatalf("%v at %v:\ngot  %v, %v\nwant %v, %v", c, d, behind, p, want, done)
			}
			met[p.E] = true
		})
		if n < 7 {
			t.Errorf("%v: only %d devices were gone through", x, n)
		}
		for _, e := range []api.Errno{api.OK, api.ErrArg, api.ErrFull, api.ErrState, api.ErrFence} {
			if !met[e] {
				t.Errorf("%v: the error %d was not come to", x, e)
			}
		}
		if met[api.ErrActive] != (x.active < x.zones) || met[api.ErrOpen] != (x.open < x.active) {
			t.Errorf("%v: came to %v", x, met)
		}
	}
}

// P5.4

func TestWhatFollows(t *testing.T) {
	for _, x := range []struct{ zones, most, open, active, epochs int }{
		{2, 2, 1, 2, 3}, {3, 2, 1, 2, 1}, {3, 2, 2, 3, 1},
	} {
		d, _ := zns.New(x.zones, x.most, x.open, x.active)
		walk(t, d, commands(x.zones, x.epochs), func(d, behind api.Zns, c api.Cmd, p api.Done) {
			if zns.Check(behind) != api.OK {
				t.Fatalf("%v at %v: %v may not be", c, d, behind)
			}
			if p.E != api.OK && (!same(behind, d) || p.At != 0 || len(p.Data) != 0) {
				t.Fatalf("%v at %v: with an error it tells %v, %v", c, d, behind, p)
			}
			if c.Do != api.FenceC && c.Zone >= 0 && c.Zone < x.zones && c.Epoch != d.Z[c.Zone].Fence && !same(behind, d) {
				t.Fatalf("%v at %v: another epoch's command came to %v", c, d, behind)
			}
			wantOthers(t, d, behind, c)
		})
	}
}

// wantOthers looks whether the other zones stayed, but for one that was closed.
func wantOthers(t *testing.T, d, behind api.Zns, c api.Cmd) {
	t.Helper()
	closed := 0
	for i, z := range d.Z {
		x := behind.Z[i]
		if i == c.Zone || sameZone(x, z) {
			continue
		}
		closed++
		if z.State != api.Implicit || x.State != api.Closed || x.Fence != z.Fence || !bytes.Equal(x.Data, z.Data) {
			t.Fatalf("%v at %v: zone %d became %v", c, d, i, x)
		}
	}
	if closed > 1 {
		t.Fatalf("%v at %v: %d zones were closed", c, d, closed)
	}
}

// P5.3

// next is one more number of a row that is the same in each run.
func next(seed *uint32) int {
	*seed = *seed*1664525 + 1013904223
	return int(*seed >> 8)
}

func TestAll(t *testing.T) {
	l := commands(3, 3)
	seed := uint32(1)
	for run := range 60 {
		d, _ := zns.New(3, 40, 1+run%2, 2+run%2)
		cs := make([]api.Cmd, run*5)
		for i := range cs {
			cs[i] = l[next(&seed)%len(l)]
			if cs[i].Do != api.FenceC && cs[i].Zone >= 0 && next(&seed)%4 > 0 {
				cs[i].Epoch = 0
			}
		}
		wantAll(t, d, cs)
	}
}

// wantAll looks whether All of commands is as Do of one behind the other, and as the model.
func wantAll(t *testing.T, d api.Zns, l []api.Cmd) {
	t.Helper()
	before := copyOf(d)
	got, ps := zns.All(d, l...)
	if len(ps) != len(l) {
		t.Fatalf("%d commands came to %d", len(l), len(ps))
	}
	if !same(d, before) {
		t.Fatalf("what was handed in was changed: %v became %v", before, d)
	}
	step, expected := d, d
	for i, c := range l {
		var p, done api.Done
		step, p = zns.Do(step, c)
		expected, done = model(expected, c)
		if !sameDone(ps[i], p) || !sameDone(p, done) {
			t.Fatalf("command %d, %v: All tells %v, Do %v, the model %v", i, c, ps[i], p, done)
		}
	}
	if !same(got, step) || !same(got, expected) {
		t.Fatalf("behind %d commands: All tells %v, Do %v, the model %v", len(l), got, step, expected)
	}
}

func TestAllOfFew(t *testing.T) {
	d := device(3, 1, 2, "Ia/2", "E")
	if x, l := zns.All(d); !same(x, d) || len(l) != 0 {
		t.Errorf("none: got %v, %v", x, l)
	}
	c := []api.Cmd{
		{Do: api.AppendC, Zone: 0, Epoch: 1, Data: []byte("b")},
		{Do: api.FenceC, Zone: 0, Epoch: 3},
		{Do: api.AppendC, Zone: 0, Epoch: 2, Data: []byte("b")},
		{Do: api.AppendC, Zone: 0, Epoch: 3, Data: []byte("c")},
		{Do: api.AppendC, Zone: 1, Data: []byte("d")},
		{Do: api.ReadC, Zone: 0, Epoch: 3, N: 2},
	}
	want := []api.Done{fails(api.ErrFence), {}, fails(api.ErrFence), {At: 1}, {}, {Data: []byte("ac")}}
	x, l := zns.All(d, c...)
	if !same(x, device(3, 1, 2, "Cac/3", "Id")) || len(l) != len(want) {
		t.Fatalf("got %v, %v", x, l)
	}
	for i := range l {
		if !sameDone(l[i], want[i]) {
			t.Errorf("%v: got %v, want %v", c[i], l[i], want[i])
		}
	}
	bad := device(3, 1, 2, "X", "X")
	x, l = zns.All(bad, c...)
	if !same(x, bad) || len(l) != len(c) {
		t.Fatalf("of one that may not be: got %v, %v", x, l)
	}
	for i := range l {
		if !sameDone(l[i], fails(api.ErrArg)) {
			t.Errorf("of one that may not be: %v: got %v", c[i], l[i])
		}
	}
	if x, l := zns.All(bad); !same(x, bad) || len(l) != 0 {
		t.Errorf("none, of one that may not be: got %v, %v", x, l)
	}
}

// R2

// scribble writes into all memory of a device that can be reached.
func scribble(d api.Zns) {
	zones := d.Z[:cap(d.Z)]
	for i := range zones {
		b := zones[i].Data[:cap(zones[i].Data)]
		for k := range b {
			b[k] = '#'
		}
		zones[i] = api.Zone{State: 77, Fence: -7, Data: []byte("##")}
	}
}

// shared is a device whose zones' bytes lie in one memory, with room behind: a call that appended in place would be seen.
func shared(memory []byte) api.Zns {
	copy(memory, "abcdefgh")
	return api.Zns{Cap: 4, Open: 2, Active: 3, Z: []api.Zone{
		{State: api.Implicit, Data: memory[:2]},
		{State: api.Explicit, Data: memory[2:3]},
		{State: api.Closed, Data: memory[3:4]},
		{State: api.Full, Data: memory[4:5]},
		{State: api.Empty, Data: memory[5:5]},
	}}
}

func TestNothingIsShared(t *testing.T) {
	for _, c := range append(commands(5, 2), api.Cmd{Do: api.ReadC, N: 2}) {
		memory := make([]byte, 12)
		d := shared(memory)
		before := copyOf(d)
		data := append(bytes.Clone(c.Data), "yz"...)
		c.Data = data[:len(c.Data)]
		got, p := zns.Do(d, c)
		want, done := copyOf(got), api.Done{E: p.E, At: p.At, Data: bytes.Clone(p.Data)}
		if !same(d, before) || string(memory[5:8]) != "fgh" {
			t.Fatalf("%v changed what was handed in: %v, %q", c, d, memory)
		}
		scribble(d)
		for i := range data {
			data[i] = '#'
		}
		if !same(got, want) || !sameDone(p, done) {
			t.Fatalf("%v: the answer follows what is written into an argument: %v, %v", c, got, p)
		}
		scribble(got)
		if !sameDone(p, done) {
			t.Fatalf("%v: the bytes that were read are the device's: %v", c, p)
		}
	}
}

// The zones of an answer have each their own memory, and what is written into it is not seen by the device that was handed in.
func TestAnswersAreTheCallersOwn(t *testing.T) {
	for _, c := range commands(5, 2) {
		memory := make([]byte, 12)
		d := shared(memory)
		before := copyOf(d)
		got, p := zns.Do(d, c)
		want := copyOf(got)
		for k := range p.Data {
			p.Data[k] = '#'
		}
		for i := range got.Z {
			for k := range got.Z[i].Data {
				got.Z[i].Data[k] = '#'
			}
			for j := range got.Z {
				if j > i && !bytes.Equal(got.Z[j].Data, want.Z[j].Data) {
					t.Fatalf("%v: zones %d and %d are one memory", c, i, j)
				}
			}
		}
		scribble(got)
		if !same(d, before) || string(memory[:8]) != "abcdefgh" {
			t.Fatalf("%v: the answer is an argument's memory: %v", c, d)
		}
	}
}

func TestDevicesThatMayNotBeAreNotShared(t *testing.T) {
	d := device(3, 1, 2, "Eab", "X", "X")
	before := copyOf(d)
	got, _ := zns.Do(d, adds(0, "c"))
	scribble(got)
	if !same(d, before) {
		t.Errorf("became %v", d)
	}
	got, _ = zns.All(d)
	scribble(got)
	if !same(d, before) {
		t.Errorf("All of none: became %v", d)
	}
}
