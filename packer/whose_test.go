package packer_test

import (
	"bytes"
	"slices"
	"testing"

	"quickset/api"
	"quickset/packer"
	"quickset/seg"
)

// behind is a record that stands in a roomy list's room.
var behind = api.Rec{Kind: 77, Data: []byte{7}}

// roomyBytes are b's, with room behind them in which stands what is not their own.
func roomyBytes(b []byte) []byte { return slices.Concat(b, []byte{99, 99})[:len(b)] }

// roomyRecs are l's, with such room behind the list, and behind each one's Data.
func roomyRecs(l []api.Rec) []api.Rec {
	out := slices.Concat(l, []api.Rec{behind, behind})[:len(l)]
	for i := range out {
		out[i].Data = roomyBytes(out[i].Data)
	}
	return out
}

func somePack() api.Pack {
	p, _, _ := packer.Add(api.Pack{H: api.Header{Host: 2, Epoch: 5, Seq: 1}, Zone: 3, Cap: 4096, At: 30}, shortRecs()...)
	return p
}

func roomyPack() api.Pack {
	p := somePack()
	p.Buf, p.L = roomyBytes(p.Buf), roomyRecs(p.L)
	return p
}

func wantBytesAlone(t *testing.T, what string, b []byte) {
	t.Helper()
	if !bytes.Equal(b[:len(b)+2][len(b):], []byte{99, 99}) {
		t.Errorf("%s wrote behind bytes that were handed in", what)
	}
}

// wantRecs wants roomy records as they were, and what stands behind them.
func wantRecs(t *testing.T, what string, l, want []api.Rec) {
	t.Helper()
	if !slices.EqualFunc(l, want, sameRec) {
		t.Errorf("%s: the records are %v, and were %v", what, l, want)
	}
	for _, r := range l {
		wantBytesAlone(t, what, r.Data)
	}
	if !slices.EqualFunc(l[:len(l)+2][len(l):], []api.Rec{behind, behind}, sameRec) {
		t.Errorf("%s wrote behind records that were handed in", what)
	}
}

func wantAsItWas(t *testing.T, what string, p api.Pack) {
	t.Helper()
	wantPack(t, what, p, api.OK, somePack())
	wantBytesAlone(t, what, p.Buf)
	wantRecs(t, what, p.L, shortRecs())
}

func spoilBytes(b []byte) {
	b = b[:cap(b)]
	for i := range b {
		b[i] = 200
	}
}

// spoilRecs writes into all that records have, also behind their end.
func spoilRecs(l []api.Rec) {
	l = l[:cap(l)]
	for i := range l {
		spoilBytes(l[i].Data)
		l[i] = api.Rec{Kind: -5}
	}
}

func spoil(p api.Pack) {
	spoilBytes(p.Buf)
	spoilRecs(p.L)
}

// changes are all calls that tell a pack of a pack.
func changes() map[string]func(api.Pack) api.Pack {
	return map[string]func(api.Pack) api.Pack{
		"Add":         func(p api.Pack) api.Pack { p, _, _ = packer.Add(p, shortRecs()...); return p },
		"Add of none": func(p api.Pack) api.Pack { p, _, _ = packer.Add(p); return p },
		"Add of what may not be": func(p api.Pack) api.Pack {
			p, _, _ = packer.Add(p, shortRecs()[0], api.Rec{})
			return p
		},
		"Add of too many": func(p api.Pack) api.Pack {
			p, _, _ = packer.Add(p, shortRecs()[0], api.Rec{Kind: api.CheckR, Data: text(4096)})
			return p
		},
		"Flush": func(p api.Pack) api.Pack { _, p, _ = packer.Flush(p); return p },
	}
}

// R2: what is handed in stays as it was, an answer is the caller's own, and stays as it is when what was handed in changes.
func TestWhoseIsWhat(t *testing.T) {
	for name, change := range changes() {
		p := roomyPack()
		want := change(somePack())
		got := change(p)
		wantAsItWas(t, name, p)
		wantPack(t, name, got, api.OK, want)
		spoil(got)
		wantAsItWas(t, name+", its answer changed", p)

		got = change(p)
		packer.Room(p)
		spoil(p)
		wantPack(t, name+", handed in changed", got, api.OK, want)
		wantPack(t, name+", asked again", change(roomyPack()), api.OK, want)
	}
}

func TestWhoseIsWhatIsAdded(t *testing.T) {
	l := roomyRecs(shortRecs())
	want := api.Pack{Cap: 4096, L: shortRecs()}
	want.Buf, _ = framesOf(0, shortRecs()...)
	p, at, _ := packer.Add(api.Pack{Cap: 4096}, l...)
	wantRecs(t, "Add", l, shortRecs())
	clear(at)
	wantPack(t, "places changed", p, api.OK, want)
	spoil(p)
	wantRecs(t, "answer changed", l, shortRecs())

	p, _, _ = packer.Add(api.Pack{Cap: 4096}, l...)
	for i, r := range l {
		b := bytes.Clone(r.Data)
		d, _ := packer.Data(r)
		if d != placeOf(shortRecs()[i]) || !bytes.Equal(b, r.Data) {
			t.Errorf("Data of %v: got %d", r, d)
		}
	}
	spoilRecs(l)
	wantPack(t, "records changed", p, api.OK, want)
}

// Two that were added with the same bytes have nothing together.
func TestWhoseIsWhatIsAddedTwice(t *testing.T) {
	r := shortRecs()[0]
	p, _, _ := packer.Add(api.Pack{Cap: 4096}, r, r)
	spoilBytes(p.L[0].Data)
	if !sameRec(p.L[1], shortRecs()[0]) || !sameRec(r, shortRecs()[0]) {
		t.Errorf("got %v", p.L)
	}
	q, _, _ := packer.Add(p, r)
	spoilBytes(p.L[1].Data)
	if !sameRec(q.L[1], shortRecs()[0]) {
		t.Errorf("got %v", q.L)
	}
}

// Two packs that go on from one have nothing together.
func TestTwoGoOnFromOne(t *testing.T) {
	p := somePack()
	one, _, _ := packer.Add(p, shortRecs()[0])
	want, _, _ := packer.Add(somePack(), shortRecs()[0])
	packer.Add(p, shortRecs()[3])
	packer.Add(one, shortRecs()[4])
	wantPack(t, "one", one, api.OK, want)
	wantPack(t, "none", p, api.OK, somePack())
}

func TestWhoseIsWhatIsFlushed(t *testing.T) {
	p := roomyPack()
	c, q, _ := packer.Flush(p)
	want := bytes.Clone(c.Data)
	spoil(p)
	spoil(q)
	if !bytes.Equal(c.Data, want) {
		t.Errorf("got %v", c)
	}
	p = roomyPack()
	c, _, _ = packer.Flush(p)
	spoilBytes(c.Data)
	wantAsItWas(t, "Flush, its command changed", p)

	p = roomyPack()
	p.Buf = roomyBytes(nil)
	_, q, _ = packer.Flush(p) // nothing, and the pack itself
	spoil(q)
	wantRecs(t, "Flush of nothing", p.L, shortRecs())
	wantBytesAlone(t, "Flush of nothing", p.Buf)
	_, q, _ = packer.Flush(p)
	spoil(p)
	if !slices.EqualFunc(q.L, shortRecs(), sameRec) {
		t.Errorf("got %v", q)
	}
}

func TestWhoseIsWhatIsBegun(t *testing.T) {
	h := api.Header{Host: 2, Epoch: 5, Seq: 1}
	p, _ := packer.Begin(h, 3, 4096)
	spoil(p)
	p, e := packer.Begin(h, 3, 4096)
	wantPack(t, "Begin", p, e, api.Pack{H: h, Zone: 3, Cap: 4096, Buf: headFrame(h)})

	b, _ := seg.Seg(h, shortRecs()...)
	f := seg.Scan(b)
	f.L = roomyRecs(f.L)
	p, _ = packer.Resume(f, 3, 4096, f.Used)
	spoil(p)
	wantRecs(t, "Resume", f.L, shortRecs())
	if again := seg.Scan(b); !slices.Equal(f.At, again.At) || f.Used != again.Used || f.H != h || !f.Head {
		t.Errorf("Resume changed what was found: %v", f)
	}
}
