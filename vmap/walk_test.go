package vmap_test

import (
	"slices"
	"testing"

	"quickset/api"
	"quickset/vmap"
)

// A model of the document's words by another hand than the program's: each block by itself, as an extent of one block (of none where there is none).
type model struct {
	from int // the first block that it looks at; all is within the blocks behind it
	at   []api.Ext
}

func modelOf(from, blocks int) model { return model{from, make([]api.Ext, blocks)} }

// one is an extent's i-th block.
func one(x api.Ext, i int) api.Ext {
	x.Lba += i
	x.N = 1
	if x.Zone >= 0 {
		x.Off += 16 * i
	}
	return x
}

func (m model) copied() model { return model{m.from, slices.Clone(m.at)} }

// offer offers an extent.
func (m model) offer(x api.Ext) {
	for i := range x.N {
		at := x.Lba - m.from + i
		if m.at[at].N == 0 || m.at[at].Ver < x.Ver {
			m.at[at] = one(x, i)
		}
	}
}

// move moves blocks, and tells which these are.
func (m model) move(from, to api.Ext) model {
	told := modelOf(m.from, len(m.at))
	for i := range from.N {
		at := from.Lba - m.from + i
		if m.at[at] == one(from, i) {
			m.at[at] = one(to, i)
			told.at[at] = m.at[at]
		}
	}
	return told
}

// list is what the model has of some blocks, joined.
func (m model) list(lba, n int) []api.Ext {
	var l []api.Ext
	for _, x := range m.at[lba-m.from : lba-m.from+n] {
		if x.N == 0 {
			continue
		}
		last := len(l) - 1
		if last >= 0 && one(l[last], l[last].N) == x {
			l[last].N++
		} else {
			l = append(l, x)
		}
	}
	return l
}

func (m model) all() []api.Ext { return m.list(m.from, len(m.at)) }

// filled is the model with what stands for none.
func (m model) filled() model {
	f := m.copied()
	for i, x := range f.at {
		if x.N == 0 {
			f.at[i] = api.Ext{Lba: m.from + i, N: 1, Zone: -1}
		}
	}
	return f
}

func (m model) newest() int {
	v := 0
	for _, x := range m.at {
		v = max(v, x.Ver)
	}
	return v
}

// numbers makes a row that is always the same.
func numbers(row uint64) func(n int) int {
	return func(n int) int {
		row = row*6364136223846793005 + 1442695040888963407
		return int(row>>33) % n
	}
}

// some is an extent of some blocks: places are few, so that many go on.
func some(next func(int) int, from, blocks int) api.Ext {
	lba := next(blocks)
	x := api.Ext{Lba: from + lba, N: 1 + next(min(8, blocks-lba)), Ver: next(6), Zone: next(4) - 1}
	if x.Zone >= 0 {
		x.Off = 16*lba + 3*next(2)
	}
	return x
}

// step is a record, with its place, and the extents that it tells of.
type step struct {
	r         api.Rec
	zone, off int
	l         []api.Ext
}

// record makes a record that tells of an extent, and of whatever others, if it is a checkpoint.
func record(t *testing.T, next func(int) int, from, blocks int) step {
	t.Helper()
	x := some(next, from, blocks)
	switch kind := next(7); {
	case kind == 0:
		c := modelOf(from, blocks)
		for range next(6) {
			c.offer(some(next, from, blocks))
		}
		b, e := vmap.Write(c.all())
		if e != api.OK {
			t.Fatalf("%v can't be written: %d", c.all(), e)
		}
		return step{check(next(9), b), next(5), next(99), c.all()}
	case x.Zone < 0:
		return step{trim(x.Lba, x.N, x.Ver), next(5), next(99), []api.Ext{x}}
	case kind < 3:
		return step{data(x.Lba, x.N, x.Ver), x.Zone, x.Off, []api.Ext{x}}
	case kind < 5:
		return step{moved(x.Lba, x.N, x.Ver, next(5), next(99)), x.Zone, x.Off, []api.Ext{x}}
	default:
		return step{place(x.Lba, x.N, x.Ver, x.Zone, x.Off), next(5), next(99), []api.Ext{x}}
	}
}

// wantTold looks at what the calls that tell of a map say of it.
func wantTold(t *testing.T, m []api.Ext, by model, lba, n int) {
	t.Helper()
	l, e := vmap.Look(m, lba, n)
	mustMap(t, []any{"Look", m, lba, n}, l, e, by.filled().list(lba, n))
	if v := vmap.Newest(m); v != by.newest() {
		t.Fatalf("Newest of %v: got %d", m, v)
	}
	b, e := vmap.Write(m)
	if e != api.OK {
		t.Fatalf("%v can't be written: %d", m, e)
	}
	r, e := vmap.Read(b)
	mustMap(t, []any{"Read", b}, r, e, m)
}

func mustMap(t *testing.T, what any, got []api.Ext, e api.Errno, want []api.Ext) {
	t.Helper()
	if !slices.Equal(got, want) || e != api.OK {
		t.Fatalf("%v: got %v, %d, want %v", what, got, e, want)
	}
}

// Long ways over small volumes, at their beginning and end.
func TestLongWay(t *testing.T) {
	const blocks = 40
	for i, from := range []int{0, 1, 7000, most - blocks} {
		next := numbers(uint64(i + 1))
		var m []api.Ext
		by := modelOf(from, blocks)
		told := 0
		for range 8000 {
			before, handed := slices.Clone(m), m
			m, by, told = walk(t, next, m, by, told)
			if !slices.Equal(handed, before) {
				t.Fatalf("%v was changed to %v", before, handed)
			}
		}
		if told < 100 {
			t.Errorf("no more than %d blocks were moved", told)
		}
	}
}

// walk goes one step by both.
func walk(t *testing.T, next func(int) int, m []api.Ext, by model, told int) ([]api.Ext, model, int) {
	t.Helper()
	from, blocks := by.from, len(by.at)
	lba := next(blocks)
	wantTold(t, m, by, from+lba, 1+next(blocks-lba))
	switch next(8) {
	case 0: // so that there is something to do again
		by = modelOf(from, blocks)
		return nil, by, told
	case 1:
		var l [][]api.Ext
		for range next(4) {
			var x []api.Ext
			for range next(4) {
				x = append(x, some(next, from, blocks))
				by.offer(x[len(x)-1])
			}
			l = append(l, x)
		}
		got, e := vmap.Merge(m, l...)
		mustMap(t, []any{"Merge", m, l}, got, e, by.all())
		return got, by, told
	case 2, 3, 4:
		x := some(next, from, blocks)
		if len(m) > 0 && next(3) > 0 { // a place that it knows, and some blocks around it
			x = m[next(len(m))]
			if more := next(3); x.Lba-more >= from && x.Off >= 16*more && x.Zone >= 0 {
				x.Lba, x.N, x.Off = x.Lba-more, x.N+more, x.Off-16*more
			}
		}
		to := x
		to.Zone, to.Off = next(3), 16*next(blocks)+next(2)
		if x.Zone < 0 {
			_, _, e := vmap.Move(m, x, to)
			if e != api.ErrArg {
				t.Fatalf("Move of %v: got %d", x, e)
			}
			return m, by, told
		}
		moved := by.move(x, to)
		got, l, e := vmap.Move(m, x, to)
		mustMap(t, []any{"Move", m, x, to}, got, e, by.all())
		mustMap(t, []any{"moved", m, x, to}, l, e, moved.all())
		for _, x := range l {
			told += x.N
		}
		return got, by, told
	default:
		s := record(t, next, from, blocks)
		for _, x := range s.l {
			by.offer(x)
		}
		got, e := vmap.Apply(m, s.r, s.zone, s.off)
		mustMap(t, []any{"Apply", m, s}, got, e, by.all())
		return got, by, told
	}
}

// P10.4: in whatever order records of different versions come, and how often, the map is the same.
func TestAllOrders(t *testing.T) {
	const blocks = 12
	next := numbers(5)
	for range 40 {
		var l []step
		by := modelOf(3, blocks)
		for v := range 4 {
			x := some(next, 3, blocks)
			x.Ver = v
			s := step{place(x.Lba, x.N, v, x.Zone, x.Off), 0, 0, nil}
			if x.Zone < 0 {
				s.r = trim(x.Lba, x.N, v)
			} else if next(2) == 0 {
				s = step{data(x.Lba, x.N, v), x.Zone, x.Off, nil}
			}
			l = append(l, s)
			by.offer(x)
		}
		for code := range 4 * 4 * 4 * 4 * 4 * 4 { // six of the four, each order of all with some twice among them
			var m []api.Ext
			var e api.Errno
			which := 0
			for i := range 6 {
				s := l[code>>(2*i)&3]
				which |= 1 << (code >> (2 * i) & 3)
				if m, e = vmap.Apply(m, s.r, s.zone, s.off); e != api.OK {
					t.Fatalf("%v: got %d", s, e)
				}
			}
			if which == 15 {
				mustMap(t, l, m, api.OK, by.all())
			}
		}
	}
}

// P10.4: maps of records that have no version in common are merged to the same in either order, and to what all of them would be.
func TestMergeOfParts(t *testing.T) {
	const blocks = 60
	next := numbers(9)
	for range 500 {
		maps := make([][]api.Ext, 3)
		var all []api.Ext
		for v := range 30 {
			x := some(next, 0, blocks)
			x.Ver = v
			r := trim(x.Lba, x.N, v)
			if x.Zone >= 0 {
				r = place(x.Lba, x.N, v, x.Zone, x.Off)
			}
			var e, e2 api.Errno
			which := next(3)
			maps[which], e = vmap.Apply(maps[which], r, 0, 0)
			all, e2 = vmap.Apply(all, r, 0, 0)
			if e != api.OK || e2 != api.OK {
				t.Fatalf("%v: got %d, %d", r, e, e2)
			}
		}
		for i := range 3 {
			a, b, c := maps[i], maps[(i+1)%3], maps[(i+2)%3]
			got, e := vmap.Merge(a, b, c)
			mustMap(t, "in one order", got, e, all)
			got, e = vmap.Merge(c, b, a, a, all, b)
			mustMap(t, "in the other order", got, e, all)
		}
	}
}

// All maps of three blocks and all extents over them: an offer, and a move, by all ways that there are.
func TestAllSmallOnes(t *testing.T) {
	const blocks = 3
	kinds := func(lba, n int) []api.Ext {
		return []api.Ext{
			{Lba: lba, N: n, Ver: 1, Zone: 1, Off: 16 * lba},
			{Lba: lba, N: n, Ver: 2, Zone: 1, Off: 16 * lba},
			{Lba: lba, N: n, Ver: 1, Zone: 2, Off: 16 * lba},
			{Lba: lba, N: n, Ver: 1, Zone: 1, Off: 16*lba + 16},
			{Lba: lba, N: n, Ver: 1, Zone: -1},
			{Lba: lba, N: n, Ver: 0, Zone: -1},
			{Lba: lba, N: n, Ver: 3, Zone: -1},
		}
	}
	for code := range 8 * 8 * 8 {
		by := modelOf(0, blocks)
		var m []api.Ext // cut wherever that can be
		for i := range blocks {
			if kind := code >> (3 * i) & 7; kind < 7 {
				by.at[i] = kinds(i, 1)[kind]
				m = append(m, by.at[i])
			}
		}
		for lba := range blocks {
			for n := 1; n <= blocks-lba; n++ {
				for _, x := range kinds(lba, n) {
					wantOffered(t, m, by, x)
					for _, to := range kinds(lba, n) {
						wantMoved(t, m, by, x, to)
					}
				}
				l, e := vmap.Look(m, lba, n)
				mustMap(t, []any{"Look", m, lba, n}, l, e, by.filled().list(lba, n))
			}
		}
	}
}

func wantOffered(t *testing.T, m []api.Ext, by model, x api.Ext) {
	t.Helper()
	after := by.copied()
	after.offer(x)
	got, e := vmap.Merge(m, []api.Ext{x})
	mustMap(t, []any{"Merge", m, x}, got, e, after.all())
	b, _ := vmap.Write([]api.Ext{x})
	got, e = vmap.Apply(m, check(0, b), 0, 0)
	mustMap(t, []any{"Apply of a checkpoint", m, x}, got, e, after.all())
	if x.Zone < 0 {
		got, e = vmap.Apply(m, trim(x.Lba, x.N, x.Ver), 0, 0)
		mustMap(t, []any{"Apply of a trim", m, x}, got, e, after.all())
		return
	}
	for _, r := range []api.Rec{data(x.Lba, x.N, x.Ver), moved(x.Lba, x.N, x.Ver, 9, 9), place(x.Lba, x.N, x.Ver, x.Zone, x.Off)} {
		got, e = vmap.Apply(m, r, x.Zone, x.Off)
		mustMap(t, []any{"Apply", m, r}, got, e, after.all())
	}
}

func wantMoved(t *testing.T, m []api.Ext, by model, x, to api.Ext) {
	t.Helper()
	got, l, e := vmap.Move(m, x, to)
	if x.Zone < 0 || to.Zone < 0 || x.Ver != to.Ver {
		if len(got) != 0 || len(l) != 0 || e != api.ErrArg {
			t.Fatalf("Move of %v to %v in %v: got %v, %v, %d", x, to, m, got, l, e)
		}
		return
	}
	after := by.copied()
	told := after.move(x, to)
	mustMap(t, []any{"Move", m, x, to}, got, e, after.all())
	mustMap(t, []any{"moved", m, x, to}, l, e, told.all())
}

// Very many at once end soon, and come to what they are one behind the other.
func TestMergeOfVeryMany(t *testing.T) {
	const blocks = 6000
	next := numbers(11)
	by := modelOf(0, blocks)
	l := make([][]api.Ext, 40)
	for i := range l {
		for range 1500 {
			x := some(next, 0, blocks)
			l[i] = append(l[i], x)
			by.offer(x)
		}
	}
	got, e := vmap.Merge(nil, l...)
	mustMap(t, "Merge", got, e, by.all())
	if len(got) < 1000 {
		t.Errorf("no more than %d extents", len(got))
	}
}
