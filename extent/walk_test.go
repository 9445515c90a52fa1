package extent_test

import (
	"slices"
	"testing"

	"quickset/api"
	"quickset/extent"
)

// A model of the document's words by another hand than the program's: each block by itself (an extent of one block; of none where there is none), and whether one begins there.
type model struct {
	base int // the first block that it looks at; all is within the blocks behind it
	at   []api.Ext
	cut  []bool
}

// modelOf reads a list block by block.
func modelOf(l []api.Ext, base, blocks int) model {
	m := model{base, make([]api.Ext, blocks), make([]bool, blocks)}
	for _, x := range l {
		m.put(x)
	}
	return m
}

// put puts an extent in, as one that is cut off at both sides.
func (m model) put(x api.Ext) {
	for i := range x.N {
		at := x.Lba - m.base + i
		m.at[at] = api.Ext{Lba: x.Lba + i, N: 1, Ver: x.Ver, Zone: x.Zone, Off: x.Off}
		if x.Zone >= 0 {
			m.at[at].Off += 16 * i
		}
		m.cut[at] = i == 0
	}
	if behind := x.Lba - m.base + x.N; behind < len(m.cut) {
		m.cut[behind] = true
	}
}

func (m model) copied() model {
	return model{m.base, slices.Clone(m.at), slices.Clone(m.cut)}
}

// list is what the model has of some blocks, as the program would tell it.
func (m model) list(lba, n int) []api.Ext {
	var l []api.Ext
	for i := lba - m.base; i < lba-m.base+n; i++ {
		if m.at[i].N == 0 {
			continue
		}
		if i == lba-m.base || m.cut[i] || m.at[i-1].N == 0 {
			l = append(l, m.at[i])
		} else {
			l[len(l)-1].N++
		}
	}
	return l
}

func (m model) all() []api.Ext { return m.list(m.base, len(m.at)) }

// joined is the model with no more cuts than where a block does not go on.
func (m model) joined() model {
	j := m.copied()
	for i := 1; i < len(j.at); i++ {
		next := j.at[i-1]
		next.Lba++
		if next.Zone >= 0 {
			next.Off += 16
		}
		j.cut[i] = next != j.at[i]
	}
	return j
}

func (m model) without(lba, n int) model {
	c := m.copied()
	for i := range n {
		c.at[lba-m.base+i] = api.Ext{}
	}
	return c
}

func (m model) with(e ...api.Ext) model {
	p := m.copied()
	for _, x := range e {
		p.put(x)
	}
	return p.joined()
}

// gaps are the blocks of these that the model does not have.
func (m model) gaps(lba, n int) []api.Ext {
	g := model{m.base, make([]api.Ext, len(m.at)), make([]bool, len(m.at))}
	for i, x := range m.at {
		if x.N == 0 {
			g.at[i] = api.Ext{Lba: m.base + i, N: 1, Zone: -1}
		}
	}
	return g.list(lba, n)
}

func (m model) many() int {
	n := 0
	for _, x := range m.at {
		n += x.N
	}
	return n
}

// wantSame holds what the program told against what the model has.
func wantSame(t *testing.T, what any, got []api.Ext, e api.Errno, want []api.Ext) {
	t.Helper()
	if !slices.Equal(got, want) || e != api.OK {
		t.Fatalf("%v: got %v, %d, want %v", what, got, e, want)
	}
	if extent.Check(got) != api.OK {
		t.Fatalf("%v: %v may not be", what, got)
	}
}

// wantTold looks what the calls that tell of a list say of it.
func wantTold(t *testing.T, l []api.Ext, m model) {
	t.Helper()
	if got := extent.Many(l); got != m.many() {
		t.Fatalf("Many of %v: got %d", l, got)
	}
	j := extent.Join(l)
	wantSame(t, []any{"Join", l}, j, api.OK, m.joined().all())
	if !extent.Same(l, j) || !extent.Same(j, l) {
		t.Fatalf("%v is not the same as %v", l, j)
	}
	for i, x := range m.at {
		if got, is := extent.At(l, m.base+i); got != x || is != (x.N == 1) {
			t.Fatalf("At %d of %v: got %v, %v", m.base+i, l, got, is)
		}
	}
}

// wantOnce looks at some blocks; P9.4: parts and gaps together have each of them once.
func wantOnce(t *testing.T, l []api.Ext, m model, lba, n int) {
	t.Helper()
	p, e := extent.Part(l, lba, n)
	wantSame(t, []any{"Part", l, lba, n}, p, e, m.list(lba, n))
	g, e := extent.Gaps(l, lba, n)
	wantSame(t, []any{"Gaps", l, lba, n}, g, e, m.gaps(lba, n))
	has := make([]int, n)
	for _, x := range slices.Concat(p, g) {
		for i := range x.N {
			has[x.Lba+i-lba]++
		}
	}
	for _, times := range has {
		if times != 1 {
			t.Fatalf("Part and Gaps of %v at %d, %d: %v, %v", l, lba, n, p, g)
		}
	}
}

// wantCut cuts by both; P9.4: what is cut away is in none.
func wantCut(t *testing.T, l []api.Ext, m model, lba, n int) ([]api.Ext, model) {
	t.Helper()
	c, e := extent.Cut(l, lba, n)
	cut := m.without(lba, n)
	wantSame(t, []any{"Cut", l, lba, n}, c, e, cut.all())
	for i, x := range m.at {
		within := lba <= m.base+i && m.base+i < lba+n
		if got, is := extent.At(c, m.base+i); within && is || !within && got != x {
			t.Fatalf("At %d of %v without %d, %d: got %v, %v", m.base+i, l, lba, n, got, is)
		}
	}
	return c, cut
}

// wantPut puts by both; P9.4: of each block it is told what was put last.
func wantPut(t *testing.T, l []api.Ext, m model, e ...api.Ext) ([]api.Ext, model) {
	t.Helper()
	p, no := extent.Put(l, e...)
	put := m.with(e...)
	wantSame(t, []any{"Put", l, e}, p, no, put.all())
	for i, want := range m.at {
		lba := m.base + i
		for _, x := range e {
			if x.Lba <= lba && lba < x.Lba+x.N {
				part, _ := extent.Part([]api.Ext{x}, lba, 1)
				want = part[0]
			}
		}
		if got, _ := extent.At(p, lba); got != want {
			t.Fatalf("At %d of %v with %v: got %v, want %v", lba, l, e, got, want)
		}
	}
	return p, put
}

// kinds are what may be put at some blocks: those of the same kind go on where they stand side by side.
func kinds(lba, n int) []api.Ext {
	const far = 1 << 45 // so that no place is below 0, wherever the blocks are
	return []api.Ext{
		{Lba: lba, N: n, Ver: 1, Zone: 1, Off: 16*lba + 3},
		{Lba: lba, N: n, Ver: 1, Zone: 1, Off: far - 16*lba},
		{Lba: lba, N: n, Ver: 1, Zone: -1},
		{Lba: lba, N: n, Ver: 0, Zone: -1},
		{Lba: lba, N: n, Ver: 2, Zone: 1, Off: 16*lba + 3},
		{Lba: lba, N: n, Ver: 1, Zone: 2, Off: 16*lba + 3},
	}
}

// All lists of five blocks, each in none or in one of three kinds, cut wherever that can be: whatever is asked of them, and done to them.
func TestAllSmallOnes(t *testing.T) {
	const n = 5
	for code := range 1 << (2 * n) {
		for _, base := range []int{0, mostLba - n} {
			l := []api.Ext(nil)
			for i := range n {
				if kind := code >> (2 * i) & 3; kind > 0 {
					l = append(l, kinds(base+i, 1)[kind-1])
				}
			}
			m := modelOf(l, base, n)
			wantAll(t, l, m)
			if j := m.joined(); !slices.Equal(j.all(), l) {
				wantAll(t, j.all(), j)
			}
		}
	}
}

func wantAll(t *testing.T, l []api.Ext, m model) {
	t.Helper()
	wantTold(t, l, m)
	wantPut(t, l, m)
	for from := range m.at {
		for to := from + 1; to <= len(m.at); to++ {
			lba, n := m.base+from, to-from
			wantOnce(t, l, m, lba, n)
			wantCut(t, l, m, lba, n)
			for _, x := range kinds(lba, n)[:4] {
				wantPut(t, l, m, x)
			}
		}
	}
}

// Long ways, whose steps a row of numbers tells that is always the same.
func TestLongWay(t *testing.T) {
	row := uint64(1)
	next := func(n int) int {
		row = row*6364136223846793005 + 1442695040888963407
		return int(row>>33) % n
	}
	const blocks = 40
	for _, base := range []int{0, 1, 7000, mostLba - blocks} {
		var l []api.Ext
		m := modelOf(l, base, blocks)
		longest := 0
		for i := range 4000 {
			before := slices.Clone(l)
			handed := l
			lba := next(blocks)
			n := 1 + next(min(8, blocks-lba))
			switch next(8) {
			case 0:
				l, m = wantCut(t, l, m, base+lba, n)
			case 1:
				l, m = putUnjoined(t, l, m, kinds(base+lba, n)[next(6)])
			case 2:
				wantOnce(t, l, m, base+lba, n)
			default:
				var e []api.Ext
				for range next(6) {
					lba = next(blocks)
					e = append(e, kinds(base+lba, 1+next(min(8, blocks-lba)))[next(6)])
				}
				put := slices.Clone(e)
				l, m = wantPut(t, l, m, e...)
				if !slices.Equal(e, put) {
					t.Fatalf("Put changed %v to %v", put, e)
				}
			}
			if !slices.Equal(handed, before) {
				t.Fatalf("%v was changed to %v", before, handed)
			}
			longest = max(longest, len(l))
			if i%8 == 0 {
				wantTold(t, l, m)
			}
		}
		if longest < 15 {
			t.Errorf("no more than %d extents at any time", longest)
		}
	}
}

// putUnjoined puts an extent in without joining, so that the way goes over lists that are not joined too.
func putUnjoined(t *testing.T, l []api.Ext, m model, x api.Ext) ([]api.Ext, model) {
	t.Helper()
	l, m = wantCut(t, l, m, x.Lba, x.N)
	l = append(slices.Clone(l), x)
	slices.SortFunc(l, func(a, b api.Ext) int { return a.Lba - b.Lba })
	m.put(x)
	wantSame(t, []any{"put", x}, l, extent.Check(l), m.all())
	return l, m
}

// Very many at once come to the same as one behind the other, in a time that is not much longer.
func TestPutOfVeryMany(t *testing.T) {
	row := uint64(7)
	next := func(n int) int {
		row = row*6364136223846793005 + 1442695040888963407
		return int(row>>33) % n
	}
	e := make([]api.Ext, 100000)
	for i := range e {
		lba := next(8000)
		e[i] = kinds(lba, 1+next(20))[next(6)]
	}
	m := modelOf(nil, 0, 8020).with(e...)
	got, no := extent.Put(nil, e...)
	if !slices.Equal(got, m.all()) || no != api.OK || len(got) < 1000 {
		t.Errorf("got %d extents, %d", len(got), no)
	}
	one := []api.Ext(nil)
	for _, x := range e[:3000] {
		one, _ = extent.Put(one, x)
	}
	if got, _ = extent.Put(nil, e[:3000]...); !slices.Equal(got, one) {
		t.Errorf("got %d extents, one behind the other %d", len(got), len(one))
	}
}
