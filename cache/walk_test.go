package cache_test

import (
	"bytes"
	"math"
	"slices"
	"testing"

	"quickset/api"
	"quickset/cache"
)

// entry is what a model has for a block, and when it was asked for.
type entry struct{ lba, ver, n, when int }

// A model of the document's words by another hand than the program's: a list in no order, and a time that is one later for each call.
type model struct {
	most, now, hits, misses int
	l                       []entry
}

func (m *model) find(lba int) int {
	return slices.IndexFunc(m.l, func(x entry) bool { return x.lba == lba })
}

func (m *model) get(lba, ver int) (int, bool) {
	m.now++
	at := m.find(lba)
	if at < 0 || m.l[at].ver != ver {
		m.misses++
		return 0, false
	}
	m.hits++
	m.l[at].when = m.now
	return m.l[at].n, true
}

// put is Put of the bytes of n (below 0: of bytes that may not be).
func (m *model) put(lba, ver, n int) api.Errno {
	m.now++
	if lba < 0 || ver < 0 || n < 0 {
		return api.ErrArg
	}
	at := m.find(lba)
	if at >= 0 && m.l[at].ver > ver {
		return api.OK
	}
	if at >= 0 {
		m.l = slices.Delete(m.l, at, at+1)
	}
	m.l = append(m.l, entry{lba, ver, n, m.now})
	if len(m.l) > m.most {
		old := 0
		for i, x := range m.l {
			if x.when < m.l[old].when {
				old = i
			}
		}
		m.l = slices.Delete(m.l, old, old+1)
	}
	return api.OK
}

func (m *model) fill(lba, ver int, l []int) api.Errno {
	for i, n := range l {
		if e := m.put(lba+i, ver, n); e != api.OK {
			return e
		}
	}
	return api.OK
}

func (m *model) drop(lba, n int) int {
	before := len(m.l)
	m.l = slices.DeleteFunc(m.l, func(x entry) bool { return x.lba >= lba && x.lba-lba < n })
	return before - len(m.l)
}

func (m *model) keys() [][2]int {
	l := slices.Clone(m.l)
	slices.SortFunc(l, func(x, y entry) int { return y.when - x.when })
	var out [][2]int
	for _, x := range l {
		out = append(out, [2]int{x.lba, x.ver})
	}
	return out
}

const (
	getD = iota
	putD
	dropD
	fillD
)

// call is one call of a cache: of fillD the bytes of l, of the others those of n, or so many blocks.
type call struct {
	do, lba, ver, n int
	l               []int
}

// bytesOf are the bytes of n.
func bytesOf(n int) []byte {
	if n < 0 {
		return make([]byte, api.Block+n) // too few
	}
	return text(n)
}

// both does a call by the cache and by its model.
func both(t *testing.T, c *cache.Cache, m *model, x call) {
	t.Helper()
	switch x.do {
	case getD:
		b, is := c.Get(x.lba, x.ver)
		n, want := m.get(x.lba, x.ver)
		if is != want || is && !bytes.Equal(b, text(n)) || !is && len(b) != 0 {
			t.Fatalf("%v: got %v, %v, want %d, %v", x, b, is, n, want)
		}
	case putD:
		if e, want := c.Put(x.lba, x.ver, bytesOf(x.n)), m.put(x.lba, x.ver, x.n); e != want {
			t.Fatalf("%v: got %d, want %d", x, e, want)
		}
	case dropD:
		if n, want := c.Drop(x.lba, x.n), m.drop(x.lba, x.n); n != want {
			t.Fatalf("%v: got %d, want %d", x, n, want)
		}
	case fillD:
		var l [][]byte
		for _, n := range x.l {
			l = append(l, bytesOf(n))
		}
		if e, want := c.Fill(x.lba, x.ver, l...), m.fill(x.lba, x.ver, x.l); e != want {
			t.Fatalf("%v: got %d, want %d", x, e, want)
		}
	}
}

func wantAlike(t *testing.T, c *cache.Cache, m *model, way any) {
	t.Helper()
	if got, want := c.Keys(), m.keys(); !slices.Equal(got, want) {
		t.Fatalf("%v: got %v, want %v", way, got, want)
	}
	if h, s := c.Hits(); h != m.hits || s != m.misses {
		t.Fatalf("%v: got %d, %d, want %d, %d", way, h, s, m.hits, m.misses)
	}
	for _, x := range m.keys() { // asking counts, and changes the order: in the model too
		both(t, c, m, call{do: getD, lba: x[0], ver: x[1]})
	}
}

// All ways of a few calls, with room for none up to three.
func TestAllShortWays(t *testing.T) {
	calls := []call{
		{do: getD, lba: 0, ver: 1},
		{do: getD, lba: 1, ver: 2},
		{do: putD, lba: 0, ver: 1, n: 1},
		{do: putD, lba: 0, ver: 2, n: 2},
		{do: putD, lba: 1, ver: 1, n: 3},
		{do: putD, lba: 1, ver: 2, n: 4},
		{do: putD, lba: 2, ver: 0, n: 5},
		{do: dropD, lba: 0, n: 1},
		{do: dropD, lba: 1, n: 9},
		{do: fillD, lba: 0, ver: 2, l: []int{6, 7, -1, 8}},
	}
	const long = 5
	ways := 1
	for range long {
		ways *= len(calls)
	}
	for code := range ways {
		for most := range 4 {
			c, m := cache.New(most), &model{most: most}
			var way [long]int
			for i, rest := 0, code; i < long; i, rest = i+1, rest/len(calls) {
				way[i] = rest % len(calls)
				both(t, c, m, calls[way[i]])
			}
			wantAlike(t, c, m, way)
		}
	}
}

// numbers makes a row that is always the same.
func numbers(row uint64) func(n int) int {
	return func(n int) int {
		row = row*6364136223846793005 + 1442695040888963407
		return int(row>>33) % n
	}
}

// some is any call, of few blocks from one on, at few versions.
func some(next func(int) int, from, blocks int) call {
	x := call{do: next(4), lba: from + next(blocks), ver: next(5) - next(2), n: next(1000)}
	switch x.do {
	case getD:
		x.do = next(2) * putD // so that there is more of both than of what follows
	case dropD:
		x.n = []int{next(3), 1, 1 + next(blocks), next(20) - 5, math.MaxInt - next(2)}[next(5)]
		if next(3) > 0 {
			x = call{do: getD, lba: x.lba, ver: x.ver}
		}
	case fillD:
		for range next(5) {
			x.l = append(x.l, next(1000))
		}
		if len(x.l) > 0 && next(4) == 0 {
			x.l[next(len(x.l))] = -1 - next(api.Block)
		}
	}
	if x.do == putD && next(9) == 0 {
		x.n = -1 - next(api.Block)
	}
	return x
}

// Long ways with room for few, and for more than there are.
func TestLongWays(t *testing.T) {
	for i, most := range []int{0, 1, 2, 3, 5, 8, 13, 100} {
		for j, from := range []int{0, 7, api.MaxLba - 10} {
			next := numbers(uint64(10*i + j + 1))
			c, m := cache.New(most), &model{most: most}
			for range 3000 {
				x := some(next, from, 10)
				both(t, c, m, x)
				if got, want := c.Keys(), m.keys(); !slices.Equal(got, want) {
					t.Fatalf("%v: got %v, want %v", x, got, want)
				}
				if next(50) == 0 {
					wantAlike(t, c, m, x)
				}
			}
			wantAlike(t, c, m, "all")
			if most > 0 && (m.hits < 50 || m.misses < 50) {
				t.Errorf("no more than %d hits and %d misses", m.hits, m.misses)
			}
		}
	}
}

// P11.4, held against what is put and found alone: what is found is what was put last for that block and version, and there are never more than most.
func TestWhatFollows(t *testing.T) {
	const blocks, most = 30, 8
	next := numbers(77)
	c := cache.New(most)
	last := map[[2]int]int{}
	found := 0
	for i := range 40000 {
		lba, ver := next(blocks), next(4)
		if next(2) == 0 {
			wantPut(t, c, lba, ver, i)
			if k := c.Keys(); k[0] == [2]int{lba, ver} { // it was not an elder one
				last[[2]int{lba, ver}] = i
			}
		} else if b, is := c.Get(lba, ver); is {
			found++
			if n, was := last[[2]int{lba, ver}]; !was || !bytes.Equal(b, text(n)) {
				t.Fatalf("%d at %d: got %v, want %d, %v", lba, ver, b, n, was)
			}
		}
		if next(100) == 0 {
			c.Drop(next(blocks), next(5))
		}
		keys := c.Keys()
		if len(keys) > most {
			t.Fatalf("there are %d", len(keys))
		}
		slices.SortFunc(keys, func(x, y [2]int) int { return x[0] - y[0] })
		for i := 1; i < len(keys); i++ {
			if keys[i-1][0] == keys[i][0] {
				t.Fatalf("a block is there twice: %v", keys)
			}
		}
	}
	if found < 1000 {
		t.Errorf("no more than %d were found", found)
	}
}

// Very many end soon: no call goes through all that is there, but one that tells or drops as many.
func TestVeryMany(t *testing.T) {
	const most, all = 200000, 600000
	c := cache.New(most)
	l := make([][]byte, all)
	for i := range l {
		l[i] = text(i % 251)
	}
	if e := c.Fill(5, 1, l...); e != api.OK {
		t.Errorf("got %d", e)
	}
	for i := range most {
		wantFound(t, c, 5+all-most+i, 1, (all-most+i)%251)
		wantNone(t, c, 5+i, 1)
	}
	wantHits(t, c, most, most)
	for i := range most / 2 {
		if n := c.Drop(5+all-1-i, 1); n != 1 {
			t.Fatalf("%d: got %d", i, n)
		}
	}
	if k := c.Keys(); len(k) != most/2 || k[0] != [2]int{5 + all - most/2 - 1, 1} {
		t.Errorf("there are %d", len(k))
	}
	if n := c.Drop(0, math.MaxInt); n != most/2 {
		t.Errorf("got %d", n)
	}
	wantKeys(t, c)
}
