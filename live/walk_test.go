package live_test

import (
	"slices"
	"testing"

	"quickset/api"
	"quickset/live"
	"quickset/zns"
)

// A model of the document's words by another hand than the program's: in which zone each block is (below 0: in none), block by block, and what each zone took.
type model struct {
	zoneOf []int
	z      []api.Zone
}

// modelOf reads a device and a map of few blocks.
func modelOf(d api.Zns, m []api.Ext) model {
	var zoneOf []int
	for _, x := range m {
		for range x.N {
			zoneOf = append(zoneOf, x.Zone)
		}
	}
	return model{zoneOf, d.Z}
}

func (m model) count(zone int) int {
	n := 0
	for _, z := range m.zoneOf {
		if z == zone {
			n++
		}
	}
	return n
}

func (m model) wholeOf(zone int) int {
	n := 0
	for at := 16; at <= len(m.z[zone].Data); at += 16 {
		n++
	}
	return n
}

func (m model) victim(skip []int) (int, bool) {
	best, fewest := -1, 0
	for i := len(m.z) - 1; i >= 0; i-- {
		n := m.count(i)
		if m.z[i].State == api.Full && n < m.wholeOf(i) && !slices.Contains(skip, i) && (best < 0 || n <= fewest) {
			best, fewest = i, n
		}
	}
	return max(best, 0), best >= 0
}

// plan asks for a victim again and again, without those that were chosen ahead.
func (m model) plan(want int, skip []int) []int {
	var chosen []int
	for len(chosen) < want {
		v, is := m.victim(slices.Concat(skip, chosen))
		if !is {
			break
		}
		chosen = append(chosen, v)
	}
	return chosen
}

func (m model) free(skip []int) []int {
	var l []int
	for i, z := range m.z {
		if z.State == api.Empty && !slices.Contains(skip, i) {
			l = append(l, i)
		}
	}
	return l
}

func (m model) waste() int {
	n := 0
	for i := range m.z {
		n += m.wholeOf(i)
	}
	for _, z := range m.zoneOf {
		if z >= 0 && z < len(m.z) {
			n--
		}
	}
	return max(n, 0)
}

// wantAll holds what all calls tell of a device and a map against the model; wants are how many victims Plan is asked for.
func wantAll(t *testing.T, d api.Zns, l []api.Ext, m model, skip []int, wants ...int) {
	t.Helper()
	v, is := live.Victim(d, l, skip...)
	if want, wantIs := m.victim(skip); v != want || is != wantIs {
		t.Fatalf("Victim of %v, %v without %v: got %d, %v, want %d, %v", d, l, skip, v, is, want, wantIs)
	}
	for _, want := range wants {
		if got, p := live.Plan(d, l, want, skip...), m.plan(want, skip); !slices.Equal(got, p) {
			t.Fatalf("Plan of %v, %v, %d without %v: got %v, want %v", d, l, want, skip, got, p)
		}
	}
	if got, want := live.Free(d, skip...), m.free(skip); !slices.Equal(got, want) {
		t.Fatalf("Free of %v without %v: got %v, want %v", d, skip, got, want)
	}
	if got, e := live.Waste(d, l); got != m.waste() || e != api.OK {
		t.Fatalf("Waste of %v, %v: got %d, %d, want %d", d, l, got, e, m.waste())
	}
}

// wantCounts holds Count and In against the model, and against each other.
func wantCounts(t *testing.T, l []api.Ext, m model, zones int) {
	t.Helper()
	n, e := live.Count(l, zones)
	if len(n) != zones || e != api.OK {
		t.Fatalf("Count of %v, %d zones: got %v, %d", l, zones, n, e)
	}
	for i := range n {
		in, e := live.In(l, i)
		many := 0
		for k, x := range in {
			many += x.N
			if !slices.Contains(l, x) || x.Zone != i || k > 0 && !stands(in[k-1], x) {
				t.Fatalf("In of %v, zone %d: got %v", l, i, in)
			}
		}
		if n[i] != m.count(i) || many != n[i] || e != api.OK {
			t.Fatalf("%v, zone %d: got %d, and %v, %d, want %d", l, i, n[i], in, e, m.count(i))
		}
	}
}

// stands tells whether a stands ahead of b in their zone.
func stands(a, b api.Ext) bool {
	return a.Off < b.Off || a.Off == b.Off && a.Lba < b.Lba
}

// shapes are zones in all states, with bytes of none, one, two and three whole blocks.
func shapes() []api.Zone {
	return device("E X0 I16 C32 F0 F15 F16 F31 F32 F48").Z
}

// smallMaps are all maps of up to three blocks that are trimmed, in one of the zones 0 to 3, or in none at all.
func smallMaps() [][]api.Ext {
	var l [][]api.Ext
	for code := range 6 * 6 * 6 {
		var m []api.Ext
		for i, rest := 0, code; i < 3; i, rest = i+1, rest/6 {
			switch zone := rest%6 - 2; {
			case zone == -1:
				m = append(m, api.Ext{Lba: i, N: 1, Ver: 1, Zone: zone})
			case zone >= 0:
				m = append(m, api.Ext{Lba: i, N: 1, Ver: 1, Zone: zone, Off: 48 - 16*i})
			}
		}
		l = append(l, m)
	}
	return l
}

// All devices of three zones of all shapes (so that there is always a zone 3 that they do not have), with all small maps, without all that may be skipped.
func TestAllSmallDevices(t *testing.T) {
	z, maps := shapes(), smallMaps()
	for code := range len(z) * len(z) * len(z) {
		d := api.Zns{Cap: 100, Open: 3, Active: 3, Z: []api.Zone{z[code%len(z)], z[code/len(z)%len(z)], z[code/len(z)/len(z)]}}
		for _, l := range maps {
			m := modelOf(d, l)
			skip := []int{2, 0, 1}[code%3:][:code%2]
			wantAll(t, d, l, m, skip, 1, 2, 9)
		}
		l := maps[code%len(maps)]
		m := modelOf(d, l)
		for mask := range 8 {
			var skip []int
			for i := range 3 {
				if mask>>i&1 == 1 {
					skip = append(skip, i)
				}
			}
			wantAll(t, d, l, m, skip, 0, 1, 2, 3, 4)
		}
	}
	for _, l := range maps {
		for zones := range 5 {
			wantCounts(t, l, modelOf(api.Zns{}, l), zones)
		}
	}
}

// numbers makes a row that is always the same.
func numbers(row uint64) func(n int) int {
	return func(n int) int {
		row = row*6364136223846793005 + 1442695040888963407
		return int(row>>33) % n
	}
}

// someDevice is any one of so many zones, most of which are Full.
func someDevice(next func(int) int, zones int) api.Zns {
	d := api.Zns{Cap: 400, Open: zones, Active: zones}
	for range zones {
		z := shapes()[next(10)]
		if next(3) > 0 {
			z = api.Zone{State: api.Full, Data: make([]byte, next(401))}
		}
		d.Z = append(d.Z, z)
	}
	return d
}

// someMap is any one of so many extents, in zones of which few are not there.
func someMap(next func(int) int, many, zones int) []api.Ext {
	var m []api.Ext
	lba := 0
	for range many {
		lba += next(2) * next(9)
		x := api.Ext{Lba: lba, N: 1 + next(4), Ver: next(5), Zone: next(zones+2) - 1, Off: next(30)}
		if x.Zone < 0 {
			x.Off = 0
		}
		m = append(m, x)
		lba += x.N
	}
	return m
}

func TestManyDevices(t *testing.T) {
	next := numbers(12)
	longest := 0
	for range 3000 {
		zones := 1 + next(next(64)+1)
		d := someDevice(next, zones)
		if zns.Check(d) != api.OK {
			t.Fatalf("%v may not be", d)
		}
		l := someMap(next, next(8*zones), zones)
		m := modelOf(d, l)
		var skip []int
		for range next(next(2*zones) + 1) {
			skip = append(skip, next(zones+4)-2)
		}
		wantAll(t, d, l, m, skip, 1, next(zones+1), zones)
		wantCounts(t, l, m, zones)
		wantFollows(t, d, l, skip)
		longest = max(longest, len(live.Plan(d, l, zones, skip...)))
	}
	if longest < 20 {
		t.Errorf("no more than %d victims at any time", longest)
	}
}

// wantFollows is P12.4, held against what is handed in alone.
func wantFollows(t *testing.T, d api.Zns, l []api.Ext, skip []int) {
	t.Helper()
	n, _ := live.Count(l, len(d.Z))
	sum := 0
	for _, k := range n {
		sum += k
	}
	for _, x := range l {
		if x.Zone != -1 && x.Zone < len(d.Z) {
			sum -= x.N
		}
	}
	if sum != 0 {
		t.Fatalf("Count of %v: got %v, %d too many", l, n, sum)
	}
	p := live.Plan(d, l, len(d.Z), skip...)
	if v, is := live.Victim(d, l, skip...); is != (len(p) > 0) || is && v != p[0] {
		t.Fatalf("Victim tells %d, %v, Plan %v", v, is, p)
	}
	for i, v := range p {
		if d.Z[v].State != api.Full || slices.Contains(skip, v) || slices.Contains(p[:i], v) {
			t.Fatalf("of %v without %v: got %v", d, skip, p)
		}
	}
}

// Very many end soon: a map of a million extents is not gone through once for each victim.
func TestVeryMany(t *testing.T) {
	const many = 1 << 20
	d, e := zns.New(64, api.MaxCap, 1, 1)
	if e != api.OK {
		t.Fatal(e)
	}
	for i := range d.Z {
		d.Z[i] = api.Zone{State: api.Full, Data: make([]byte, api.MaxCap)}
	}
	m := make([]api.Ext, many)
	for i := range m {
		m[i] = api.Ext{Lba: 2 * i, N: 1, Ver: 1, Zone: i % 512, Off: 16 * (many - i)} // in each zone 2048
	}
	skip := make([]int, 1000000)
	for i := range skip {
		skip[i] = 63 + i
	}
	for range 10 {
		if p := live.Plan(d, m, 64, skip...); len(p) != 63 || p[0] != 0 || p[62] != 62 {
			t.Fatalf("got %v", p)
		}
	}
	wantWaste(t, d, m, 64*2048)
	l, e := live.In(m, 5)
	if len(l) != 2048 || e != api.OK || l[0] != m[many-512+5] || l[2047] != m[5] {
		t.Errorf("got %d extents, %d", len(l), e)
	}
}
