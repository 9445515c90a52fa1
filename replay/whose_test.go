package replay_test

import (
	"bytes"
	"slices"
	"testing"

	"quickset/api"
	"quickset/replay"
)

// roomyBytes are b's, with room behind them in which stands what is not their own.
func roomyBytes(b []byte) []byte { return slices.Concat(b, []byte{99, 99})[:len(b)] }

var (
	behindZones = api.Zone{State: 77}
	behindExts  = api.Ext{Lba: 77}
)

func someDevice() api.Zns {
	return device(segmentOf(someRecs()...), nil, slices.Concat(segmentOf(data(1, 2, 3), check(4, api.Ext{Lba: 9, N: 1, Ver: 1, Zone: 2})), []byte{5}))
}

func roomyDevice() api.Zns {
	d := someDevice()
	d.Z = slices.Concat(d.Z, []api.Zone{behindZones, behindZones})[:len(d.Z)]
	for i := range d.Z {
		d.Z[i].Data = roomyBytes(d.Z[i].Data)
	}
	return d
}

func sameZone(a, b api.Zone) bool {
	return a.State == b.State && a.Fence == b.Fence && bytes.Equal(a.Data, b.Data)
}

func wantAsItWas(t *testing.T, what string, d api.Zns) {
	t.Helper()
	want := someDevice()
	if d.Cap != want.Cap || d.Open != want.Open || d.Active != want.Active || !slices.EqualFunc(d.Z, want.Z, sameZone) {
		t.Errorf("%s changed a device: %v", what, d)
	}
	for _, z := range d.Z {
		if !bytes.Equal(z.Data[:len(z.Data)+2][len(z.Data):], []byte{99, 99}) {
			t.Errorf("%s wrote behind a zone's bytes", what)
		}
	}
	if !slices.EqualFunc(d.Z[:len(d.Z)+2][len(d.Z):], []api.Zone{behindZones, behindZones}, sameZone) {
		t.Errorf("%s wrote behind a device's zones", what)
	}
}

func spoilBytes(b []byte) {
	b = b[:cap(b)]
	for i := range b {
		b[i] = 200
	}
}

func spoilDevice(d api.Zns) {
	z := d.Z[:cap(d.Z)]
	for i := range z {
		spoilBytes(z[i].Data)
		z[i] = api.Zone{State: -5}
	}
}

// spoilFound writes into all that was found.
func spoilFound(f api.Found) {
	for _, r := range f.L[:cap(f.L)] {
		spoilBytes(r.Data)
	}
	clear(f.L[:cap(f.L)])
	clear(f.At[:cap(f.At)])
}

// R2: what is handed in stays as it was, an answer is the caller's own, and stays as it is when what was handed in changes.
func TestWhoseIsWhatIsFound(t *testing.T) {
	for zone := range someDevice().Z {
		d := roomyDevice()
		want := replay.Zone(someDevice().Z[zone])
		f := replay.Zone(d.Z[zone])
		wantAsItWas(t, "Zone", d)
		spoilFound(f)
		wantAsItWas(t, "Zone, its answer changed", d)
		f = replay.Zone(d.Z[zone])
		spoilDevice(d)
		if !sameFound(f, want) {
			t.Errorf("got %v, want %v", f, want)
		}
		for i, r := range f.L { // no two lists of an answer have anything together
			spoilBytes(r.Data)
			for k, x := range f.L {
				if k > i && !sameRec(x, want.L[k]) {
					t.Errorf("%d and %d have bytes together", i, k)
				}
			}
		}
	}
}

func TestWhoseIsWhatIsTold(t *testing.T) {
	d := roomyDevice()
	heads, torn := replay.Heads(d), replay.Torn(d)
	replay.Newest(d)
	wantAsItWas(t, "Heads, Torn and Newest", d)
	spoilDevice(d)
	if !slices.Equal(heads, replay.Heads(someDevice())) || !slices.Equal(torn, replay.Torn(someDevice())) {
		t.Errorf("got %v, %v", heads, torn)
	}
	clear(heads[:cap(heads)])
	clear(torn[:cap(torn)])
	if l := replay.Heads(someDevice()); l[1].Host != -1 {
		t.Errorf("got %v", l)
	}
}

func TestWhoseIsTheMap(t *testing.T) {
	for _, zones := range [][]int{nil, {2, 0, 2}, {2}} {
		d := roomyDevice()
		named := slices.Concat(zones, []int{99, 99})[:len(zones)]
		want, _ := replay.Map(someDevice(), slices.Clone(zones)...)
		m, e := replay.Map(d, named...)
		wantAsItWas(t, "Map", d)
		if !slices.Equal(named, zones) || !slices.Equal(named[:len(zones)+2][len(zones):], []int{99, 99}) {
			t.Errorf("the zones are %v, and were %v", named, zones)
		}
		spoilDevice(d)
		clear(named)
		wantMap(t, zones, m, e, want...)
		clear(m[:cap(m)])
		m, e = replay.Map(someDevice(), zones...)
		wantMap(t, zones, m, e, want...)
	}
}

func TestWhoseAreTheBytes(t *testing.T) {
	d := roomyDevice()
	m := []api.Ext{{Lba: 0, N: 2, Zone: 2, Off: 4}, {Lba: 2, N: 1, Zone: -1}, {Lba: 3, N: 1, Zone: 0, Off: 3}}
	for _, c := range []struct{ lba, n int }{{0, 1}, {0, 2}, {0, 3}, {2, 1}, {3, 1}, {0, 6}, {5, 1}, {0, 5000}} {
		roomy := slices.Concat(m, []api.Ext{behindExts, behindExts})[:len(m)]
		want, _ := replay.Bytes(someDevice(), m, c.lba, c.n)
		want = bytes.Clone(want)
		b, _ := replay.Bytes(d, roomy, c.lba, c.n)
		wantAsItWas(t, "Bytes", d)
		if !slices.Equal(roomy[:len(m)+2], slices.Concat(m, []api.Ext{behindExts, behindExts})) {
			t.Errorf("%v: the map is %v", c, roomy)
		}
		spoilBytes(b)
		wantAsItWas(t, "Bytes, its answer changed", d)
		b, _ = replay.Bytes(d, roomy, c.lba, c.n)
		spoilDevice(d)
		if !bytes.Equal(b, want) {
			t.Errorf("%v: got %v, want %v", c, b, want)
		}
		d = roomyDevice()
	}
}
