package cache_test

import (
	"bytes"
	"math"
	"slices"
	"testing"

	"quickset/api"
	"quickset/cache"
)

// text makes a block's bytes, others for each n, and none of them like its neighbour.
func text(n int) []byte {
	b := make([]byte, api.Block)
	for i := range b {
		b[i] = byte(n>>(8*(i%8))) ^ byte(17*i)
	}
	return b
}

// filled makes a cache to which each of l was put, a block and a version, with the bytes of its place in l.
func filled(t *testing.T, most int, l ...[2]int) *cache.Cache {
	t.Helper()
	c := cache.New(most)
	for i, x := range l {
		wantPut(t, c, x[0], x[1], i)
	}
	return c
}

func wantPut(t *testing.T, c *cache.Cache, lba, ver, n int) {
	t.Helper()
	if e := c.Put(lba, ver, text(n)); e != api.OK {
		t.Errorf("Put(%d, %d): got %d", lba, ver, e)
	}
}

func wantKeys(t *testing.T, c *cache.Cache, want ...[2]int) {
	t.Helper()
	if got := c.Keys(); !slices.Equal(got, want) {
		t.Errorf("got %v, want %v", got, want)
	}
}

func wantFound(t *testing.T, c *cache.Cache, lba, ver, n int) {
	t.Helper()
	if b, is := c.Get(lba, ver); !is || !bytes.Equal(b, text(n)) {
		t.Errorf("Get(%d, %d): got %v, %v, want %v", lba, ver, b, is, text(n))
	}
}

func wantNone(t *testing.T, c *cache.Cache, lba, ver int) {
	t.Helper()
	if b, is := c.Get(lba, ver); is || len(b) != 0 {
		t.Errorf("Get(%d, %d): got %v, %v", lba, ver, b, is)
	}
}

func wantHits(t *testing.T, c *cache.Cache, hits, misses int) {
	t.Helper()
	if h, m := c.Hits(); h != hits || m != misses {
		t.Errorf("got %d, %d, want %d, %d", h, m, hits, misses)
	}
}

// P11.1

func TestNewIsEmpty(t *testing.T) {
	for _, most := range []int{math.MinInt, -1, 0, 1, 3, math.MaxInt} {
		c := cache.New(most)
		wantKeys(t, c)
		wantHits(t, c, 0, 0)
		wantNone(t, c, 0, 0)
		if n := c.Drop(0, math.MaxInt); n != 0 {
			t.Errorf("%d: got %d", most, n)
		}
	}
}

func TestRoom(t *testing.T) {
	for _, most := range []int{math.MinInt, -7, -1, 0, 1, 2, 3, 10, 1000, math.MaxInt} {
		c := cache.New(most)
		var want [][2]int
		for i := range 50 {
			wantPut(t, c, i, 2*i, i)
			want = append([][2]int{{i, 2 * i}}, want...)
			want = want[:min(len(want), max(most, 0))]
			wantKeys(t, c, want...)
		}
		for _, x := range want {
			wantFound(t, c, x[0], x[1], x[0])
		}
		wantHits(t, c, len(want), 0)
	}
}

func TestNoRoom(t *testing.T) {
	c := cache.New(0)
	wantPut(t, c, 1, 1, 1)
	wantNone(t, c, 1, 1)
	for i, e := range []api.Errno{c.Put(-1, 1, text(1)), c.Put(1, -1, text(1)), c.Put(1, 1, text(1)[1:]), c.Fill(1, 1, text(1), nil)} {
		if e != api.ErrArg {
			t.Errorf("%d: got %d", i, e)
		}
	}
	wantKeys(t, c)
	wantHits(t, c, 0, 1)
}

func TestPutOfWhatMayNotBe(t *testing.T) {
	c := filled(t, 3, [2]int{1, 1}, [2]int{2, 1}, [2]int{3, 4})
	for _, x := range []struct {
		lba, ver int
		b        []byte
	}{
		{-1, 0, text(9)},
		{-1, 9, text(9)},
		{math.MinInt, 0, text(9)},
		{0, -1, text(9)},
		{2, -1, text(9)},
		{2, math.MinInt, text(9)},
		{2, 9, nil},
		{2, 9, []byte{}},
		{2, 9, text(9)[:1]},
		{2, 9, text(9)[:api.Block-1]},
		{2, 9, make([]byte, api.Block+1)},
		{2, 9, make([]byte, 2*api.Block)},
		{2, 0, nil},
		{3, 3, nil}, // a greater version is there, but what may not be comes first
		{-1, -1, nil},
	} {
		if e := c.Put(x.lba, x.ver, x.b); e != api.ErrArg {
			t.Errorf("Put(%d, %d, %v): got %d", x.lba, x.ver, x.b, e)
		}
		wantKeys(t, c, [2]int{3, 4}, [2]int{2, 1}, [2]int{1, 1})
	}
	wantFound(t, c, 2, 1, 1)
	wantHits(t, c, 1, 0)
}

func TestPutEdges(t *testing.T) {
	c := filled(t, 9, [2]int{0, 0}, [2]int{math.MaxInt, math.MaxInt}, [2]int{api.MaxLba, 0}, [2]int{0, math.MaxInt}, [2]int{math.MaxInt, 0})
	wantKeys(t, c, [2]int{0, math.MaxInt}, [2]int{api.MaxLba, 0}, [2]int{math.MaxInt, math.MaxInt})
	wantFound(t, c, 0, math.MaxInt, 3)
	wantFound(t, c, math.MaxInt, math.MaxInt, 1)
	wantFound(t, c, api.MaxLba, 0, 2)
	wantNone(t, c, 0, 0)
}

func TestPutOfElder(t *testing.T) {
	c := filled(t, 3, [2]int{1, 5}, [2]int{2, 1})
	for _, ver := range []int{0, 3, 4} {
		wantPut(t, c, 1, ver, 9)
		wantKeys(t, c, [2]int{2, 1}, [2]int{1, 5}) // nor is it asked for
		wantNone(t, c, 1, ver)
	}
	wantFound(t, c, 1, 5, 0)
}

func TestPutOfSame(t *testing.T) {
	c := filled(t, 3, [2]int{1, 5}, [2]int{2, 1})
	wantPut(t, c, 1, 5, 9)
	wantKeys(t, c, [2]int{1, 5}, [2]int{2, 1})
	wantFound(t, c, 1, 5, 9)
}

func TestPutOfNewer(t *testing.T) {
	c := filled(t, 2, [2]int{1, 5}, [2]int{2, 1})
	wantPut(t, c, 1, 6, 9) // none goes: it stands in the place of what was there
	wantKeys(t, c, [2]int{1, 6}, [2]int{2, 1})
	wantNone(t, c, 1, 5)
	wantFound(t, c, 1, 6, 9)
	wantFound(t, c, 2, 1, 1)
}

// What is there no more is forgotten, its version too.
func TestPutOfElderBehindNewer(t *testing.T) {
	c := filled(t, 2, [2]int{1, 5}, [2]int{2, 1}, [2]int{3, 1})
	wantPut(t, c, 1, 4, 8)
	wantKeys(t, c, [2]int{1, 4}, [2]int{3, 1})
	if n := c.Drop(1, 1); n != 1 {
		t.Errorf("got %d", n)
	}
	wantPut(t, c, 1, 0, 9)
	wantFound(t, c, 1, 0, 9)
}

func TestWhichGoes(t *testing.T) {
	c := filled(t, 3, [2]int{1, 1}, [2]int{2, 1}, [2]int{3, 1})
	wantFound(t, c, 1, 1, 0) // 2 was asked for longest ago
	wantPut(t, c, 4, 1, 4)
	wantKeys(t, c, [2]int{4, 1}, [2]int{1, 1}, [2]int{3, 1})
	wantPut(t, c, 3, 2, 5) // 1 is now
	wantPut(t, c, 5, 1, 6)
	wantKeys(t, c, [2]int{5, 1}, [2]int{3, 2}, [2]int{4, 1})
	wantNone(t, c, 4, 2)   // a miss, which
	wantPut(t, c, 4, 0, 7) // like a Put of what is elder, asks for nothing
	wantPut(t, c, 6, 1, 8)
	wantKeys(t, c, [2]int{6, 1}, [2]int{5, 1}, [2]int{3, 2})
}

// P11.2

func TestGetAtJustThatVersion(t *testing.T) {
	c := filled(t, 3, [2]int{1, 5}, [2]int{2, 1})
	misses := 0
	for _, x := range [][2]int{{1, 4}, {1, 6}, {1, 0}, {1, -1}, {1, math.MaxInt}, {1, math.MinInt}, {0, 5}, {5, 1}, {-1, 5}, {math.MaxInt, 5}, {math.MinInt, 5}, {2, 5}} {
		wantNone(t, c, x[0], x[1])
		misses++
		wantHits(t, c, 0, misses)
		wantKeys(t, c, [2]int{2, 1}, [2]int{1, 5})
	}
	wantFound(t, c, 1, 5, 0)
	wantKeys(t, c, [2]int{1, 5}, [2]int{2, 1})
	wantHits(t, c, 1, misses)
}

func TestGetIsAskedLast(t *testing.T) {
	c := filled(t, 3, [2]int{1, 1}, [2]int{2, 1}, [2]int{3, 1})
	wantFound(t, c, 3, 1, 2) // the first
	wantKeys(t, c, [2]int{3, 1}, [2]int{2, 1}, [2]int{1, 1})
	wantFound(t, c, 2, 1, 1) // the one between
	wantKeys(t, c, [2]int{2, 1}, [2]int{3, 1}, [2]int{1, 1})
	wantFound(t, c, 1, 1, 0) // the last
	wantKeys(t, c, [2]int{1, 1}, [2]int{2, 1}, [2]int{3, 1})
}

// Nothing but a Get is a hit or a miss.
func TestHits(t *testing.T) {
	c := filled(t, 2, [2]int{1, 1}, [2]int{2, 1}, [2]int{1, 0})
	c.Put(-1, 0, nil)
	c.Fill(7, 1, text(0), text(1), nil)
	c.Drop(0, 4)
	c.Keys()
	wantHits(t, c, 0, 0)
	for i := range 30 {
		wantFound(t, c, 8, 1, 1)
		wantNone(t, c, 1, 1)
		wantNone(t, c, 8, 2)
		wantHits(t, c, i+1, 2*i+2)
	}
	c.Drop(0, 100) // what was counted stays
	wantHits(t, c, 30, 60)
}

func TestDrop(t *testing.T) {
	for _, x := range []struct {
		lba, n, want int
		left         [][2]int
	}{
		{0, math.MinInt, 0, [][2]int{{9, 0}, {3, 7}, {4, 1}, {2, 2}}},
		{2, -1, 0, [][2]int{{9, 0}, {3, 7}, {4, 1}, {2, 2}}},
		{2, 0, 0, [][2]int{{9, 0}, {3, 7}, {4, 1}, {2, 2}}},
		{2, 1, 1, [][2]int{{9, 0}, {3, 7}, {4, 1}}},
		{3, 1, 1, [][2]int{{9, 0}, {4, 1}, {2, 2}}},
		{9, 1, 1, [][2]int{{3, 7}, {4, 1}, {2, 2}}},
		{0, 2, 0, [][2]int{{9, 0}, {3, 7}, {4, 1}, {2, 2}}},
		{0, 3, 1, [][2]int{{9, 0}, {3, 7}, {4, 1}}},
		{2, 2, 2, [][2]int{{9, 0}, {4, 1}}},
		{3, 4, 2, [][2]int{{9, 0}, {2, 2}}},
		{3, 5, 2, [][2]int{{9, 0}, {2, 2}}},
		{3, 6, 2, [][2]int{{9, 0}, {2, 2}}},
		{3, 7, 3, [][2]int{{2, 2}}},
		{0, 9, 3, [][2]int{{9, 0}}},
		{0, 10, 4, nil},
		{0, math.MaxInt, 4, nil},
		{2, math.MaxInt, 4, nil},
		{3, math.MaxInt, 3, [][2]int{{2, 2}}},
		{9, math.MaxInt, 1, [][2]int{{3, 7}, {4, 1}, {2, 2}}},
		{10, 1, 0, [][2]int{{9, 0}, {3, 7}, {4, 1}, {2, 2}}},
		{10, math.MaxInt, 0, [][2]int{{9, 0}, {3, 7}, {4, 1}, {2, 2}}},
		{math.MaxInt, 3, 0, [][2]int{{9, 0}, {3, 7}, {4, 1}, {2, 2}}},
		{math.MaxInt, math.MaxInt, 0, [][2]int{{9, 0}, {3, 7}, {4, 1}, {2, 2}}},
	} {
		c := filled(t, 4, [2]int{2, 2}, [2]int{4, 1}, [2]int{3, 7}, [2]int{9, 0})
		if n := c.Drop(x.lba, x.n); n != x.want {
			t.Errorf("Drop(%d, %d): got %d, want %d", x.lba, x.n, n, x.want)
		}
		wantKeys(t, c, x.left...)
		if n := c.Drop(x.lba, x.n); n != 0 {
			t.Errorf("Drop(%d, %d) again: got %d", x.lba, x.n, n)
		}
		for _, k := range x.left {
			if _, is := c.Get(k[0], k[1]); !is {
				t.Errorf("Drop(%d, %d): %v is not there", x.lba, x.n, k)
			}
		}
	}
}

// What was dropped gives room.
func TestPutBehindDrop(t *testing.T) {
	c := filled(t, 3, [2]int{1, 1}, [2]int{2, 1}, [2]int{3, 1})
	c.Drop(2, 1)
	wantPut(t, c, 4, 1, 4)
	wantKeys(t, c, [2]int{4, 1}, [2]int{3, 1}, [2]int{1, 1})
	wantPut(t, c, 5, 1, 5)
	wantKeys(t, c, [2]int{5, 1}, [2]int{4, 1}, [2]int{3, 1})
	c.Drop(3, 3)
	wantKeys(t, c)
	wantPut(t, c, 6, 1, 6)
	wantKeys(t, c, [2]int{6, 1})
	wantFound(t, c, 6, 1, 6)
}

func TestDropAtTheEnd(t *testing.T) {
	for _, n := range []int{1, 2, 9, math.MaxInt} {
		c := filled(t, 9, [2]int{math.MaxInt, 1}, [2]int{0, 1}, [2]int{math.MaxInt - 1, 1})
		if got := c.Drop(math.MaxInt, n); got != 1 {
			t.Errorf("%d: got %d", n, got)
		}
		wantKeys(t, c, [2]int{math.MaxInt - 1, 1}, [2]int{0, 1})
	}
}

// P11.3

func TestFill(t *testing.T) {
	c := cache.New(9)
	if e := c.Fill(4, 7, text(0), text(1), text(2)); e != api.OK {
		t.Errorf("got %d", e)
	}
	wantKeys(t, c, [2]int{6, 7}, [2]int{5, 7}, [2]int{4, 7})
	for i := range 3 {
		wantFound(t, c, 4+i, 7, i)
	}
	wantPut(t, c, 5, 9, 5)
	if e := c.Fill(3, 8, text(6), text(7), text(8), text(9)); e != api.OK {
		t.Errorf("got %d", e)
	}
	wantKeys(t, c, [2]int{6, 8}, [2]int{4, 8}, [2]int{3, 8}, [2]int{5, 9})
	wantFound(t, c, 5, 9, 5)
	wantFound(t, c, 6, 8, 9)
}

func TestFillOfNone(t *testing.T) {
	c := filled(t, 2, [2]int{1, 1})
	for i, e := range []api.Errno{c.Fill(0, 0), c.Fill(1, 9, [][]byte{}...), c.Fill(api.MaxLba, 1)} {
		if e != api.OK {
			t.Errorf("%d: got %d", i, e)
		}
	}
	wantKeys(t, c, [2]int{1, 1})
}

func TestFillBeyondRoom(t *testing.T) {
	c := filled(t, 2, [2]int{1, 1})
	if e := c.Fill(4, 7, text(0), text(1), text(2), text(3)); e != api.OK {
		t.Errorf("got %d", e)
	}
	wantKeys(t, c, [2]int{7, 7}, [2]int{6, 7})
}

func TestFillOfWhatMayNotBe(t *testing.T) {
	bad := [][]byte{nil, {}, {1}, text(1)[1:], make([]byte, api.Block+1)}
	for _, b := range bad {
		for at := range 4 {
			c := filled(t, 9, [2]int{1, 1})
			l := [][]byte{text(0), text(1), text(2), text(3)}
			l[at] = b
			if e := c.Fill(4, 7, l...); e != api.ErrArg {
				t.Errorf("%d: got %d", at, e)
			}
			want := [][2]int{{1, 1}}
			for i := range at {
				want = append([][2]int{{4 + i, 7}}, want...)
			}
			wantKeys(t, c, want...)
		}
	}
	c := filled(t, 9, [2]int{1, 1})
	for i, e := range []api.Errno{
		c.Fill(-1, 1, text(0), text(1)), // block 0 is behind the first one
		c.Fill(-2, 1, text(0), text(1), text(2)),
		c.Fill(math.MinInt, 1, text(0)),
		c.Fill(1, -1, text(0)),
		c.Fill(1, math.MinInt, text(0), text(1)),
	} {
		if e != api.ErrArg {
			t.Errorf("%d: got %d", i, e)
		}
	}
	wantKeys(t, c, [2]int{1, 1})
	wantFound(t, c, 1, 1, 0)
}

func TestFillAtTheEnd(t *testing.T) {
	c := cache.New(9)
	if e := c.Fill(api.MaxLba, 1, text(0), text(1)); e != api.OK {
		t.Errorf("got %d", e)
	}
	wantKeys(t, c, [2]int{api.MaxLba + 1, 1}, [2]int{api.MaxLba, 1})
}

// The document's example.
func TestExample(t *testing.T) {
	c := filled(t, 1, [2]int{1, 1}, [2]int{2, 1})
	wantNone(t, c, 1, 1)
	wantHits(t, c, 0, 1)
}

// R1: no call panics, whatever it is asked of.
func TestNotMadeByNew(t *testing.T) {
	for i, c := range []*cache.Cache{nil, {}} {
		wantPut(t, c, 1, 1, 1)
		if e := c.Put(1, 1, nil); e != api.ErrArg {
			t.Errorf("%d: got %d", i, e)
		}
		if e := c.Fill(1, 1, text(1), text(2)); e != api.OK {
			t.Errorf("%d: got %d", i, e)
		}
		wantNone(t, c, 1, 1)
		wantKeys(t, c)
		if n := c.Drop(0, 9); n != 0 {
			t.Errorf("%d: got %d", i, n)
		}
		c.Hits()
	}
}

// R2: what is handed in is not kept, and what is answered is the caller's own.
func TestNothingIsShared(t *testing.T) {
	c := cache.New(4)
	put, one, two := text(0), text(1), text(2)
	l := [][]byte{one, two}
	c.Put(1, 1, put)
	c.Fill(2, 1, l...)
	if !bytes.Equal(put, text(0)) || !bytes.Equal(one, text(1)) || !bytes.Equal(two, text(2)) {
		t.Error("an argument was changed")
	}
	clear(put)
	clear(one)
	clear(two)
	clear(l)
	for range 2 {
		for i := range 3 {
			wantFound(t, c, 1+i, 1, i)
			b, _ := c.Get(1+i, 1)
			clear(b[:cap(b)])
		}
	}
	keys := c.Keys()
	clear(keys[:cap(keys)])
	wantKeys(t, c, [2]int{3, 1}, [2]int{2, 1}, [2]int{1, 1})

	b, _ := c.Get(1, 1)
	again, _ := c.Get(1, 1)
	clear(again)
	keys = c.Keys()
	c.Put(1, 1, text(9))
	c.Drop(2, 2)
	if !bytes.Equal(b, text(0)) || !slices.Equal(keys, [][2]int{{1, 1}, {3, 1}, {2, 1}}) {
		t.Errorf("an answer was changed: %v, %v", b, keys)
	}
}

// R5: one cache knows nothing of another one.
func TestTwoCaches(t *testing.T) {
	a, b := cache.New(2), cache.New(2)
	wantPut(t, a, 1, 1, 1)
	wantPut(t, b, 1, 2, 2)
	wantNone(t, b, 1, 1)
	wantFound(t, a, 1, 1, 1)
	b.Drop(0, 9)
	wantKeys(t, a, [2]int{1, 1})
	wantHits(t, a, 1, 0)
	wantHits(t, b, 0, 1)
}
