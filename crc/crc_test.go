package crc_test

import (
	"bytes"
	"hash/crc32"
	"math"
	"sync"
	"testing"

	"quickset/crc"
)

// zeroBits lets the register go n bits to the right, as the words say it, one by one.
func zeroBits(c uint32, n int) uint32 {
	for range n {
		out := c & 1
		c >>= 1
		if out == 1 {
			c ^= 0x82f63b78
		}
	}
	return c
}

// plain goes on from the sum c with b, as the words say it, bit by bit.
func plain(c uint32, b []byte) uint32 {
	c = ^c
	for _, x := range b {
		c = zeroBits(c^uint32(x), 8)
	}
	return ^c
}

// text makes n bytes that look like no pattern, always the same ones.
func text(n int) []byte {
	b := make([]byte, n)
	s := uint32(n)*2654435761 + 12345
	for i := range b {
		s = s*1664525 + 1013904223
		b[i] = byte(s >> 24)
	}
	return b
}

// someSums are registers of all kinds: the edges, single bits, and others.
func someSums() []uint32 {
	l := []uint32{0, 1, math.MaxUint32, 0x82f63b78, 0xe3069283, 0x12345678}
	for i := range 32 {
		l = append(l, 1<<i)
	}
	return l
}

func TestSumKnown(t *testing.T) {
	up, down := make([]byte, 32), make([]byte, 32)
	for i := range up {
		up[i], down[i] = byte(i), byte(31-i)
	}
	for _, x := range []struct {
		b    []byte
		want uint32
	}{
		{[]byte("123456789"), 0xe3069283},
		{[]byte{0}, 0x527d5351},
		{[]byte("a"), 0xc1d04330},
		{make([]byte, 32), 0x8a9136aa},
		{bytes.Repeat([]byte{255}, 32), 0x62a8ab43},
		{up, 0x46dd794e},
		{down, 0x113fdb5c},
	} {
		if got := crc.New().Sum(x.b); got != x.want {
			t.Errorf("Sum(%x) = %08x, want %08x", x.b, got, x.want)
		}
	}
}

func TestSumOfNothing(t *testing.T) {
	c := crc.New()
	for i, got := range []uint32{
		c.Sum(), c.Sum(nil), c.Sum([]byte{}), c.Sum(nil, []byte{}, nil), c.Sum([][]byte{}...),
	} {
		if got != 0 {
			t.Errorf("%d: the sum of nothing is %08x", i, got)
		}
	}
}

func TestSumAsWords(t *testing.T) {
	c := crc.New()
	other := crc32.MakeTable(crc32.Castagnoli)
	for n := range 300 {
		b := text(n)
		want := plain(0, b)
		if lib := crc32.Checksum(b, other); lib != want {
			t.Fatalf("the test's own sum of %d bytes is wrong", n)
		}
		if got := c.Sum(b); got != want {
			t.Errorf("%d bytes: got %08x, want %08x", n, got, want)
		}
	}
	for x := range 256 {
		if got, want := c.Sum([]byte{byte(x)}), plain(0, []byte{byte(x)}); got != want {
			t.Errorf("byte %d: got %08x, want %08x", x, got, want)
		}
	}
	long := text(1 << 20)
	if got, want := c.Sum(long), crc32.Checksum(long, other); got != want {
		t.Errorf("a long text: got %08x, want %08x", got, want)
	}
}

func TestSumOfPieces(t *testing.T) {
	c := crc.New()
	b := text(20)
	want := plain(0, b)
	for i := 0; i <= len(b); i++ {
		for j := i; j <= len(b); j++ {
			if got := c.Sum(b[:i], b[i:j], nil, b[j:]); got != want {
				t.Errorf("cut at %d and %d: got %08x, want %08x", i, j, got, want)
			}
		}
	}
	if c.Sum(b[:10], b[10:]) == c.Sum(b[10:], b[:10]) {
		t.Error("the order of pieces does not count")
	}
}

func TestUpdate(t *testing.T) {
	c := crc.New()
	b := text(40)
	for i := 0; i <= len(b); i++ {
		if got, want := c.Update(c.Sum(b[:i]), b[i:]), c.Sum(b); got != want {
			t.Errorf("cut at %d: got %08x, want %08x", i, got, want)
		}
	}
	for _, a := range someSums() {
		if got := c.Update(a, nil); got != a {
			t.Errorf("Update(%08x, nil) = %08x", a, got)
		}
		if got := c.Update(a, []byte{}); got != a {
			t.Errorf("Update(%08x, empty) = %08x", a, got)
		}
		for n := range 12 {
			if got, want := c.Update(a, text(n)), plain(a, text(n)); got != want {
				t.Errorf("Update(%08x, %d bytes) = %08x, want %08x", a, n, got, want)
			}
		}
	}
}

func TestJoinOfTexts(t *testing.T) {
	c := crc.New()
	for n := range 70 {
		for m := range 70 {
			x, y := text(n), text(1000 + m)[:m]
			if got, want := c.Join(c.Sum(x), c.Sum(y), m), c.Sum(x, y); got != want {
				t.Errorf("%d and %d bytes: got %08x, want %08x", n, m, got, want)
			}
		}
	}
	x, y := text(77), text(100000)
	if got, want := c.Join(c.Sum(x), c.Sum(y), len(y)), c.Sum(x, y); got != want {
		t.Errorf("a long text: got %08x, want %08x", got, want)
	}
}

func TestJoinAsWords(t *testing.T) {
	c := crc.New()
	for _, a := range someSums() {
		for _, b := range []uint32{0, 1, math.MaxUint32, a} {
			for n := range 40 {
				if got, want := c.Join(a, b, n), zeroBits(a, 8*n)^b; got != want {
					t.Errorf("Join(%08x, %08x, %d) = %08x, want %08x", a, b, n, got, want)
				}
			}
		}
	}
}

func TestJoinEdges(t *testing.T) {
	c := crc.New()
	for _, a := range someSums() {
		for _, b := range []uint32{0, 9, math.MaxUint32} {
			if got := c.Join(a, b, 0); got != a^b {
				t.Errorf("Join(%08x, %08x, 0) = %08x", a, b, got)
			}
			for _, n := range []int{-1, -2, -8, -1 << 32, math.MinInt} {
				if got := c.Join(a, b, n); got != 0 {
					t.Errorf("Join(%08x, %08x, %d) = %08x, want 0", a, b, n, got)
				}
			}
			if got := c.Join(0, b, math.MaxInt); got != b {
				t.Errorf("Join(0, %08x, greatest) = %08x", b, got)
			}
		}
	}
}

// The register comes to what it was behind 2^31 - 1 bits, so also behind as many bytes: by this the great n are known without going through them.
func TestJoinGreat(t *testing.T) {
	const round = 1<<31 - 1
	c := crc.New()
	for _, a := range someSums() {
		for n := range 9 {
			want := zeroBits(a, 8*n) ^ 5
			for _, times := range []int{1, 2, 1000, 1 << 31} {
				if got := c.Join(a, 5, n+times*round); got != want {
					t.Errorf("Join(%08x, 5, %d) = %08x, want %08x", a, n+times*round, got, want)
				}
			}
		}
		rest := math.MaxInt % round
		if got, want := c.Join(a, 0, math.MaxInt), zeroBits(a, 8*rest); got != want {
			t.Errorf("Join(%08x, 0, greatest) = %08x, want %08x", a, got, want)
		}
	}
	if got, want := c.Join(7, 0, 1<<20), zeroBits(7, 8<<20); got != want {
		t.Errorf("2^20 bytes: got %08x, want %08x", got, want)
	}
}

func TestUsed(t *testing.T) {
	c, other := crc.New(), crc.New()
	want := 0
	for i, call := range []func(){
		func() { c.Sum() },
		func() { c.Sum(nil) },
		func() { c.Sum([]byte("a"), []byte("b"), []byte("c")) },
		func() { c.Update(0, nil) },
		func() { c.Update(1, text(1000)) },
		func() { c.Join(1, 2, 3) },
		func() { c.Join(1, 2, 0) },
		func() { c.Join(1, 2, -1) },
	} {
		if got := c.Used(); got != want {
			t.Errorf("ahead of call %d: got %d, want %d", i, got, want)
		}
		call()
		want++
		if got := c.Used(); got != want {
			t.Errorf("behind call %d: got %d, want %d", i, got, want)
		}
	}
	if other.Used() != 0 {
		t.Errorf("a table counts another one's calls: %d", other.Used())
	}
}

func TestUsedFromManySides(t *testing.T) {
	c := crc.New()
	var all sync.WaitGroup
	for range 8 {
		all.Go(func() {
			for range 100 {
				if got := c.Sum([]byte("123456789")); got != 0xe3069283 {
					t.Errorf("got %08x", got)
				}
			}
		})
	}
	all.Wait()
	if c.Used() != 800 {
		t.Errorf("got %d", c.Used())
	}
}

func TestNoTable(t *testing.T) {
	var none *crc.Table
	var plainTable crc.Table
	for _, c := range []*crc.Table{none, &plainTable} {
		if got := c.Sum([]byte("1234"), []byte("56789")); got != 0xe3069283 {
			t.Errorf("Sum: got %08x", got)
		}
		if got := c.Update(c.Sum([]byte("1234")), []byte("56789")); got != 0xe3069283 {
			t.Errorf("Update: got %08x", got)
		}
		if got := c.Join(7, 9, 0); got != 7^9 {
			t.Errorf("Join: got %08x", got)
		}
	}
	if none.Used() != 0 || plainTable.Used() != 4 {
		t.Errorf("got %d, %d", none.Used(), plainTable.Used())
	}
}

func TestArgumentsStay(t *testing.T) {
	c := crc.New()
	x, y := []byte("1234"), []byte("56789")
	l := [][]byte{x, y}
	first := c.Sum(l...)
	c.Update(3, x)
	if string(x) != "1234" || string(y) != "56789" || &l[0][0] != &x[0] || &l[1][0] != &y[0] {
		t.Error("an argument was changed")
	}
	x[0], l[1] = 'x', nil
	if got := c.Sum([]byte("123456789")); got != first {
		t.Errorf("what was written behind a call is seen: %08x", got)
	}
}

// turn turns those of the 32 bits from the bit at on which a window has, as far as b goes; it tells whether there was one.
func turn(b []byte, at int, window uint32) bool {
	turned := false
	for i := range 32 {
		if p := at + i; window>>i&1 == 1 && p < 8*len(b) {
			b[p/8] ^= 1 << (p % 8)
			turned = true
		}
	}
	return turned
}

func TestTurnedBits(t *testing.T) {
	c := crc.New()
	windows := []uint32{math.MaxUint32, 0x80000001, 0x82f63b78, 0xedb88320, 0x05ec76f1, 0xaaaaaaaa, 0x55555555}
	for w := range uint32(512) {
		windows = append(windows, w+1, w<<23|1)
	}
	for _, n := range []int{1, 2, 3, 4, 5, 17, 64} {
		b := text(n)
		sum := c.Sum(b)
		for at := range 8 * n {
			for _, w := range windows {
				x := bytes.Clone(b)
				if turn(x, at, w) && c.Sum(x) == sum {
					t.Fatalf("%d bytes, from bit %d on %08x turned: the same sum", n, at, w)
				}
			}
		}
	}
}
