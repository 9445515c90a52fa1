// Package crc reckons CRC-32C, goes on from one, and puts two together (layer 1: see shared/doc/01-crc.md).
package crc

import (
	"sync"
	"sync/atomic"
)

const (
	byteBits = 8
	sumBits  = 32

	// polynomial is Castagnoli's, its highest power in the lowest bit, as all polynomials here.
	polynomial = 0x82f63b78
	unity      = uint32(1) << (sumBits - 1)
	oneByte    = unity >> byteBits
)

// Table is what sums are reckoned with.
type Table struct {
	once sync.Once
	used atomic.Int64
	rest [256]uint32
}

// New makes one.
func New() *Table { return &Table{} }

// Sum is the sum of all pieces of l, one behind the other.
func (t *Table) Sum(l ...[]byte) uint32 {
	t = t.asked()
	var c uint32
	for _, b := range l {
		c = t.follow(c, b)
	}
	return c
}

// Update goes on with b from the sum c.
func (t *Table) Update(c uint32, b []byte) uint32 {
	return t.asked().follow(c, b)
}

// Join puts the sum a of a text and the sum b of n bytes behind it together.
func (t *Table) Join(a, b uint32, n int) uint32 {
	t.asked()
	if n < 0 {
		return 0
	}
	return pass(a, n) ^ b
}

// Used tells how often Sum, Update or Join was called.
func (t *Table) Used() int {
	if t == nil {
		return 0
	}
	return int(t.used.Load())
}

// asked stands at the beginning of every call that is counted. Where there is no table, one for this call alone does.
func (t *Table) asked() *Table {
	if t == nil {
		t = New()
	}
	t.used.Add(1)
	t.once.Do(t.fill)
	return t
}

func (t *Table) fill() {
	for i := range len(t.rest) {
		c := uint32(i)
		for range byteBits {
			c = shift(c)
		}
		t.rest[i] = c
	}
}

func (t *Table) follow(c uint32, b []byte) uint32 {
	c = ^c
	for _, x := range b {
		c = c>>byteBits ^ t.rest[byte(c)^x]
	}
	return ^c
}

// shift lets the register go one bit to the right.
func shift(c uint32) uint32 {
	if c&1 == 1 {
		return c>>1 ^ polynomial
	}
	return c >> 1
}

// pass lets n zero bytes go by. One bit to the right is a product with x, so n bytes are one with x to the power 8n: it is found by squares, for n may be too great to be counted down.
func pass(c uint32, n int) uint32 {
	for power := oneByte; n > 0; n >>= 1 {
		if n&1 == 1 {
			c = product(c, power)
		}
		power = product(power, power)
	}
	return c
}

func product(a, b uint32) uint32 {
	var c uint32
	for i := range sumBits {
		if a&(unity>>i) != 0 {
			c ^= b
		}
		b = shift(b)
	}
	return c
}
