package wire_test

import (
	"bytes"
	"encoding/binary"
	"math"
	"math/bits"
	"slices"
	"testing"

	"quickset/api"
	"quickset/wire"
)

// someNumbers are numbers about each place where one byte more is needed, and others; they rise.
func someNumbers() []uint64 {
	l := []uint64{0, 1, 2, 3, 42, 300, 65535, 65536, 65537, 1e9, 1e18, math.MaxUint64 - 1, math.MaxUint64}
	for i := range 64 {
		n := uint64(1) << i
		l = append(l, n-1, n, n+1, n|n>>1, math.MaxUint64-n)
	}
	slices.Sort(l)
	return slices.Compact(l)
}

// someInts are those of someNumbers that go into an int.
func someInts() []int {
	var l []int
	for _, n := range someNumbers() {
		if n <= math.MaxInt {
			l = append(l, int(n))
		}
	}
	return l
}

// number is a number's bytes, by another hand than the program's.
func number(n uint64) []byte { return binary.AppendUvarint(nil, n) }

func numbers(l ...int) []byte {
	var b []byte
	for _, n := range l {
		b = append(b, number(uint64(n))...)
	}
	return b
}

func vector(x []byte) []byte { return slices.Concat(number(uint64(len(x))), x) }

func message(m api.Msg) []byte {
	return slices.Concat(numbers(m.Kind, m.From, m.To, m.Id, len(m.Args)), numbers(m.Args...), vector(m.Data))
}

func sameMsg(a, b api.Msg) bool {
	return a.Kind == b.Kind && a.From == b.From && a.To == b.To && a.Id == b.Id &&
		slices.Equal(a.Args, b.Args) && bytes.Equal(a.Data, b.Data)
}

func noMsg(m api.Msg) bool { return sameMsg(m, api.Msg{}) }

// text makes n bytes that look like no pattern, always the same ones.
func text(n int) []byte {
	b := make([]byte, n)
	s := uint32(n)*2654435761 + 12345
	for i := range b {
		s = s*1664525 + 1013904223
		b[i] = byte(s >> 24)
	}
	return b
}

// ints makes n numbers of all lengths.
func ints(n int) []int {
	all := someInts()
	l := make([]int, n)
	for i := range l {
		l[i] = all[i*7%len(all)]
	}
	return l
}

func someVectors() [][]byte {
	l := [][]byte{nil, {}, {0}, {255}, {128, 0}}
	for _, n := range []int{1, 2, 15, 16, 127, 128, 129, 16383, 16384, api.MaxData - 1, api.MaxData} {
		l = append(l, text(n))
	}
	return l
}

func someMsgs() []api.Msg {
	l := []api.Msg{
		{},
		{Kind: 3, From: 1, To: 2, Id: 300, Args: []int{5, 6}, Data: []byte("ab")},
		{Kind: 127, From: 128, To: 16383, Id: 16384, Args: []int{}, Data: []byte{}},
		{Kind: math.MaxInt, From: math.MaxInt, To: math.MaxInt, Id: math.MaxInt, Args: []int{math.MaxInt}, Data: []byte{0}},
		{Kind: 1, Args: make([]int, api.MaxArgs), Data: make([]byte, api.MaxData)},
		{Id: 9, Args: ints(api.MaxArgs), Data: text(api.MaxData)},
	}
	for _, n := range []int{1, 2, 63} {
		l = append(l, api.Msg{Kind: n, To: 100 * n, Args: ints(n), Data: text(n)})
	}
	return l
}

// tails are what may stand behind what was written.
func tails() [][]byte {
	return [][]byte{nil, {}, {0}, {1}, {127}, {128}, {128, 0}, {255}, bytes.Repeat([]byte{255}, 20), text(30)}
}

// badNumber is bytes that are no number that goes into 63 bits, and whether this holds of Take, too.
type badNumber struct {
	b    []byte
	take bool
}

func badNumbers() []badNumber {
	nine := bytes.Repeat([]byte{255}, 9)
	low := bytes.Repeat([]byte{128}, 9)
	l := []badNumber{
		{[]byte{128, 0}, true},
		{[]byte{129, 0}, true},
		{[]byte{255, 0}, true},
		{[]byte{255, 128, 0}, true},
		{append(slices.Clone(nine), 1), false},
		{append(slices.Clone(low), 1), false},
	}
	for n := range 9 {
		l = append(l, badNumber{append(slices.Clone(nine[:n+1]), 0), true}, badNumber{append(slices.Clone(low[:n+1]), 0), true})
	}
	for _, x := range []byte{2, 3, 127, 128, 129, 130, 254, 255} {
		l = append(l, badNumber{append(slices.Clone(nine), x), true}, badNumber{append(slices.Clone(low), x), true})
	}
	return l
}

func TestPut(t *testing.T) {
	for _, x := range []struct {
		n    uint64
		want []byte
	}{
		{0, []byte{0}},
		{1, []byte{1}},
		{127, []byte{127}},
		{128, []byte{128, 1}},
		{300, []byte{172, 2}},
		{16383, []byte{255, 127}},
		{16384, []byte{128, 128, 1}},
		{1<<63 - 1, []byte{255, 255, 255, 255, 255, 255, 255, 255, 127}},
		{1 << 63, []byte{128, 128, 128, 128, 128, 128, 128, 128, 128, 1}},
		{math.MaxUint64, []byte{255, 255, 255, 255, 255, 255, 255, 255, 255, 1}},
	} {
		if got := wire.Put(x.n); !bytes.Equal(got, x.want) {
			t.Errorf("Put(%d) = %v, want %v", x.n, got, x.want)
		}
	}
	for _, n := range someNumbers() {
		got := wire.Put(n)
		if !bytes.Equal(got, number(n)) {
			t.Errorf("Put(%d) = %v, want %v", n, got, number(n))
		}
		if want := max(1, (bits.Len64(n)+6)/7); len(got) != want {
			t.Errorf("Put(%d) has %d bytes, want %d", n, len(got), want)
		}
	}
}

func TestTake(t *testing.T) {
	for _, n := range someNumbers() {
		b := wire.Put(n)
		for _, tail := range tails() {
			got, k, e := wire.Take(slices.Concat(b, tail))
			if got != n || k != len(b) || e != api.OK {
				t.Errorf("%d, behind it %v: got %d, %d, %d", n, tail, got, k, e)
			}
		}
		for i := range b {
			if got, k, e := wire.Take(b[:i]); got != 0 || k != 0 || e != api.ErrShort {
				t.Errorf("%d, cut at %d: got %d, %d, %d", n, i, got, k, e)
			}
		}
	}
	for _, b := range [][]byte{nil, {}} {
		if got, k, e := wire.Take(b); got != 0 || k != 0 || e != api.ErrShort {
			t.Errorf("nothing: got %d, %d, %d", got, k, e)
		}
	}
}

func TestTakeBad(t *testing.T) {
	for _, x := range badNumbers() {
		for _, tail := range tails() {
			b := slices.Concat(x.b, tail)
			got, k, e := wire.Take(b)
			if x.take && (got != 0 || k != 0 || e != api.ErrForm) {
				t.Errorf("%v: got %d, %d, %d", b, got, k, e)
			}
			if !x.take && (got < 1<<63 || k != len(x.b) || e != api.OK) {
				t.Errorf("%v goes into 64 bits: got %d, %d, %d", b, got, k, e)
			}
		}
	}
}

// oneNumber tells what Take ought to: a number's beginning is at most nine bytes, all with 128 in them, and of what is no number's beginning and begins with no number nothing can be read.
func oneNumber(b []byte) (uint64, int, api.Errno) {
	for k := 1; k <= min(len(b), 10); k++ {
		if n, size := binary.Uvarint(b[:k]); size == k && bytes.Equal(number(n), b[:k]) {
			return n, k, api.OK
		}
	}
	if len(b) < 10 && !slices.ContainsFunc(b, func(x byte) bool { return x < 128 }) {
		return 0, 0, api.ErrShort
	}
	return 0, 0, api.ErrForm
}

func TestTakeAll(t *testing.T) {
	some := []byte{0, 1, 2, 127, 128, 129, 255}
	var look func(b []byte, deep int)
	look = func(b []byte, deep int) {
		n, k, e := wire.Take(b)
		if wantN, wantK, wantE := oneNumber(b); n != wantN || k != wantK || e != wantE {
			t.Errorf("%v: got %d, %d, %d, want %d, %d, %d", b, n, k, e, wantN, wantK, wantE)
		}
		if deep == 0 {
			return
		}
		for _, x := range some {
			look(append(slices.Clone(b), x), deep-1)
		}
	}
	for _, first := range []byte{128, 255} {
		for n := range 12 {
			look(bytes.Repeat([]byte{first}, n), 3)
		}
	}
	for x := range 1 << 16 {
		look([]byte{byte(x), byte(x >> 8)}, 0)
	}
}

func TestNums(t *testing.T) {
	all := someInts()
	for _, l := range [][]int{nil, {}, {0}, {1, 300, 0}, {math.MaxInt}, all, ints(1000)} {
		b, e := wire.Nums(l...)
		if !bytes.Equal(b, numbers(l...)) || e != api.OK {
			t.Errorf("%v: got %v, %d", l, b, e)
		}
		for _, tail := range tails() {
			got, k, e := wire.TakeNums(slices.Concat(b, tail), len(l))
			if !slices.Equal(got, l) || k != len(b) || e != api.OK {
				t.Errorf("%v, behind it %v: got %v, %d, %d", l, tail, got, k, e)
			}
		}
	}
	if b, _ := wire.Nums(1, 300, 0); !bytes.Equal(b, []byte{1, 172, 2, 0}) {
		t.Errorf("got %v", b)
	}
}

func TestNumsBelowZero(t *testing.T) {
	for _, bad := range []int{-1, -128, -1 << 32, math.MinInt} {
		for i := range 4 {
			l := []int{1, 300, 0, math.MaxInt}
			l[i] = bad
			if b, e := wire.Nums(l...); len(b) != 0 || e != api.ErrArg {
				t.Errorf("%v: got %v, %d", l, b, e)
			}
		}
		if b, e := wire.Nums(bad); len(b) != 0 || e != api.ErrArg {
			t.Errorf("%d: got %v, %d", bad, b, e)
		}
		if b, e := wire.Nums(bad, bad); len(b) != 0 || e != api.ErrArg {
			t.Errorf("%d twice: got %v, %d", bad, b, e)
		}
	}
}

func wantNoNums(t *testing.T, b []byte, many int, want api.Errno) {
	t.Helper()
	if l, k, e := wire.TakeNums(b, many); len(l) != 0 || k != 0 || e != want {
		t.Errorf("%d of %v: got %v, %d, %d, want error %d", many, b, l, k, e, want)
	}
}

func TestTakeNumsMany(t *testing.T) {
	for _, b := range [][]byte{nil, {}, {1}, {1, 2, 3}, {128, 0}, {128}} {
		for _, many := range []int{-1, -2, -1 << 32, math.MinInt} {
			wantNoNums(t, b, many, api.ErrArg)
		}
		wantNoNums(t, b, 0, api.OK)
	}
	wantNoNums(t, []byte{1, 2, 3}, 4, api.ErrShort)
	wantNoNums(t, []byte{1, 2, 3}, math.MaxInt, api.ErrShort)
	wantNoNums(t, nil, 1, api.ErrShort)
	wantNoNums(t, nil, math.MaxInt, api.ErrShort)
	wantNoNums(t, []byte{1, 2, 128, 0}, math.MaxInt, api.ErrForm)
	if l, k, e := wire.TakeNums([]byte{1, 2, 128, 0}, 2); !slices.Equal(l, []int{1, 2}) || k != 2 || e != api.OK {
		t.Errorf("got %v, %d, %d", l, k, e)
	}
}

func TestTakeNumsBad(t *testing.T) {
	for _, x := range badNumbers() {
		for _, tail := range tails() {
			wantNoNums(t, slices.Concat(x.b, tail), 1, api.ErrForm)
			wantNoNums(t, slices.Concat(x.b, tail), 2, api.ErrForm)
			wantNoNums(t, slices.Concat(numbers(1, 300), x.b, tail), 3, api.ErrForm)
			wantNoNums(t, slices.Concat(numbers(1, 300), x.b, tail), 4, api.ErrForm)
		}
		for i := range x.b {
			wantNoNums(t, x.b[:i], 1, api.ErrShort)
			wantNoNums(t, slices.Concat(numbers(1, 300), x.b[:i]), 3, api.ErrShort)
		}
	}
	whole := numbers(someInts()...)
	for i := range whole {
		wantNoNums(t, whole[:i], len(someInts()), api.ErrShort)
	}
}

func TestVec(t *testing.T) {
	for _, x := range someVectors() {
		b, e := wire.Vec(x)
		if !bytes.Equal(b, vector(x)) || e != api.OK {
			t.Errorf("%d bytes: got %d bytes, %d", len(x), len(b), e)
		}
		for _, tail := range tails() {
			got, k, e := wire.TakeVec(slices.Concat(b, tail))
			if !bytes.Equal(got, x) || k != len(b) || e != api.OK {
				t.Errorf("%d bytes, behind them %v: got %d bytes, %d, %d", len(x), tail, len(got), k, e)
			}
		}
		for i := 0; i < len(b); i += 1 + i/8 {
			wantNoVec(t, b[:i], api.ErrShort)
		}
		wantNoVec(t, b[:len(b)-1], api.ErrShort)
	}
	if b, _ := wire.Vec([]byte("ab")); !bytes.Equal(b, []byte{2, 'a', 'b'}) {
		t.Errorf("got %v", b)
	}
	for _, n := range []int{api.MaxData + 1, api.MaxData + 2, 1 << 20} {
		if b, e := wire.Vec(make([]byte, n)); len(b) != 0 || e != api.ErrLong {
			t.Errorf("%d bytes: got %d bytes, %d", n, len(b), e)
		}
	}
}

func wantNoVec(t *testing.T, b []byte, want api.Errno) {
	t.Helper()
	if x, k, e := wire.TakeVec(b); len(x) != 0 || k != 0 || e != want {
		t.Errorf("of %d bytes: got %d bytes, %d, %d, want error %d", len(b), len(x), k, e, want)
	}
}

func TestTakeVecBad(t *testing.T) {
	wantNoVec(t, nil, api.ErrShort)
	wantNoVec(t, number(api.MaxData), api.ErrShort)
	for _, x := range badNumbers() {
		for _, tail := range tails() {
			wantNoVec(t, slices.Concat(x.b, tail), api.ErrForm)
		}
		for i := range x.b {
			wantNoVec(t, x.b[:i], api.ErrShort)
		}
	}
	for _, n := range []int{api.MaxData + 1, api.MaxData + 2, 1 << 20, 1 << 32, math.MaxInt - 1, math.MaxInt} {
		b := numbers(n)
		wantNoVec(t, b, api.ErrLong)
		wantNoVec(t, slices.Concat(b, text(100)), api.ErrLong)
		for i := range b {
			wantNoVec(t, b[:i], api.ErrShort)
		}
	}
	wantNoVec(t, slices.Concat(numbers(api.MaxData+1), text(api.MaxData+1)), api.ErrLong)
}

func TestMsg(t *testing.T) {
	for i, m := range someMsgs() {
		b, e := wire.Msg(m)
		if !bytes.Equal(b, message(m)) || e != api.OK {
			t.Errorf("%d: got %d bytes, %d", i, len(b), e)
		}
		for _, tail := range tails() {
			got, k, e := wire.TakeMsg(slices.Concat(b, tail))
			if !sameMsg(got, m) || k != len(b) || e != api.OK {
				t.Errorf("%d, behind it %v: got %v, %d, %d", i, tail, got, k, e)
			}
		}
		for j := 0; j < len(b); j += 1 + j/64 {
			wantNoMsg(t, b[:j], api.ErrShort)
		}
		wantNoMsg(t, b[:len(b)-1], api.ErrShort)
	}
	m := api.Msg{Kind: 3, From: 1, To: 2, Id: 300, Args: []int{5, 6}, Data: []byte("ab")}
	if b, _ := wire.Msg(m); !bytes.Equal(b, []byte{3, 1, 2, 172, 2, 2, 5, 6, 2, 'a', 'b'}) {
		t.Errorf("got %v", b)
	}
}

func wantNoMsg(t *testing.T, b []byte, want api.Errno) {
	t.Helper()
	if m, k, e := wire.TakeMsg(b); !noMsg(m) || k != 0 || e != want {
		t.Errorf("of %d bytes: got %v, %d, %d, want error %d", len(b), m, k, e, want)
	}
}

func TestMsgBad(t *testing.T) {
	long := make([]byte, api.MaxData+1)
	many := make([]int, api.MaxArgs+1)
	manyOneBelow := make([]int, api.MaxArgs+1)
	manyOneBelow[api.MaxArgs] = -1
	for i, x := range []struct {
		m api.Msg
		e api.Errno
	}{
		{api.Msg{Kind: -1}, api.ErrArg},
		{api.Msg{From: -1}, api.ErrArg},
		{api.Msg{To: -1}, api.ErrArg},
		{api.Msg{Id: -1}, api.ErrArg},
		{api.Msg{Id: math.MinInt}, api.ErrArg},
		{api.Msg{Args: []int{-1}}, api.ErrArg},
		{api.Msg{Args: []int{1, 2, math.MinInt}}, api.ErrArg},
		{api.Msg{Args: many}, api.ErrLong},
		{api.Msg{Args: make([]int, 1000)}, api.ErrLong},
		{api.Msg{Data: long}, api.ErrLong},
		{api.Msg{Args: many, Data: long}, api.ErrLong},
		{api.Msg{Args: make([]int, api.MaxArgs), Data: long}, api.ErrLong},
		{api.Msg{Args: manyOneBelow}, api.ErrArg},
		{api.Msg{Kind: -1, Args: many}, api.ErrArg},
		{api.Msg{From: -1, Data: long}, api.ErrArg},
		{api.Msg{To: -1, Args: many, Data: long}, api.ErrArg},
		{api.Msg{Id: -1, Args: many, Data: long}, api.ErrArg},
		{api.Msg{Args: []int{0, -7}, Data: long}, api.ErrArg},
		{api.Msg{Args: manyOneBelow, Data: long}, api.ErrArg},
	} {
		if b, e := wire.Msg(x.m); len(b) != 0 || e != x.e {
			t.Errorf("%d: got %d bytes, %d, want error %d", i, len(b), e, x.e)
		}
	}
}

// pieces are a message's numbers and Data, piece by piece: those at 4 and 7 tell how many stand behind them.
func pieces() [][]byte {
	return [][]byte{{3}, {1}, {2}, {172, 2}, {2}, {5}, {134, 1}, {2}, {'a', 'b'}}
}

func with(at int, b []byte) []byte {
	l := pieces()
	l[at] = b
	return slices.Concat(l...)
}

func TestTakeMsgBadNumber(t *testing.T) {
	for at := range 8 {
		ahead := slices.Concat(pieces()[:at]...)
		for _, x := range badNumbers() {
			wantNoMsg(t, with(at, x.b), api.ErrForm)
			for _, tail := range tails() {
				wantNoMsg(t, slices.Concat(ahead, x.b, tail), api.ErrForm)
			}
			for i := range x.b {
				wantNoMsg(t, slices.Concat(ahead, x.b[:i]), api.ErrShort)
			}
		}
	}
}

func TestTakeMsgTooGreat(t *testing.T) {
	for at, least := range map[int]int{4: api.MaxArgs + 1, 7: api.MaxData + 1} {
		ahead := slices.Concat(pieces()[:at]...)
		for _, n := range []int{least, least + 1, 1 << 20, 1 << 32, math.MaxInt} {
			wantNoMsg(t, with(at, numbers(n)), api.ErrLong)
			for _, tail := range tails() {
				wantNoMsg(t, slices.Concat(ahead, numbers(n), tail), api.ErrLong)
			}
		}
		wantNoMsg(t, slices.Concat(ahead, numbers(least-1)), api.ErrShort)
	}
	all := slices.Concat([]byte{0, 0, 0, 0}, numbers(api.MaxArgs+1), make([]byte, api.MaxArgs+2))
	wantNoMsg(t, all, api.ErrLong)
}

// Of two things that are wrong the one that stands ahead is told.
func TestTakeMsgFirstWrong(t *testing.T) {
	bad, tooMany, tooLong := []byte{128, 0}, numbers(api.MaxArgs+1), numbers(api.MaxData+1)
	for i, x := range []struct {
		b []byte
		e api.Errno
	}{
		{slices.Concat([]byte{0, 0, 0}, bad, tooMany), api.ErrForm},
		{slices.Concat([]byte{0, 0, 0, 0}, tooMany, bad), api.ErrLong},
		{slices.Concat([]byte{0, 0, 0, 0, 1}, bad, tooLong), api.ErrForm},
		{slices.Concat([]byte{0, 0, 0, 0, 2, 1}, bad), api.ErrForm},
		{slices.Concat([]byte{0, 0, 0, 0, 0}, tooLong, bad), api.ErrLong},
		{slices.Concat([]byte{0, 0, 0, 0}, numbers(api.MaxArgs), make([]byte, api.MaxArgs), tooLong), api.ErrLong},
		{slices.Concat([]byte{0, 0, 0, 0}, numbers(api.MaxArgs), make([]byte, api.MaxArgs-1), bad), api.ErrForm},
		{slices.Concat([]byte{0, 0, 0, 0}, numbers(api.MaxArgs), make([]byte, api.MaxArgs-1)), api.ErrShort},
		{[]byte{0, 0, 0, 0, 255, 255, 255}, api.ErrShort}, // a number is too great when it ends, not ahead of that
	} {
		if m, k, e := wire.TakeMsg(x.b); !noMsg(m) || k != 0 || e != x.e {
			t.Errorf("%d: got %v, %d, %d, want error %d", i, m, k, e, x.e)
		}
	}
}

// What is read, of whatever bytes, is written as these very bytes.
func TestReadIsWritten(t *testing.T) {
	read := 0
	for n := range 20000 {
		b := text(n)[:n%24]
		for i := range b {
			if n%3 > 0 {
				b[i] %= 8
			}
		}
		if m, k, e := wire.TakeMsg(b); e == api.OK {
			read++
			if again, e := wire.Msg(m); !bytes.Equal(again, b[:k]) || e != api.OK {
				t.Errorf("%v: the message is written as %v, %d", b, again, e)
			}
		}
		if x, k, e := wire.TakeVec(b); e == api.OK {
			read++
			if again, e := wire.Vec(x); !bytes.Equal(again, b[:k]) || e != api.OK {
				t.Errorf("%v: the vector is written as %v, %d", b, again, e)
			}
		}
		if l, k, e := wire.TakeNums(b, n%5); e == api.OK {
			read++
			if again, e := wire.Nums(l...); !bytes.Equal(again, b[:k]) || e != api.OK {
				t.Errorf("%v: the numbers are written as %v, %d", b, again, e)
			}
		}
	}
	if read < 1000 {
		t.Errorf("only %d were read", read)
	}
}

func TestFixed(t *testing.T) {
	for _, n := range []uint32{0, 1, 255, 256, 0x01020304, 0x80000000, 0xe3069283, math.MaxUint32} {
		want := binary.LittleEndian.AppendUint32(nil, n)
		b := wire.Fixed(n)
		if !bytes.Equal(b, want) {
			t.Errorf("Fixed(%#x) = %v, want %v", n, b, want)
		}
		for _, tail := range tails() {
			if got, e := wire.TakeFixed(slices.Concat(b, tail)); got != n || e != api.OK {
				t.Errorf("%#x, behind it %v: got %#x, %d", n, tail, got, e)
			}
		}
		for i := range b {
			if got, e := wire.TakeFixed(b[:i]); got != 0 || e != api.ErrShort {
				t.Errorf("%#x, cut at %d: got %#x, %d", n, i, got, e)
			}
		}
	}
	if got, e := wire.TakeFixed(nil); got != 0 || e != api.ErrShort {
		t.Errorf("nothing: got %#x, %d", got, e)
	}
	if b := wire.Fixed(0x01020304); !bytes.Equal(b, []byte{4, 3, 2, 1}) {
		t.Errorf("got %v", b)
	}
}

func fill(b []byte) {
	for i := range b {
		b[i] = 99
	}
}

// What was handed in is neither changed nor kept.
func TestArgumentsStay(t *testing.T) {
	m := api.Msg{Kind: 1, Args: []int{7, 8}, Data: []byte("abc")}
	want := message(m)
	b, _ := wire.Msg(m)
	if !slices.Equal(m.Args, []int{7, 8}) || string(m.Data) != "abc" {
		t.Error("a message that was handed in was changed")
	}
	m.Args[0] = 9
	fill(m.Data)
	if !bytes.Equal(b, want) {
		t.Error("a message's bytes follow what is written into the message")
	}
	x := []byte("abc")
	v, _ := wire.Vec(x)
	fill(x)
	if !bytes.Equal(v, []byte("\x03abc")) {
		t.Error("a vector's bytes follow what is written into it")
	}

	in := slices.Clone(want)
	got, _, _ := wire.TakeMsg(in)
	if !bytes.Equal(in, want) {
		t.Error("bytes that were handed in were changed")
	}
	fill(in)
	if !slices.Equal(got.Args, []int{7, 8}) || string(got.Data) != "abc" {
		t.Error("a message follows what is written into its bytes")
	}
	took, _, _ := wire.TakeVec(v)
	fill(v)
	if string(took) != "abc" {
		t.Error("a vector follows what is written into its bytes")
	}
}

// What is answered is the caller's own: to write into it, and behind it, changes nothing else.
func TestAnswersAreOwn(t *testing.T) {
	want := message(api.Msg{Kind: 1, Args: []int{7, 8}, Data: []byte("abc")})
	in := slices.Concat(want, []byte("tail"))
	one, _, _ := wire.TakeMsg(in)
	two, _, _ := wire.TakeMsg(in)
	fill(one.Data)
	one.Args[0] = 9
	_ = append(one.Data, "more"...)
	_ = append(one.Args, 1, 2, 3)
	if !slices.Equal(two.Args, []int{7, 8}) || string(two.Data) != "abc" || !bytes.Equal(in, slices.Concat(want, []byte("tail"))) {
		t.Error("two messages, or their bytes, are one memory")
	}
	for i, call := range []func() []byte{
		func() []byte { return wire.Put(300) },
		func() []byte { return wire.Fixed(300) },
		func() []byte { b, _ := wire.Nums(1, 300); return b },
		func() []byte { b, _ := wire.Vec([]byte("ab")); return b },
		func() []byte { b, _ := wire.Vec(nil); return b },
		func() []byte { b, _ := wire.Msg(api.Msg{}); return b },
	} {
		first := call()
		want := slices.Clone(first)
		fill(first[:cap(first)])
		if !bytes.Equal(call(), want) {
			t.Errorf("%d: two answers are one memory", i)
		}
	}
}
