package net_test

import (
	"bytes"
	"encoding/binary"
	"math"
	"slices"
	"testing"

	"quickset/api"
	"quickset/net"
)

const most = 4096 // the greatest Cap that may be

// letter is a message, told by its Id from all others, with numbers and bytes of its own.
func letter(id, from, to int) api.Msg {
	return api.Msg{Kind: 1 + id%2, From: from, To: to, Id: id, Args: []int{id, 7 * id}, Data: []byte{byte(id), 42}}
}

// letters are those of these ids, each from the node id%3 to the node id%4.
func letters(ids ...int) []api.Msg {
	var l []api.Msg
	for _, id := range ids {
		l = append(l, letter(id, id%3, id%4))
	}
	return l
}

// netOf is a net that was not made by the program.
func netOf(most int, ids ...int) api.Net { return api.Net{Cap: most, Q: letters(ids...)} }

// badLetters are messages that can't be written, each by one thing alone.
func badLetters() []api.Msg {
	var l []api.Msg
	for _, spoil := range []func(m *api.Msg, n int){
		func(m *api.Msg, n int) { m.Kind = n },
		func(m *api.Msg, n int) { m.From = n },
		func(m *api.Msg, n int) { m.To = n },
		func(m *api.Msg, n int) { m.Id = n },
		func(m *api.Msg, n int) { m.Args[0] = n },
		func(m *api.Msg, n int) { m.Args[1] = n },
	} {
		for _, n := range []int{-1, math.MinInt} {
			m := letter(5, 1, 2)
			spoil(&m, n)
			l = append(l, m)
		}
	}
	long, great := letter(5, 1, 2), letter(5, 1, 2)
	long.Args = make([]int, api.MaxArgs+1)
	great.Data = make([]byte, api.MaxData+1)
	return append(l, long, great)
}

// edgeLetters are messages that can just be written.
func edgeLetters() []api.Msg {
	return []api.Msg{
		{},
		{Args: []int{}, Data: []byte{}},
		{Kind: math.MaxInt, From: math.MaxInt, To: math.MaxInt, Id: math.MaxInt, Args: []int{math.MaxInt}, Data: []byte{255}},
		{Args: make([]int, api.MaxArgs), Data: make([]byte, api.MaxData)},
	}
}

func sameMsg(a, b api.Msg) bool {
	return a.Kind == b.Kind && a.From == b.From && a.To == b.To && a.Id == b.Id &&
		slices.Equal(a.Args, b.Args) && bytes.Equal(a.Data, b.Data)
}

func sameNet(a, b api.Net) bool { return a.Cap == b.Cap && slices.EqualFunc(a.Q, b.Q, sameMsg) }

// textOf is messages' bytes, by another hand than the program's.
func textOf(l ...api.Msg) []byte {
	var b []byte
	for _, m := range l {
		for _, n := range slices.Concat([]int{m.Kind, m.From, m.To, m.Id, len(m.Args)}, m.Args, []int{len(m.Data)}) {
			b = binary.AppendUvarint(b, uint64(n))
		}
		b = append(b, m.Data...)
	}
	return b
}

func wantNet(t *testing.T, what any, got, want api.Net) {
	t.Helper()
	if !sameNet(got, want) {
		t.Errorf("%v: got %v, want %v", what, got, want)
	}
}

func wantOK(t *testing.T, what any, got api.Net, e api.Errno, want api.Net) {
	t.Helper()
	wantNet(t, what, got, want)
	if e != api.OK {
		t.Errorf("%v: got %d", what, e)
	}
}

// wantError wants an error, and no net.
func wantError(t *testing.T, what any, got api.Net, e, want api.Errno) {
	t.Helper()
	if got.Cap != 0 || len(got.Q) != 0 || e != want {
		t.Errorf("%v: got %v, %d, want %d", what, got, e, want)
	}
}

func wantPlaces(t *testing.T, what any, got []int, want ...int) {
	t.Helper()
	if !slices.Equal(got, want) {
		t.Errorf("%v: got %v, want %v", what, got, want)
	}
}

func wantSent(t *testing.T, n api.Net, l []api.Msg, want api.Net, many int) {
	t.Helper()
	got, k := net.Send(n, l...)
	wantNet(t, "Send", got, want)
	if k != many {
		t.Errorf("Send of %d messages to %d of %d: got %d, want %d", len(l), len(n.Q), n.Cap, k, many)
	}
}

// P13.1

func TestNew(t *testing.T) {
	for _, cap := range []int{1, 2, 32, most - 1, most} {
		n, e := net.New(cap)
		wantOK(t, cap, n, e, api.Net{Cap: cap})
	}
	for _, cap := range []int{math.MinInt, -4096, -2, -1, 0, most + 1, most + 2, 1 << 20, math.MaxInt} {
		n, e := net.New(cap)
		wantError(t, cap, n, e, api.ErrArg)
	}
}

func TestSend(t *testing.T) {
	for _, c := range []struct {
		n    api.Net
		ids  []int
		want api.Net
		many int
	}{
		{netOf(4), nil, netOf(4), 0},
		{netOf(4), []int{1}, netOf(4, 1), 1},
		{netOf(4), []int{3, 1, 2}, netOf(4, 3, 1, 2), 3},
		{netOf(4, 9, 8), nil, netOf(4, 9, 8), 0},
		{netOf(4, 9), []int{3, 1}, netOf(4, 9, 3, 1), 2}, // behind what is there
		{netOf(4, 9), []int{3, 1, 2}, netOf(4, 9, 3, 1, 2), 3},
		{netOf(4, 9), []int{3, 1, 2, 4}, netOf(4, 9, 3, 1, 2), 3}, // there is room for three
		{netOf(4, 9), []int{3, 1, 2, 4, 5, 6}, netOf(4, 9, 3, 1, 2), 3},
		{netOf(1), []int{1, 2}, netOf(1, 1), 1},
		{netOf(1, 1), []int{1}, netOf(1, 1), 0},
		{netOf(4, 1), []int{1, 1}, netOf(4, 1, 1, 1), 2},    // the same one again
		{netOf(2, 1, 2, 3), []int{4}, netOf(2, 1, 2, 3), 0}, // a net that has too many keeps them
		{netOf(0), []int{1}, netOf(0), 0},
		{netOf(0, 1), []int{2}, netOf(0, 1), 0},
		{netOf(-1), []int{1}, netOf(-1), 0},
		{netOf(math.MinInt, 1), []int{2}, netOf(math.MinInt, 1), 0},
		{netOf(math.MaxInt, 1), []int{2}, netOf(math.MaxInt, 1, 2), 1},
	} {
		wantSent(t, c.n, letters(c.ids...), c.want, c.many)
	}
	n, k := net.Send(netOf(3, 1))
	wantNet(t, "none", n, netOf(3, 1))
	if k != 0 {
		t.Errorf("none: got %d", k)
	}
}

// The chapter's example.
func TestSendTwoToANetOfOne(t *testing.T) {
	n, _ := net.New(1)
	wantSent(t, n, letters(1, 2), netOf(1, 1), 1)
}

func TestSendOfWhatCannotBeWritten(t *testing.T) {
	a, b, c := letter(1, 0, 1), letter(2, 1, 2), letter(3, 2, 0)
	for _, bad := range badLetters() {
		wantSent(t, netOf(4), []api.Msg{bad}, netOf(4), 0)
		wantSent(t, netOf(4, 9), []api.Msg{bad, bad}, netOf(4, 9), 0)
		// It takes no room, and those behind it are sent.
		wantSent(t, netOf(4, 9), []api.Msg{bad, a, bad, b, bad, bad, c, bad}, api.Net{Cap: 4, Q: append(letters(9), a, b, c)}, 3)
		wantSent(t, netOf(3, 9), []api.Msg{bad, a, bad, b, bad, bad, c, bad}, api.Net{Cap: 3, Q: append(letters(9), a, b)}, 2)
		// What is there already stays, also if it can't be written.
		wantSent(t, api.Net{Cap: 4, Q: []api.Msg{bad}}, []api.Msg{a, bad}, api.Net{Cap: 4, Q: []api.Msg{bad, a}}, 1)
	}
	l := edgeLetters()
	wantSent(t, netOf(len(l)), l, api.Net{Cap: len(l), Q: l}, len(l))
}

func TestTo(t *testing.T) {
	n := api.Net{Cap: 9, Q: []api.Msg{letter(1, 0, 1), letter(2, 1, 2), letter(3, 2, 1), letter(4, 1, 1), letter(5, 1, 0), letter(6, 1, 100)}}
	wantPlaces(t, 0, net.To(n, 0), 4)
	wantPlaces(t, 1, net.To(n, 1), 0, 2, 3)
	wantPlaces(t, 2, net.To(n, 2), 1)
	wantPlaces(t, 100, net.To(n, 100), 5)
	for _, node := range []int{3, 4, 99, 101, -1, math.MinInt, math.MaxInt} { // neither kinds, ids nor places are nodes
		wantPlaces(t, node, net.To(n, node))
	}
	wantPlaces(t, "none", net.To(netOf(3), 0))
	wantPlaces(t, "no net", net.To(api.Net{}, 0))
	odd := api.Net{Q: []api.Msg{{To: -1}, {To: math.MaxInt}, {From: -1, To: 3}, {To: -1}}}
	wantPlaces(t, "odd", net.To(odd, -1), 0, 3)
	wantPlaces(t, "odd", net.To(odd, math.MaxInt), 1)
}

func TestCut(t *testing.T) {
	n := api.Net{Cap: 9, Q: []api.Msg{letter(1, 0, 1), letter(2, 1, 2), letter(3, 2, 1), letter(4, 1, 1), letter(5, 2, 0), letter(6, 2, 100), letter(1, 0, 1)}}
	for _, c := range []struct {
		node int
		kept []int // places
	}{
		{0, []int{1, 2, 3, 5}},
		{1, []int{4, 5}}, // from it, to it, and from it to it
		{2, []int{0, 3, 6}},
		{100, []int{0, 1, 2, 3, 4, 6}},
		{3, []int{0, 1, 2, 3, 4, 5, 6}},
		{6, []int{0, 1, 2, 3, 4, 5, 6}},
		{-1, []int{0, 1, 2, 3, 4, 5, 6}},
		{math.MinInt, []int{0, 1, 2, 3, 4, 5, 6}},
		{math.MaxInt, []int{0, 1, 2, 3, 4, 5, 6}},
	} {
		want := api.Net{Cap: 9}
		for _, i := range c.kept {
			want.Q = append(want.Q, n.Q[i])
		}
		got, k := net.Cut(n, c.node)
		wantNet(t, c.node, got, want)
		if k != len(n.Q)-len(c.kept) {
			t.Errorf("Cut of %d: got %d", c.node, k)
		}
	}
	got, k := net.Cut(api.Net{Cap: 2, Q: []api.Msg{letter(1, 7, 3), letter(2, 3, 7), letter(3, 7, 7)}}, 7)
	wantNet(t, "all", got, api.Net{Cap: 2})
	if k != 3 {
		t.Errorf("all: got %d", k)
	}
	got, k = net.Cut(netOf(5), 0)
	wantNet(t, "none", got, netOf(5))
	if k != 0 {
		t.Errorf("none: got %d", k)
	}
}

// P13.2

func TestTakeAndDrop(t *testing.T) {
	for _, c := range []struct {
		n    api.Net
		i    int
		want api.Net
	}{
		{netOf(4, 5), 0, netOf(4)},
		{netOf(4, 5, 6, 7, 8), 0, netOf(4, 6, 7, 8)},
		{netOf(4, 5, 6, 7, 8), 1, netOf(4, 5, 7, 8)},
		{netOf(4, 5, 6, 7, 8), 2, netOf(4, 5, 6, 8)},
		{netOf(4, 5, 6, 7, 8), 3, netOf(4, 5, 6, 7)},
		{netOf(4, 5, 5, 6, 5), 1, netOf(4, 5, 6, 5)}, // one of several that are the same
		{netOf(1, 5, 6, 7), 2, netOf(1, 5, 6)},
		{netOf(0, 5, 6), 0, netOf(0, 6)},
	} {
		n, m, e := net.Take(c.n, c.i)
		wantOK(t, c, n, e, c.want)
		if !sameMsg(m, c.n.Q[c.i]) {
			t.Errorf("Take of %d: got %v", c.i, m)
		}
		n, e = net.Drop(c.n, c.i)
		wantOK(t, c, n, e, c.want)
	}
}

func TestDouble(t *testing.T) {
	for _, c := range []struct {
		n    api.Net
		i    int
		want api.Net
	}{
		{netOf(2, 5), 0, netOf(2, 5, 5)},
		{netOf(4, 5, 6, 7), 0, netOf(4, 5, 6, 7, 5)},
		{netOf(4, 5, 6, 7), 1, netOf(4, 5, 6, 7, 6)},
		{netOf(4, 5, 6, 7), 2, netOf(4, 5, 6, 7, 7)},
		{netOf(9, 5, 5), 1, netOf(9, 5, 5, 5)},
		{netOf(math.MaxInt, 5, 6), 0, netOf(math.MaxInt, 5, 6, 5)},
	} {
		n, e := net.Double(c.n, c.i)
		wantOK(t, c, n, e, c.want)
	}
	for _, full := range []api.Net{netOf(3, 5, 6, 7), netOf(2, 5, 6, 7), netOf(0, 5, 6, 7), netOf(-1, 5, 6, 7)} { // also of more than may be
		for i := range 3 {
			n, e := net.Double(full, i)
			wantError(t, full, n, e, api.ErrLong)
		}
	}
}

func TestLater(t *testing.T) {
	for _, c := range []struct {
		n    api.Net
		i    int
		want api.Net
	}{
		{netOf(1, 5), 0, netOf(1, 5)},
		{netOf(3, 5, 6, 7), 0, netOf(3, 6, 7, 5)}, // it needs no room
		{netOf(4, 5, 6, 7), 1, netOf(4, 5, 7, 6)},
		{netOf(9, 5, 6, 7), 2, netOf(9, 5, 6, 7)},
		{netOf(2, 5, 6, 7), 0, netOf(2, 6, 7, 5)},
		{netOf(0, 5, 6), 0, netOf(0, 6, 5)},
	} {
		n, e := net.Later(c.n, c.i)
		wantOK(t, c, n, e, c.want)
	}
}

func TestNoSuchPlace(t *testing.T) {
	for _, n := range []api.Net{{}, netOf(3), netOf(3, 5), netOf(9, 5, 6), netOf(2, 5, 6), netOf(1, 5, 6), netOf(0, 5)} {
		k := len(n.Q)
		for _, i := range []int{math.MinInt, -k - 1, -k, -2, -1, k, k + 1, n.Cap + k, most, math.MaxInt} {
			if 0 <= i && i < k {
				continue
			}
			got, m, e := net.Take(n, i)
			wantError(t, i, got, e, api.ErrNone)
			if !sameMsg(m, api.Msg{}) {
				t.Errorf("Take of %d: got %v", i, m)
			}
			for _, f := range []func(api.Net, int) (api.Net, api.Errno){net.Drop, net.Double, net.Later} { // also of Double where there is no room
				got, e = f(n, i)
				wantError(t, i, got, e, api.ErrNone)
			}
		}
	}
}

// What can't be written goes its way, if it is there.
func TestWaysOfWhatCannotBeWritten(t *testing.T) {
	a := letter(1, 0, 1)
	for _, bad := range badLetters() {
		n := api.Net{Cap: 3, Q: []api.Msg{bad, a}}
		got, m, e := net.Take(n, 0)
		wantOK(t, "Take", got, e, api.Net{Cap: 3, Q: []api.Msg{a}})
		if !sameMsg(m, bad) {
			t.Errorf("Take: got %v", m)
		}
		got, e = net.Double(n, 0)
		wantOK(t, "Double", got, e, api.Net{Cap: 3, Q: []api.Msg{bad, a, bad}})
		got, e = net.Later(n, 0)
		wantOK(t, "Later", got, e, api.Net{Cap: 3, Q: []api.Msg{a, bad}})
		wantPlaces(t, "To", net.To(n, bad.To), 0)
		got, k := net.Cut(api.Net{Cap: 3, Q: []api.Msg{bad, a, bad}}, bad.From)
		want := api.Net{Cap: 3}
		if bad.From != a.To {
			want.Q = []api.Msg{a}
		}
		wantNet(t, "Cut", got, want)
		if k != 3-len(want.Q) {
			t.Errorf("Cut: got %d", k)
		}
	}
}

// P13.3

func TestWrite(t *testing.T) {
	for _, n := range []api.Net{{}, netOf(4), netOf(4, 1), netOf(4, 3, 1, 2, 1), netOf(2, 1, 2, 3), netOf(0, 300), {Cap: 9, Q: edgeLetters()}} {
		b, e := net.Write(n)
		if want := textOf(n.Q...); !bytes.Equal(b, want) || e != api.OK {
			t.Errorf("%v: got %v, %d, want %v", n, b, e, want)
		}
	}
	b, _ := net.Write(api.Net{Cap: 2, Q: []api.Msg{{Kind: 3, From: 1, To: 2, Id: 4, Args: []int{300}, Data: []byte("x")}, {}}})
	if want := []byte{3, 1, 2, 4, 1, 172, 2, 1, 'x', 0, 0, 0, 0, 0, 0}; !bytes.Equal(b, want) {
		t.Errorf("got %v, want %v", b, want)
	}
	a := letter(1, 0, 1)
	for _, bad := range badLetters() {
		for _, l := range [][]api.Msg{{bad}, {bad, a}, {a, bad}, {a, bad, a}} {
			if b, e := net.Write(api.Net{Cap: 4, Q: l}); len(b) != 0 || e != api.ErrArg {
				t.Errorf("%v: got %v, %d", l, b, e)
			}
		}
	}
}

func TestRead(t *testing.T) {
	for _, l := range [][]api.Msg{nil, letters(1), letters(1, 2), letters(3, 1, 2, 1, 300), edgeLetters()} {
		b := textOf(l...)
		for _, cap := range []int{len(l), len(l) + 1, 32, most} {
			if cap == 0 {
				continue
			}
			n, e := net.Read(b, cap)
			wantOK(t, cap, n, e, api.Net{Cap: cap, Q: l})
			if again, e := net.Write(n); !bytes.Equal(again, b) || e != api.OK {
				t.Errorf("%v: written again as %v, %d", b, again, e)
			}
		}
		for cap := 1; cap < len(l); cap++ {
			n, e := net.Read(b, cap)
			wantError(t, cap, n, e, api.ErrLong)
		}
		for _, cap := range []int{math.MinInt, -1, 0, most + 1, math.MaxInt} {
			n, e := net.Read(b, cap)
			wantError(t, cap, n, e, api.ErrArg)
		}
	}
	n, e := net.Read([]byte{}, 1)
	wantOK(t, "no bytes", n, e, api.Net{Cap: 1})
}

// badTexts are bytes that are no message's.
func badTexts() [][]byte {
	number := func(n uint64) []byte { return binary.AppendUvarint(nil, n) }
	return [][]byte{
		{1},
		{0, 0, 0, 0, 0},
		{0, 0, 0, 0, 1, 0},
		{0, 0, 0, 0, 0, 1},
		{0, 0, 0, 0, 0, 3, 'a', 'b'},
		{128, 0, 0, 0, 0, 0, 0},
		{0, 0, 0, 0, 0, 128, 0},
		{0, 0, 0, 0, 1, 129, 0, 0},
		bytes.Repeat([]byte{255}, 30),
		slices.Concat(number(math.MaxInt+1), make([]byte, 5)),
		slices.Concat(make([]byte, 3), number(math.MaxUint64), make([]byte, 2)),
		slices.Concat(make([]byte, 4), number(api.MaxArgs+1), make([]byte, 70)), // wire tells another error of these two
		slices.Concat(make([]byte, 5), number(api.MaxData+1), make([]byte, api.MaxData+1)),
	}
}

func TestReadOfWhatIsNoNet(t *testing.T) {
	whole := textOf(letters(1, 2, 3)...)
	ends := []int{0, len(textOf(letters(1)...)), len(textOf(letters(1, 2)...))}
	for i := range whole {
		n, e := net.Read(whole[:i], 3)
		if k := slices.Index(ends, i); k >= 0 {
			wantOK(t, i, n, e, api.Net{Cap: 3, Q: letters(1, 2, 3)[:k]})
		} else {
			wantError(t, i, n, e, api.ErrForm)
		}
	}
	for _, bad := range badTexts() {
		for _, cap := range []int{1, 2, 3, 4, most} {
			for _, b := range [][]byte{bad, slices.Concat(whole, bad)} { // also behind more messages than may be
				n, e := net.Read(b, cap)
				wantError(t, bad, n, e, api.ErrForm)
			}
		}
		for _, cap := range []int{0, most + 1} {
			n, e := net.Read(bad, cap)
			wantError(t, bad, n, e, api.ErrArg)
		}
	}
}

// The greatest net.
func TestMost(t *testing.T) {
	var ids []int
	for id := range most + 1 {
		ids = append(ids, id)
	}
	n, _ := net.New(most)
	wantSent(t, n, letters(ids...), netOf(most, ids[:most]...), most)
	n = netOf(most, ids[:most]...)
	b, e := net.Write(n)
	if !bytes.Equal(b, textOf(n.Q...)) || e != api.OK {
		t.Errorf("Write: got %d bytes, %d", len(b), e)
	}
	got, e := net.Read(b, most)
	wantOK(t, "Read", got, e, n)
	got, e = net.Read(b, most-1)
	wantError(t, "Read", got, e, api.ErrLong)
	got, e = net.Read(append(b, textOf(letters(most)...)...), most)
	wantError(t, "Read", got, e, api.ErrLong)
	got, e = net.Double(n, 7)
	wantError(t, "Double", got, e, api.ErrLong)
	got, m, e := net.Take(n, most-1)
	wantOK(t, "Take", got, e, netOf(most, ids[:most-1]...))
	if !sameMsg(m, n.Q[most-1]) {
		t.Errorf("Take: got %v", m)
	}
	got, e = net.Double(got, 7)
	wantOK(t, "Double", got, e, netOf(most, append(slices.Clone(ids[:most-1]), 7)...))
	got, e = net.Later(n, 0)
	wantOK(t, "Later", got, e, netOf(most, append(slices.Clone(ids[1:most]), 0)...))
}
