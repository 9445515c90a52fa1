package net_test

import (
	"slices"
	"testing"

	"quickset/api"
	"quickset/net"
)

// A model of the document's words by another hand than the program's: the ids of the messages on their way, and how many there may be. The message of an id is always the same.
type model struct {
	most int
	l    []int
}

func (m model) net() api.Net { return netOf(m.most, m.l...) }

// without is m without the i-th.
func (m model) without(i int) model {
	out := model{most: m.most}
	for j, id := range m.l {
		if j != i {
			out.l = append(out.l, id)
		}
	}
	return out
}

func (m model) with(ids ...int) model { return model{m.most, slices.Concat(m.l, ids)} }

// what can be done at a place, or with an id or node, by that number.
const (
	send = iota
	sendBad
	sendTwo
	take
	drop
	double
	later
	cut
	kinds
)

// do is what a step comes to: the model behind it, and which error or number is told.
func (m model) do(kind, x int) (model, api.Errno, int) {
	there := x >= 0 && x < len(m.l)
	switch kind {
	case send, sendTwo:
		k := 0
		for _, id := range []int{x, x + 1}[:1+kind/sendTwo] {
			if len(m.l) < m.most {
				m, k = m.with(id), k+1
			}
		}
		return m, api.OK, k
	case sendBad:
		return m, api.OK, 0
	case cut:
		k := 0
		for i := len(m.l) - 1; i >= 0; i-- {
			if m.l[i]%3 == x || m.l[i]%4 == x {
				m, k = m.without(i), k+1
			}
		}
		return m, api.OK, k
	}
	switch {
	case !there:
		return model{}, api.ErrNone, 0
	case kind == take, kind == drop:
		return m.without(x), api.OK, 0
	case kind == later:
		return m.without(x).with(m.l[x]), api.OK, 0
	case len(m.l) >= m.most:
		return model{}, api.ErrLong, 0
	}
	return m.with(m.l[x]), api.OK, 0
}

// byProgram is the same step, done by the program; of Take also the message.
func byProgram(n api.Net, kind, x int) (api.Net, api.Msg, api.Errno, int) {
	var m api.Msg
	e, k := api.OK, 0
	switch kind {
	case send:
		n, k = net.Send(n, letters(x)...)
	case sendTwo:
		n, k = net.Send(n, letters(x, x+1)...)
	case sendBad:
		l := badLetters()
		n, k = net.Send(n, l[x%len(l)])
	case take:
		n, m, e = net.Take(n, x)
	case drop:
		n, e = net.Drop(n, x)
	case double:
		n, e = net.Double(n, x)
	case later:
		n, e = net.Later(n, x)
	case cut:
		n, k = net.Cut(n, x)
	}
	return n, m, e, k
}

// wantStep holds a step against the model, and tells what is on its way behind it: what was ahead of it, where it came to an error.
func wantStep(t *testing.T, n api.Net, m model, kind, x int) (api.Net, model) {
	t.Helper()
	got, msg, e, k := byProgram(n, kind, x)
	want, wantE, wantK := m.do(kind, x)
	if !sameNet(got, want.net()) || e != wantE || k != wantK {
		t.Fatalf("%v, step %d of %d: got %v, %d, %d, want %v, %d, %d", m, kind, x, got, e, k, want, wantE, wantK)
	}
	wantMsg := api.Msg{}
	if kind == take && e == api.OK {
		wantMsg = letters(m.l[x])[0]
	}
	if !sameMsg(msg, wantMsg) {
		t.Fatalf("%v, step %d of %d: got %v, want %v", m, kind, x, msg, wantMsg)
	}
	if e != api.OK {
		return n, m
	}
	return got, want
}

// wantTold holds what is told of a net against the model: the places, and the bytes.
func wantTold(t *testing.T, n api.Net, m model) {
	t.Helper()
	for node := range 5 {
		var want []int
		for i, id := range m.l {
			if id%4 == node {
				want = append(want, i)
			}
		}
		wantPlaces(t, node, net.To(n, node), want...)
	}
	b, e := net.Write(n)
	if again, f := net.Read(b, m.most); !sameNet(again, m.net()) || e != api.OK || f != api.OK {
		t.Fatalf("%v: read as %v, %d, %d", m, again, e, f)
	}
	if len(m.l) > 1 {
		n, e := net.Read(b, len(m.l)-1)
		wantError(t, m, n, e, api.ErrLong)
	}
}

// walkAll goes all ways of so many steps from there on.
func walkAll(t *testing.T, n api.Net, m model, steps, next int) {
	t.Helper()
	wantTold(t, n, m)
	if steps == 0 {
		return
	}
	for _, kind := range []int{send, sendTwo} {
		got, want := wantStep(t, n, m, kind, next)
		walkAll(t, got, want, steps-1, next+2)
	}
	wantStep(t, n, m, sendBad, next)
	for _, kind := range []int{take, drop, double, later} {
		for x := -1; x <= len(m.l); x++ {
			got, want := wantStep(t, n, m, kind, x)
			if kind != drop && 0 <= x && x < len(m.l) { // it goes on from Take as from Drop
				walkAll(t, got, want, steps-1, next)
			}
		}
	}
	for x := -1; x < 4; x++ {
		wantStep(t, n, m, cut, x)
	}
}

func TestAllShortWays(t *testing.T) {
	for cap := 1; cap <= 4; cap++ {
		n, e := net.New(cap)
		if e != api.OK {
			t.Fatal(e)
		}
		walkAll(t, n, model{most: cap}, 5, 0)
	}
}

// numbers makes a row that is always the same.
func numbers(row uint64) func(n int) int {
	return func(n int) int {
		row = row*6364136223846793005 + 1442695040888963407
		return int(row>>33) % n
	}
}

func TestLongWays(t *testing.T) {
	next := numbers(13)
	for _, cap := range []int{1, 2, 3, 7, 32, 100} {
		n, e := net.New(cap)
		if e != api.OK {
			t.Fatal(e)
		}
		m := model{most: cap}
		w := witness{came: map[int]int{}}
		for i := range 4000 {
			kind, x := next(kinds), next(cap+2)-1
			switch kind {
			case send, sendTwo, sendBad:
				x = 2 * i
			case cut:
				if next(8) > 0 { // seldom, as it leaves little
					kind = send
					x = 2 * i
				}
			}
			ahead := n
			n, m = wantStep(t, n, m, kind, x)
			w.see(t, ahead, n, kind, x)
			if i%16 == 0 {
				wantTold(t, n, m)
			}
		}
		if w.most != cap {
			t.Errorf("of %d no more than %d were on their way", cap, w.most)
		}
	}
}

// A witness holds P13.4 against what is told alone: how often each message came on its way, less how often it went.
type witness struct {
	came map[int]int
	most int
}

// ids are those of the messages on their way.
func ids(n api.Net) []int {
	var l []int
	for _, m := range n.Q {
		l = append(l, m.Id)
	}
	return l
}

// see is told of a step: what was on its way ahead of it, and is behind it.
func (w *witness) see(t *testing.T, ahead, behind api.Net, kind, x int) {
	t.Helper()
	a, b := ids(ahead), ids(behind)
	there := x >= 0 && x < len(a)
	moved := -1 // the place of the one that need not keep the order
	switch kind {
	case send, sendTwo:
		for id := x; id <= x+kind/sendTwo && len(a)+id-x < ahead.Cap; id++ {
			w.came[id]++
		}
	case take, drop:
		if there {
			w.came[a[x]]--
			moved = x
		}
	case double:
		if there && len(a) < ahead.Cap {
			w.came[a[x]]++
		}
	case later:
		if there {
			moved = x
		}
	case cut:
		a = slices.DeleteFunc(a, func(id int) bool {
			gone := id%3 == x || id%4 == x
			if gone {
				w.came[id]--
			}
			return gone
		})
	}
	if moved >= 0 {
		a = slices.Delete(a, moved, moved+1)
	}
	if len(b) < len(a) || !slices.Equal(b[:len(a)], a) {
		t.Fatalf("step %d of %d: the others were %v, and are %v", kind, x, a, b)
	}
	w.count(t, b)
	w.most = max(w.most, len(b))
}

// count wants each message on its way as often as it came.
func (w *witness) count(t *testing.T, l []int) {
	t.Helper()
	many := map[int]int{}
	for _, id := range l {
		many[id]++
	}
	for id, k := range w.came {
		if many[id] != k {
			t.Fatalf("%d is there %d times, and came %d times", id, many[id], k)
		}
		delete(many, id)
		if k == 0 {
			delete(w.came, id)
		}
	}
	if len(many) > 0 {
		t.Fatalf("%v never came", many)
	}
}
