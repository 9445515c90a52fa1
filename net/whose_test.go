package net_test

import (
	"bytes"
	"slices"
	"testing"

	"quickset/api"
	"quickset/net"
)

// roomy is a net with room behind each of its lists, in which stands what is not its own.
func roomy(most int, ids ...int) api.Net {
	n := netOf(most, ids...)
	for i := range n.Q {
		n.Q[i].Args = append(n.Q[i].Args, 99, 99)[:2]
		n.Q[i].Data = append(n.Q[i].Data, 99, 99)[:2]
	}
	n.Q = append(n.Q, letter(98, 9, 9), letter(99, 9, 9))[:len(ids)]
	return n
}

// wantBehind wants that what stands behind a roomy net's lists is as it was.
func wantBehind(t *testing.T, what string, n api.Net) {
	t.Helper()
	k := len(n.Q)
	behind := n.Q[:k+2][k:]
	if !sameMsg(behind[0], letter(98, 9, 9)) || !sameMsg(behind[1], letter(99, 9, 9)) {
		t.Errorf("%s wrote behind the messages", what)
	}
	for _, m := range n.Q {
		if !slices.Equal(m.Args[:4][2:], []int{99, 99}) || !bytes.Equal(m.Data[:4][2:], []byte{99, 99}) {
			t.Errorf("%s wrote behind a message's lists", what)
		}
	}
}

// spoilMsg writes into all that a message has, also behind its end.
func spoilMsg(m api.Msg) {
	args, data := m.Args[:cap(m.Args)], m.Data[:cap(m.Data)]
	for i := range args {
		args[i] = -5
	}
	for i := range data {
		data[i] = 200
	}
}

func spoil(n api.Net) {
	q := n.Q[:cap(n.Q)]
	for i := range q {
		spoilMsg(q[i])
		q[i] = api.Msg{Kind: -5}
	}
}

// changes are all calls that tell a net.
func changes() map[string]func(api.Net) api.Net {
	l := map[string]func(api.Net) api.Net{
		"Send": func(n api.Net) api.Net { n, _ = net.Send(n, letter(8, 0, 0)); return n },
		"Send of none": func(n api.Net) api.Net {
			n, _ = net.Send(n)
			return n
		},
		"Take": func(n api.Net) api.Net { n, _, _ = net.Take(n, 1); return n },
		"Cut":  func(n api.Net) api.Net { n, _ = net.Cut(n, 100); return n },
	}
	for name, f := range map[string]func(api.Net, int) (api.Net, api.Errno){"Drop": net.Drop, "Double": net.Double, "Later": net.Later} {
		for i := range 3 {
			l[name+" of "+string(rune('0'+i))] = func(n api.Net) api.Net { n, _ = f(n, i); return n }
		}
	}
	return l
}

// R2: what is handed in stays as it was, an answer is the caller's own, and stays as it is when what was handed in changes.
func TestWhoseIsWhat(t *testing.T) {
	for name, change := range changes() {
		n := roomy(9, 1, 2, 3)
		got := change(n)
		want := change(netOf(9, 1, 2, 3))
		wantNet(t, name, n, netOf(9, 1, 2, 3))
		wantBehind(t, name, n)
		spoil(got)
		wantNet(t, name+", its answer changed", n, netOf(9, 1, 2, 3))
		wantBehind(t, name+", its answer changed", n)

		got = change(n)
		spoil(n)
		wantNet(t, name+", handed in changed", got, want)
		n = roomy(9, 1, 2, 3)
		wantNet(t, name+", asked again", change(n), want)
	}
}

func TestWhoseIsWhatIsSent(t *testing.T) {
	l := roomy(0, 4, 5)
	n, _ := net.Send(netOf(9, 1), l.Q...)
	wantBehind(t, "Send", l)
	spoil(l)
	wantNet(t, "sent changed", n, netOf(9, 1, 4, 5))

	l = roomy(0, 4, 5)
	n, _ = net.Send(netOf(9, 1), l.Q...)
	spoil(n)
	wantNet(t, "answer changed", l, netOf(0, 4, 5))
	wantBehind(t, "answer changed", l)

	same := letter(4, 1, 2)
	n, _ = net.Send(netOf(9), same, same)
	spoilMsg(n.Q[0])
	if !sameMsg(n.Q[1], letter(4, 1, 2)) || !sameMsg(same, letter(4, 1, 2)) {
		t.Errorf("sent twice: got %v", n)
	}
}

func TestWhoseIsWhatIsTaken(t *testing.T) {
	n := roomy(9, 1, 2, 3)
	rest, m, _ := net.Take(n, 1)
	want := letters(2)[0]
	spoil(n)
	spoil(rest)
	if !sameMsg(m, want) {
		t.Errorf("got %v", m)
	}
	n = roomy(9, 1, 2, 3)
	rest, m, _ = net.Take(n, 1)
	spoilMsg(m)
	wantNet(t, "handed in", n, netOf(9, 1, 2, 3))
	wantBehind(t, "Take", n)
	wantNet(t, "left", rest, netOf(9, 1, 3))
}

// The two of a doubled message have nothing together.
func TestWhoseIsWhatIsDoubled(t *testing.T) {
	n, _ := net.Double(netOf(9, 1, 2), 0)
	spoilMsg(n.Q[0])
	if !sameMsg(n.Q[2], letters(1)[0]) {
		t.Errorf("got %v", n.Q[2])
	}
	n, _ = net.Double(netOf(9, 1, 2), 1)
	spoilMsg(n.Q[2])
	if !sameMsg(n.Q[1], letters(2)[0]) {
		t.Errorf("got %v", n.Q[1])
	}
}

func TestWhoseAreBytesAndPlaces(t *testing.T) {
	n := roomy(9, 1, 2, 3)
	b, _ := net.Write(n)
	text := bytes.Clone(b)
	spoil(n)
	if !bytes.Equal(b, text) {
		t.Errorf("Write: got %v", b)
	}
	n = roomy(9, 1, 2, 3)
	b, _ = net.Write(n)
	clear(b)
	wantNet(t, "bytes changed", n, netOf(9, 1, 2, 3))

	b = append(bytes.Clone(text), 7, 7)[:len(text)]
	got, _ := net.Read(b, 9)
	if !bytes.Equal(b[:len(text)+2], append(bytes.Clone(text), 7, 7)) {
		t.Errorf("Read wrote into what it was handed")
	}
	clear(b)
	wantNet(t, "read bytes changed", got, netOf(9, 1, 2, 3))
	b = bytes.Clone(text)
	got, _ = net.Read(b, 9)
	spoil(got)
	if !bytes.Equal(b, text) {
		t.Errorf("Read: got %v", b)
	}

	places := net.To(n, 2)
	clear(places)
	wantPlaces(t, "To", net.To(n, 2), 1)
	wantNet(t, "places changed", n, netOf(9, 1, 2, 3))
}
