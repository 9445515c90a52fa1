package dedup_test

import (
	"bytes"
	"slices"
	"testing"

	"quickset/api"
	"quickset/dedup"
)

// roomyMsg is a message with room behind its lists, in which stands what is not its own.
func roomyMsg(m api.Msg) api.Msg {
	k, n := len(m.Args), len(m.Data)
	m.Args = append(slices.Clone(m.Args), 98, 99)[:k]
	m.Data = append(bytes.Clone(m.Data), 98, 99)[:n]
	return m
}

// roomy is a list with such room behind each of its lists.
func roomy(l []api.Seen) []api.Seen {
	var out []api.Seen
	for _, s := range l {
		k := len(s.L)
		said := make([]api.Said, 0, k+2)
		for _, a := range s.L {
			said = append(said, api.Said{Id: a.Id, M: roomyMsg(a.M)})
		}
		s.L = append(said, api.Said{Id: 98}, api.Said{Id: 99})[:k]
		out = append(out, s)
	}
	k := len(out)
	return append(out, seen(98, 1), seen(99, 2))[:k]
}

// wantBehind wants that what stands behind a roomy list's lists is as it was.
func wantBehind(t *testing.T, what string, l []api.Seen) {
	t.Helper()
	if text(l[:len(l)+2][len(l):]) != text(list(seen(98, 1), seen(99, 2))) {
		t.Errorf("%s wrote behind the list", what)
	}
	for _, s := range l {
		if text(s.L[:len(s.L)+2][len(s.L):]) != text([]api.Said{{Id: 98}, {Id: 99}}) {
			t.Errorf("%s wrote behind the answers", what)
		}
		for _, a := range s.L {
			wantMsgBehind(t, what, a.M)
		}
	}
}

func wantMsgBehind(t *testing.T, what string, m api.Msg) {
	t.Helper()
	k, n := len(m.Args), len(m.Data)
	if !slices.Equal(m.Args[:k+2][k:], []int{98, 99}) || !bytes.Equal(m.Data[:n+2][n:], []byte{98, 99}) {
		t.Errorf("%s wrote behind a message", what)
	}
}

// spoilMsg writes into all that a message has, also behind its end.
func spoilMsg(m api.Msg) {
	args, data := m.Args[:cap(m.Args)], m.Data[:cap(m.Data)]
	for i := range args {
		args[i] = -5
	}
	for i := range data {
		data[i] = 200
	}
}

func spoilSeen(s api.Seen) {
	said := s.L[:cap(s.L)]
	for i := range said {
		spoilMsg(said[i].M)
		said[i] = api.Said{Id: -5}
	}
}

func spoil(l []api.Seen) {
	l = l[:cap(l)]
	for i := range l {
		spoilSeen(l[i])
		l[i] = api.Seen{From: -5}
	}
}

// tellers are all calls that tell a list, also of one that has all it can.
func tellers() map[string]func(l []api.Seen) []api.Seen {
	done := func(from, id int) func(l []api.Seen) []api.Seen {
		return func(l []api.Seen) []api.Seen {
			l, _ = dedup.Done(l, from, id, reply(from, id))
			return l
		}
	}
	return map[string]func(l []api.Seen) []api.Seen{
		"Done of a new one ahead":  done(0, 1),
		"Done of a new one":        done(3, 1),
		"Done of a new one behind": done(7, 1),
		"Done of the first":        done(2, 6),
		"Done ahead":               done(5, 2),
		"Done between":             done(5, 4),
		"Done behind":              done(5, 7),
		"Done of the ninth":        done(1, 21),
		"Done of the ninth, ahead": done(1, 6),
		"Forget of none":           func(l []api.Seen) []api.Seen { return dedup.Forget(l) },
		"Forget of another":        func(l []api.Seen) []api.Seen { return dedup.Forget(l, 3) },
		"Forget of the first":      func(l []api.Seen) []api.Seen { return dedup.Forget(l, 1) },
		"Forget of the second":     func(l []api.Seen) []api.Seen { return dedup.Forget(l, 2) },
		"Forget of the last":       func(l []api.Seen) []api.Seen { return dedup.Forget(l, 5) },
	}
}

// R2: what is handed in stays as it was, an answer is the caller's own, and stays as it is when what was handed in changes.
func TestWhoseIsWhat(t *testing.T) {
	for name, tell := range tellers() {
		want := text(tell(three()))
		l := roomy(three())
		got := tell(l)
		if text(l) != text(three()) {
			t.Errorf("%s changed what it was handed: %v", name, l)
		}
		wantBehind(t, name, l)
		spoil(got)
		if text(l) != text(three()) {
			t.Errorf("%s: its answer has what it was handed: %v", name, l)
		}
		wantBehind(t, name+", its answer changed", l)

		got = tell(l)
		spoil(l)
		if text(got) != want {
			t.Errorf("%s: what it was handed changed its answer: %v", name, got)
		}
		if got := tell(three()); text(got) != want {
			t.Errorf("%s, asked again: %v", name, got)
		}
	}
}

// No two lists of an answer have anything together, also where those that were handed in have.
func TestNothingIsShared(t *testing.T) {
	args, data := []int{1, 2}, []byte{3, 4}
	m := api.Msg{Args: args, Data: data}
	said := []api.Said{{Id: 6, M: m}, {Id: 7, M: m}}
	l := list(api.Seen{From: 1, L: said}, api.Seen{From: 2, Below: 6, L: said}, api.Seen{From: 3, L: said[:1]})
	for name, tell := range map[string]func() []api.Seen{
		"Done":   func() []api.Seen { x, _ := dedup.Done(l, 2, 8, m); return x },
		"Forget": func() []api.Seen { return dedup.Forget(l, 4) },
	} {
		want := text(tell())
		for i, s := range tell() {
			got := tell()
			spoilSeen(got[i])
			got[i] = s
			if text(got) != want {
				t.Errorf("%s, %d: got %v", name, i, got)
			}
			for j := range s.L {
				got = tell()
				spoilMsg(got[i].L[j].M)
				got[i].L[j] = tell()[i].L[j]
				if text(got) != want {
					t.Errorf("%s, %d, %d: got %v", name, i, j, got)
				}
			}
		}
	}
	if !slices.Equal(args, []int{1, 2}) || !bytes.Equal(data, []byte{3, 4}) {
		t.Errorf("got %v, %v", args, data)
	}
}

func TestWhoseIsAnAnswer(t *testing.T) {
	l := roomy(three())
	m, _ := dedup.Ask(l, 5, 6)
	spoilMsg(m)
	if text(l) != text(three()) {
		t.Errorf("got %v", l)
	}
	wantBehind(t, "Ask", l)
	m, _ = dedup.Ask(l, 5, 6)
	spoil(l)
	if text(m) != text(reply(5, 6)) {
		t.Errorf("got %v", m)
	}

	m = roomyMsg(reply(5, 4))
	l, _ = dedup.Done(three(), 5, 4, m)
	want := text(l)
	wantMsgBehind(t, "Done", m)
	spoilMsg(m)
	if text(l) != want {
		t.Errorf("got %v", l)
	}
	m = roomyMsg(reply(5, 4))
	l, _ = dedup.Done(three(), 5, 4, m)
	spoil(l)
	if text(m) != text(reply(5, 4)) {
		t.Errorf("got %v", m)
	}
	wantMsgBehind(t, "Done, its answer changed", m)
}

func TestWhatIsLookedAtStays(t *testing.T) {
	for _, l := range append(badLists(), three()) {
		want := text(l)
		l = roomy(l)
		names := []int{5, 1, 1, -1}
		dedup.Check(l)
		dedup.Same(l, l)
		dedup.Ask(l, 1, 9)
		dedup.Done(l, 1, 9, api.Msg{})
		dedup.Forget(l, names...)
		if text(l) != want || !slices.Equal(names, []int{5, 1, 1, -1}) {
			t.Errorf("got %v, %v, want %v", l, names, want)
		}
		wantBehind(t, "looking", l)
	}
}
