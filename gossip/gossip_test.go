package gossip

import (
	"bytes"
	"math"
	"math/rand"
	"reflect"
	"slices"
	"testing"

	"franking/api"
	"franking/codec"
	"franking/network"
)

func hand(n int) api.Hand {
	return api.Hand{Run: api.Run{Line: n % 60, At: n, Arrive: n + 9}, Leg: 1, From: 3, To: -1, Many: 2, Root: api.Digest{byte(n)}, Time: 5000 - n, Sig: api.Sig{E: n * n, S: -n}}
}

func room(t *testing.T, n int) api.Room {
	r, e := New(n)
	if e != api.OK || Check(r) != api.OK || len(r.Peers) != n {
		t.Fatal(e)
	}
	return r
}

func do(t *testing.T, r api.Room, a api.Act) api.Room {
	t.Helper()
	x, e := Do(r, a)
	if e != api.OK || Check(x) != api.OK {
		t.Fatal(a.Kind, e)
	}
	return x
}

func tell(peer int, h api.Hand) api.Act { return api.Act{Kind: api.TellA, Peer: peer, Hand: h} }

// encoded is the message of a hand-over, by the definition.
func encoded(h api.Hand) []byte {
	v := api.Value{Kind: api.ListV}
	add := func(l ...int) {
		for _, n := range l {
			v.L = append(v.L, api.Value{Kind: api.IntV, N: n})
		}
	}
	add(h.Run.Line, h.Run.At, h.Run.Arrive, h.Leg, h.From, h.To, h.Many)
	v.L = append(v.L, api.Value{Kind: api.TextV, S: string(h.Root[:])})
	add(h.Time, h.Sig.E, h.Sig.S)
	b, _ := codec.Encode(v)
	return b
}

func TestNewCheck(t *testing.T) {
	for _, n := range []int{0, 25, -1, math.MaxInt, math.MinInt} {
		if r, e := New(n); e != api.ErrArg || len(r.Peers) > 0 {
			t.Error(n, e)
		}
	}
	room(t, 1)
	room(t, 24)
	a, b := hand(1), hand(2)
	if bytes.Compare(encoded(a), encoded(b)) > 0 {
		a, b = b, a
	}
	odd := a
	odd.To = odd.From
	other := a
	other.Sig.E++
	if bytes.Compare(encoded(a), encoded(other)) > 0 {
		t.Fatal("the order of signatures")
	}
	many := []api.Hand{}
	for i := range 4097 {
		many = append(many, hand(i))
	}
	slices.SortFunc(many, func(x, y api.Hand) int { return bytes.Compare(encoded(x), encoded(y)) })
	packet := func(from, to int, b []byte) []api.Packet { return []api.Packet{{From: from, To: to, Data: b}} }
	for i, x := range []struct {
		f  func(r *api.Room)
		ok bool
	}{
		{func(r *api.Room) {}, true}, {func(r *api.Room) { r.Peers = nil }, false}, {func(r *api.Room) { r.Peers = make([]api.Peer, 25) }, false}, {func(r *api.Room) { r.Net.Apart = [][2]int{{1, 0}} }, false}, {func(r *api.Room) { r.Net.Apart = [][2]int{{5, 23}} }, true},
		{func(r *api.Room) { r.Peers[1].Hands = []api.Hand{a, b} }, true}, {func(r *api.Room) { r.Peers[1].Hands = []api.Hand{b, a} }, false}, {func(r *api.Room) { r.Peers[1].Hands = []api.Hand{a, a} }, false}, {func(r *api.Room) { r.Peers[1].Hands = []api.Hand{odd} }, false}, {func(r *api.Room) { r.Peers[1].Hands = []api.Hand{a, other} }, true},
		{func(r *api.Room) { r.Peers[1].Hands = many }, false}, {func(r *api.Room) { r.Peers[1].Hands = many[:4096] }, true},
		{func(r *api.Room) { r.Net.Queue = packet(0, 1, encoded(a)) }, true}, {func(r *api.Room) { r.Net.Queue = packet(0, 2, encoded(a)) }, false}, {func(r *api.Room) { r.Net.Queue = packet(2, 0, encoded(a)) }, false}, {func(r *api.Room) { r.Net.Queue = packet(0, 0, encoded(a)) }, false}, {func(r *api.Room) { r.Net.Queue = packet(0, 1, encoded(odd)) }, false}, {func(r *api.Room) { r.Net.Queue = packet(0, 1, nil) }, false}, {func(r *api.Room) { r.Net.Queue = packet(0, 1, encoded(a)[1:]) }, false}, {func(r *api.Room) { r.Net.Queue = packet(0, 1, append(encoded(a), 0)) }, false},
		{func(r *api.Room) { r.Net.Queue = packet(0, 1, []byte{3, 0}) }, false}, {func(r *api.Room) { r.Net.Queue = packet(0, 1, []byte{2, 0}) }, false},
	} {
		r := room(t, 2)
		x.f(&r)
		y, e := Do(r, api.Act{Kind: api.LoseA})
		if (Check(r) == api.OK) != x.ok || !x.ok && (Check(r) != api.ErrPeer || e != api.ErrPeer || len(y.Peers) > 0) || x.ok && e == api.ErrPeer {
			t.Error(i, Check(r), e)
		}
	}
	if Check(api.Room{}) != api.ErrPeer {
		t.Error("the zero room")
	}
	// Each value of a message must be of its kind, and the root must have 32 bytes.
	v, _ := codec.Decode(encoded(a))
	for i := range v.L {
		w := v
		w.L = slices.Clone(v.L)
		w.L[i] = api.Value{Kind: api.TextV, S: "x"}
		text, _ := codec.Encode(w)
		w.L[i] = api.Value{Kind: api.IntV}
		number, _ := codec.Encode(w)
		w.L = slices.Delete(w.L, i, i+1)
		short, _ := codec.Encode(w)
		_, ok1 := handOf(text)
		_, ok2 := handOf(number)
		_, ok3 := handOf(short)
		if ok1 || ok3 || ok2 && i == 7 {
			t.Error(i, ok1, ok2, ok3)
		}
	}
	for n := range 300 {
		h := hand(n)
		if g, ok := handOf(encoded(h)); !ok || g != h || !bytes.Equal(message(h), encoded(h)) {
			t.Error(n)
		}
	}
}

func TestDo(t *testing.T) {
	r := room(t, 3)
	x := do(t, r, tell(1, hand(5)))
	want := []api.Packet{{From: 1, To: 0, Data: encoded(hand(5))}, {From: 1, To: 2, Data: encoded(hand(5))}}
	if !reflect.DeepEqual(x.Net.Queue, want) || len(x.Peers[0].Hands)+len(x.Peers[2].Hands) > 0 || !slices.Equal(x.Peers[1].Hands, []api.Hand{hand(5)}) || len(r.Peers[1].Hands) > 0 {
		t.Error(x)
	}
	y := do(t, x, api.Act{Kind: api.DeliverA, At: 1})
	if !slices.Equal(y.Peers[2].Hands, []api.Hand{hand(5)}) || len(y.Net.Queue) != 1 || len(x.Peers[2].Hands) > 0 {
		t.Error(y)
	}
	if z := do(t, do(t, x, api.Act{Kind: api.RepeatA, At: 0}), api.Act{Kind: api.LoseA, At: 1}); len(z.Net.Queue) != 2 || z.Net.Queue[1].To != 0 {
		t.Error(z)
	}
	twice := do(t, y, tell(1, hand(5)))
	if len(twice.Peers[1].Hands) != 1 || len(twice.Net.Queue) != 3 {
		t.Error("a node that is told of something twice knows it once")
	}
	two := do(t, do(t, y, tell(2, hand(8))), tell(2, hand(6)))
	s := do(t, two, api.Act{Kind: api.SyncA, Peer: 2, To: 0})
	if len(s.Peers[2].Hands) != 3 || len(s.Net.Queue) != len(two.Net.Queue)+3 {
		t.Error(len(s.Net.Queue))
	}
	for i, p := range s.Net.Queue[len(two.Net.Queue):] {
		if p.From != 2 || p.To != 0 || !bytes.Equal(p.Data, encoded(s.Peers[2].Hands[i])) {
			t.Error(i, p)
		}
	}
	cut := x
	cut.Net, _ = network.Cut(x.Net, 1, 2, true)
	if z := do(t, cut, api.Act{Kind: api.DeliverA, At: 1}); len(z.Peers[2].Hands) > 0 || len(z.Net.Queue) != 1 {
		t.Error("a link that is cut")
	}
}

func TestErrors(t *testing.T) {
	r := do(t, room(t, 3), tell(1, hand(5)))
	odd := hand(5)
	odd.Many = 65
	for i, x := range []struct {
		a    api.Act
		want api.Errno
	}{
		{api.Act{}, api.ErrArg}, {api.Act{Kind: 6}, api.ErrArg}, {api.Act{Kind: -1}, api.ErrArg}, {tell(3, odd), api.ErrArg}, {tell(-1, hand(5)), api.ErrArg}, {tell(0, odd), api.ErrHand}, {tell(0, api.Hand{}), api.ErrHand}, {tell(math.MaxInt, hand(5)), api.ErrArg},
		{api.Act{Kind: api.SyncA, Peer: 1, To: 1}, api.ErrArg}, {api.Act{Kind: api.SyncA, Peer: 1, To: 3}, api.ErrArg}, {api.Act{Kind: api.SyncA, Peer: -1, To: 1}, api.ErrArg}, {api.Act{Kind: api.SyncA, Peer: 3, To: 1}, api.ErrArg},
		{api.Act{Kind: api.DeliverA, At: 2}, api.ErrArg}, {api.Act{Kind: api.LoseA, At: -1}, api.ErrArg}, {api.Act{Kind: api.RepeatA, At: math.MaxInt}, api.ErrArg}, {api.Act{Kind: api.DeliverA, At: -1}, api.ErrArg},
		// Other fields do not matter.
		{api.Act{Kind: api.SyncA, Peer: 1, To: 0, At: -7, Hand: odd}, api.OK}, {api.Act{Kind: api.LoseA, Peer: -3, To: 99}, api.OK},
	} {
		if y, e := Do(r, x.a); e != x.want || e != api.OK && len(y.Peers) > 0 {
			t.Error(i, e)
		}
	}
	if _, e := Do(room(t, 1), api.Act{Kind: api.DeliverA}); e != api.ErrArg {
		t.Error(e)
	}
	full := room(t, 2)
	for i := range 4096 {
		full.Peers[0].Hands = append(full.Peers[0].Hands, hand(i))
	}
	slices.SortFunc(full.Peers[0].Hands, func(x, y api.Hand) int { return bytes.Compare(encoded(x), encoded(y)) })
	if _, e := Do(full, tell(0, hand(5000))); e != api.ErrLimit {
		t.Error(e)
	}
	if _, e := Do(full, tell(0, hand(7))); e != api.OK {
		t.Error("what a node knows already", e)
	}
	full.Net.Queue = []api.Packet{{From: 1, To: 0, Data: encoded(hand(5000))}}
	if _, e := Do(full, api.Act{Kind: api.DeliverA}); e != api.ErrLimit {
		t.Error(e)
	}
	if _, e := Do(full, api.Act{Kind: api.SyncA, Peer: 0, To: 1}); e != api.ErrLimit {
		t.Error("4097 packets", e)
	}
	full.Net.Queue = nil
	if x, e := Do(full, api.Act{Kind: api.SyncA, Peer: 0, To: 1}); e != api.OK || len(x.Net.Queue) != 4096 {
		t.Error(e)
	}
	full.Net.Queue = slices.Repeat([]api.Packet{{From: 1, To: 0, Data: encoded(hand(5))}}, 4096)
	if _, e := Do(full, tell(0, hand(5))); e != api.ErrLimit {
		t.Error(e)
	}
	if _, e := Do(full, api.Act{Kind: api.RepeatA}); e != api.ErrLimit {
		t.Error(e)
	}
}

func TestAllKnowAll(t *testing.T) {
	r := rand.New(rand.NewSource(68))
	for range 30 {
		n := 1 + r.Intn(4)
		x, told := room(t, n), map[int]bool{}
		for range 25 {
			a := api.Act{Kind: 1 + r.Intn(5), Peer: r.Intn(n), To: r.Intn(n), At: r.Intn(6), Hand: hand(r.Intn(6))}
			y, e := Do(x, a)
			if e != api.OK {
				continue
			}
			if a.Kind == api.TellA {
				told[a.Hand.Run.At] = true
			}
			for i, p := range x.Peers {
				for _, h := range p.Hands {
					if !slices.Contains(y.Peers[i].Hands, h) {
						t.Error("a hand-over was forgotten")
					}
				}
				for _, h := range y.Peers[i].Hands {
					if !told[h.Run.At] {
						t.Error("a hand-over of which no node was told")
					}
				}
			}
			x = y
		}
		for i := range n {
			for k := range n {
				if i != k {
					x = do(t, x, api.Act{Kind: api.SyncA, Peer: i, To: k})
				}
			}
		}
		for len(x.Net.Queue) > 0 {
			if r.Intn(5) == 0 && len(x.Net.Queue) < 100 {
				x = do(t, x, api.Act{Kind: api.RepeatA, At: r.Intn(len(x.Net.Queue))})
			}
			x = do(t, x, api.Act{Kind: api.DeliverA, At: r.Intn(len(x.Net.Queue))})
		}
		for _, p := range x.Peers {
			if len(p.Hands) != len(told) || !slices.Equal(p.Hands, x.Peers[0].Hands) {
				t.Error(len(p.Hands), len(told))
			}
		}
	}
}
