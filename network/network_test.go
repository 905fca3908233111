package network

import (
	"bytes"
	"math"
	"math/rand"
	"slices"
	"testing"

	"franking/api"
)

func packet(from, to int, b ...byte) api.Packet { return api.Packet{From: from, To: to, Data: b} }

func net(l ...api.Packet) api.Net { return api.Net{Queue: l} }

func equal(a, b api.Net) bool {
	return slices.EqualFunc(a.Queue, b.Queue, func(p, q api.Packet) bool {
		return p.From == q.From && p.To == q.To && bytes.Equal(p.Data, q.Data)
	}) && slices.Equal(a.Apart, b.Apart)
}

func TestCheck(t *testing.T) {
	if n := New(); Check(n) != api.OK || len(n.Queue)+len(n.Apart) != 0 {
		t.Error(n)
	}
	for i, n := range []api.Net{
		net(packet(3, 3)), net(packet(-1, 3)), net(packet(3, 24)), net(packet(24, 3)), net(packet(3, -1)), net(packet(0, math.MaxInt)),
		net(api.Packet{From: 0, To: 1, Data: make([]byte, 1<<20+1)}),
		net(slices.Repeat([]api.Packet{packet(0, 1)}, 4097)...),
		{Apart: [][2]int{{1, 1}}}, {Apart: [][2]int{{2, 1}}}, {Apart: [][2]int{{-1, 1}}}, {Apart: [][2]int{{1, 24}}},
		{Apart: [][2]int{{1, 2}, {1, 2}}}, {Apart: [][2]int{{1, 3}, {1, 2}}}, {Apart: [][2]int{{2, 3}, {1, 4}}},
	} {
		_, e1 := Send(n, packet(0, 1))
		_, _, e2 := Deliver(n, -1)
		_, e3 := Lose(n, -1)
		_, e4 := Repeat(n, -1)
		_, e5 := Cut(n, 1, 1, true)
		for _, e := range []api.Errno{Check(n), e1, e2, e3, e4, e5} {
			if e != api.ErrNet {
				t.Error(i, e)
			}
		}
	}
	for i, n := range []api.Net{
		net(packet(0, 23)), net(api.Packet{From: 0, To: 1, Data: make([]byte, 1<<20)}), net(slices.Repeat([]api.Packet{packet(0, 1)}, 4096)...),
		{Apart: [][2]int{{0, 1}, {0, 23}, {1, 2}, {22, 23}}},
	} {
		if Check(n) != api.OK {
			t.Error(i)
		}
	}
}

func TestSend(t *testing.T) {
	n, e := Send(New(), packet(1, 2, 5))
	if e != api.OK || !equal(n, net(packet(1, 2, 5))) {
		t.Error(n, e)
	}
	for _, p := range []api.Packet{packet(3, 3), {}, packet(0, 24), {To: 1, Data: make([]byte, 1<<20+1)}} {
		if x, e := Send(n, p); e != api.ErrNet || len(x.Queue) > 0 {
			t.Error(p.From, e)
		}
	}
	a, _ := Send(n, packet(1, 2, 6))
	b, _ := Send(n, packet(1, 2, 7))
	if a.Queue[1].Data[0] != 6 || b.Queue[1].Data[0] != 7 {
		t.Error("two continuations share packets")
	}
	full := net(slices.Repeat([]api.Packet{packet(0, 1)}, 4096)...)
	if _, e := Send(full, packet(0, 1)); e != api.ErrLimit {
		t.Error(e)
	}
	if _, e := Send(full, packet(1, 1)); e != api.ErrNet {
		t.Error(e)
	}
	if _, e := Repeat(full, 0); e != api.ErrLimit {
		t.Error(e)
	}
	if _, e := Repeat(full, 4096); e != api.ErrArg {
		t.Error(e)
	}
	n, _ = Cut(n, 1, 2, true)
	if n, e = Send(n, packet(2, 1)); e != api.OK || len(n.Queue) != 2 {
		t.Error("packets are sent over links that are cut", e)
	}
}

func TestDeliver(t *testing.T) {
	n := net(packet(0, 1, 1), packet(2, 3, 2), packet(1, 0, 3))
	old := net(slices.Clone(n.Queue)...)
	p, x, e := Deliver(n, 1)
	if e != api.OK || p.From != 2 || p.To != 3 || p.Data[0] != 2 || !equal(x, net(packet(0, 1, 1), packet(1, 0, 3))) {
		t.Error(p, x, e)
	}
	if x, e := Lose(n, 0); e != api.OK || !equal(x, net(packet(2, 3, 2), packet(1, 0, 3))) {
		t.Error(x, e)
	}
	if x, e := Repeat(n, 0); e != api.OK || !equal(x, net(packet(0, 1, 1), packet(2, 3, 2), packet(1, 0, 3), packet(0, 1, 1))) {
		t.Error(x, e)
	}
	if !equal(n, old) {
		t.Error("the argument has changed")
	}
	for _, at := range []int{-1, 3, math.MinInt, math.MaxInt} {
		p, x, e1 := Deliver(n, at)
		_, e2 := Lose(n, at)
		_, e3 := Repeat(n, at)
		if e1 != api.ErrArg || e2 != api.ErrArg || e3 != api.ErrArg || len(x.Queue) > 0 || p.To != 0 {
			t.Error(at, e1, e2, e3)
		}
	}
	if _, _, e := Deliver(New(), 0); e != api.ErrArg {
		t.Error(e)
	}
	c, _ := Cut(n, 1, 0, true)
	for _, at := range []int{0, 2} {
		if p, x, e := Deliver(c, at); e != api.OK || p.From != p.To || len(p.Data) != 0 || len(x.Queue) != 2 || len(x.Apart) != 1 {
			t.Error(at, p, e)
		}
	}
	if p, _, e := Deliver(c, 1); e != api.OK || p.From != 2 {
		t.Error(p, e)
	}
}

func TestCut(t *testing.T) {
	n, e := Cut(New(), 3, 1, true)
	if e != api.OK || !slices.Equal(n.Apart, [][2]int{{1, 3}}) {
		t.Error(n, e)
	}
	for _, x := range [][2]int{{2, 2}, {-1, 2}, {2, -1}, {24, 2}, {2, 24}} {
		if _, e := Cut(n, x[0], x[1], false); e != api.ErrArg {
			t.Error(x, e)
		}
	}
	r := rand.New(rand.NewSource(6))
	apart := map[[2]int]bool{{1, 3}: true}
	for range 2000 {
		a, b, on := r.Intn(6), r.Intn(6), r.Intn(2) == 0
		if a == b {
			continue
		}
		if n, e = Cut(n, a, b, on); e != api.OK || Check(n) != api.OK {
			t.Fatal(e, n)
		}
		delete(apart, [2]int{min(a, b), max(a, b)})
		if on {
			apart[[2]int{min(a, b), max(a, b)}] = true
		}
		if len(n.Apart) != len(apart) {
			t.Fatal(n.Apart, apart)
		}
		for _, p := range n.Apart {
			if !apart[p] {
				t.Error(p)
			}
		}
		if again, _ := Cut(n, a, b, on); !equal(again, n) {
			t.Error("cutting twice is cutting once")
		}
	}
}

func TestDeliveredOnce(t *testing.T) {
	r := rand.New(rand.NewSource(7))
	n, sent := New(), map[string]int{}
	for i := range 100 {
		p := packet(i%5, 5+i%7, byte(i))
		n, _ = Send(n, p)
		sent[string([]byte{byte(p.From), byte(p.To), byte(i)})]++
	}
	for len(n.Queue) > 0 {
		p, x, e := Deliver(n, r.Intn(len(n.Queue)))
		if e != api.OK || Check(x) != api.OK {
			t.Fatal(e)
		}
		sent[string([]byte{byte(p.From), byte(p.To), p.Data[0]})]--
		n = x
	}
	for s, c := range sent {
		if c != 0 {
			t.Error([]byte(s), c)
		}
	}
}
