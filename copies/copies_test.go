package copies

import (
	"math/rand"
	"slices"
	"testing"

	"franking/api"
	"franking/elgamal"
	"franking/handover"
)

// secretOf is the secret of an office.
func secretOf(n int) int { return 100 + n }

func keys(n int) (l []int) {
	for i := range n {
		k, _ := elgamal.Public(secretOf(i))
		l = append(l, k)
	}
	return l
}

func sign(h api.Hand) api.Hand {
	x, e := handover.Make(secretOf(h.From), h)
	if e != api.OK {
		panic(e)
	}
	return x
}

func hand(from, at, leg, time int) api.Hand {
	return sign(api.Hand{Run: api.Run{Line: 1, At: at, Arrive: 50}, Leg: leg, From: from, To: -1, Many: 2, Time: time})
}

func TestCheck(t *testing.T) {
	a, b := hand(3, 5, 0, 7), hand(3, 5, 0, 8)
	k := keys(5)
	unsigned := b
	unsigned.Sig.S++
	for i, x := range []struct {
		key int
		l   api.Lie
		ok  bool
	}{
		{k[3], api.Lie{A: a, B: b}, true}, {k[3], api.Lie{A: b, B: a}, true}, {k[3], api.Lie{A: a, B: a}, false}, {k[2], api.Lie{A: a, B: b}, false}, {k[3], api.Lie{A: a, B: unsigned}, false}, {k[3], api.Lie{A: unsigned, B: a}, false}, {k[3], api.Lie{A: a, B: hand(3, 6, 0, 8)}, false}, {4, api.Lie{}, false}, {0, api.Lie{A: a, B: b}, false},
	} {
		if Check(x.key, x.l) != x.ok {
			t.Error(i)
		}
	}
}

func TestFind(t *testing.T) {
	k := keys(5)
	a, b, c := hand(3, 5, 0, 7), hand(3, 5, 0, 8), hand(3, 5, 0, 9)
	other := hand(2, 5, 0, 7)
	foreign := a
	foreign.Time = 30
	foreign, _ = handover.Make(secretOf(4), foreign)
	lie := func(a, b api.Hand) api.Lie { return api.Lie{A: a, B: b} }
	withRun := func(h api.Hand, r api.Run) api.Hand {
		h.Run = r
		return sign(h)
	}
	run := func(line, at, arrive int) api.Run { return api.Run{Line: line, At: at, Arrive: arrive} }
	for i, x := range []struct {
		keys  []int
		l     []api.Hand
		lies  []api.Lie
		trust []api.Hand
	}{
		{nil, []api.Hand{a, b}, nil, nil}, {k, nil, nil, nil}, {k, []api.Hand{a, other}, nil, []api.Hand{a, other}}, {k, []api.Hand{a, a, foreign}, nil, []api.Hand{a, a}}, {k, []api.Hand{foreign, other, a, c, b}, []api.Lie{lie(a, c)}, []api.Hand{other}}, {k, []api.Hand{a, a, b}, []api.Lie{lie(a, b)}, nil}, {k[:3], []api.Hand{a, b, other}, nil, []api.Hand{other}},
		{k, []api.Hand{a, hand(3, 6, 0, 1), hand(3, 5, 1, 1), hand(2, 5, 0, 9)}, nil, []api.Hand{a, hand(3, 6, 0, 1), hand(3, 5, 1, 1), hand(2, 5, 0, 9)}},
		// The least slot of an office: by At, then Line, then Arrive, then Leg.
		{k, []api.Hand{hand(3, 6, 0, 1), hand(3, 6, 0, 2), a, b, other, hand(2, 5, 0, 8)}, []api.Lie{lie(other, hand(2, 5, 0, 8)), lie(a, b)}, nil},
		{k, []api.Hand{hand(3, 5, 1, 1), hand(3, 5, 1, 2), a, b}, []api.Lie{lie(a, b)}, nil}, {k, []api.Hand{a, b, hand(3, 5, 1, 1), hand(3, 5, 1, 2)}, []api.Lie{lie(a, b)}, nil},
		{k, []api.Hand{withRun(a, run(2, 5, 9)), withRun(b, run(2, 5, 9)), withRun(a, run(1, 5, 60)), withRun(b, run(1, 5, 60))}, []api.Lie{lie(withRun(a, run(1, 5, 60)), withRun(b, run(1, 5, 60)))}, nil},
		{k, []api.Hand{withRun(a, run(1, 5, 61)), withRun(b, run(1, 5, 61)), withRun(a, run(1, 5, 60)), withRun(b, run(1, 5, 60))}, []api.Lie{lie(withRun(a, run(1, 5, 60)), withRun(b, run(1, 5, 60)))}, nil},
		{k, []api.Hand{withRun(a, run(0, 6, 60)), withRun(b, run(0, 6, 60)), withRun(a, run(1, 5, 61)), withRun(b, run(1, 5, 61))}, []api.Lie{lie(withRun(a, run(1, 5, 61)), withRun(b, run(1, 5, 61)))}, nil},
		{[]int{0, 2, -1, k[3]}, []api.Hand{a, b, other}, []api.Lie{lie(a, b)}, nil},
	} {
		l, e := Find(x.keys, x.l)
		m, f := Trust(x.keys, x.l)
		if e != api.OK || f != api.OK || !slices.Equal(l, x.lies) || !slices.Equal(m, x.trust) {
			t.Error(i, len(l), len(m), e, f)
		}
	}
	for i, x := range []struct {
		keys, hands int
		want        api.Errno
	}{{25, 0, api.ErrLimit}, {24, 4097, api.ErrLimit}, {24, 4096, api.OK}, {0, 4097, api.ErrLimit}} {
		l, e := Find(make([]int, x.keys), make([]api.Hand, x.hands))
		m, f := Trust(make([]int, x.keys), make([]api.Hand, x.hands))
		if e != x.want || f != x.want || len(l)+len(m) > 0 {
			t.Error(i, e, f)
		}
	}
}

func TestConsequences(t *testing.T) {
	r := rand.New(rand.NewSource(61))
	k := keys(4)
	for range 100 {
		l, honest := []api.Hand{}, map[slot]bool{}
		for range r.Intn(14) {
			h := hand(r.Intn(4), r.Intn(2), r.Intn(2), r.Intn(2))
			if h.From == 0 {
				// The office 0 signs one hand-over for each slot.
				if honest[slotOf(h)] {
					continue
				}
				honest[slotOf(h)] = true
			}
			if r.Intn(4) == 0 {
				h.Sig.E++
			}
			l = append(l, h)
		}
		fake := hand(0, 0, 0, 9)
		fake.Sig.S = 1
		l = append(l, fake)
		lies, _ := Find(k, l)
		trusted, _ := Trust(k, l)
		offices := map[int]slot{}
		for _, x := range lies {
			if !Check(k[x.A.From], x) || x.A.From == 0 {
				t.Error("a lie", x)
			}
			offices[x.A.From] = slotOf(x.A)
		}
		for i, a := range l {
			for _, b := range l[:i] {
				if a.From == b.From && Check(k[a.From], api.Lie{A: a, B: b}) {
					if _, ok := offices[a.From]; !ok {
						t.Error("an office is not found", a.From)
					}
				}
			}
		}
		again, _ := Trust(k, trusted)
		none, _ := Find(k, trusted)
		if !slices.Equal(again, trusted) || len(none) > 0 {
			t.Error("what is trusted has no lies")
		}
		r.Shuffle(len(l), func(i, k int) { l[i], l[k] = l[k], l[i] })
		other, _ := Find(k, append(l, hand(1, 0, 0, 5)))
		same, _ := Find(k, l)
		if len(same) != len(lies) || len(other) < len(lies) {
			t.Error("the order of the list", len(same), len(lies))
		}
		for _, x := range same {
			if offices[x.A.From] != slotOf(x.A) {
				t.Error("the slots do not depend on the order")
			}
		}
	}
}
