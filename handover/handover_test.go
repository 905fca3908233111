package handover

import (
	"math"
	"math/rand"
	"slices"
	"testing"

	"franking/api"
	"franking/codec"
	"franking/elgamal"
	"franking/merkle"
	"franking/sign"
)

func numbers(l ...int) (v []api.Value) {
	for _, n := range l {
		v = append(v, api.Value{Kind: api.IntV, N: n})
	}
	return v
}

func encode(l []api.Value) []byte {
	b, _ := codec.Encode(api.Value{Kind: api.ListV, L: l})
	return b
}

func hand() api.Hand {
	return api.Hand{Run: api.Run{Line: 3, At: 10, Arrive: 50}, Leg: 2, From: 5, To: 7, Many: 4, Root: api.Digest{1, 2}, Time: 20}
}

// changes are changes of a hand-over, and whether it is in form afterwards.
func changes() []struct {
	f  func(h *api.Hand)
	ok bool
} {
	return []struct {
		f  func(h *api.Hand)
		ok bool
	}{
		{func(h *api.Hand) { h.Run.Line = -1 }, false}, {func(h *api.Hand) { h.Run.Line = 64 }, false}, {func(h *api.Hand) { h.Run.Line = 63 }, true}, {func(h *api.Hand) { h.Run.At = -1 }, false}, {func(h *api.Hand) { h.Run.At = api.End }, false}, {func(h *api.Hand) { h.Run.At = api.End - 1 }, true}, {func(h *api.Hand) { h.Run.Arrive = -1 }, false}, {func(h *api.Hand) { h.Run.Arrive = api.End }, false}, {func(h *api.Hand) { h.Run.Arrive = 0 }, true},
		{func(h *api.Hand) { h.Leg = -1 }, false}, {func(h *api.Hand) { h.Leg = 9 }, false}, {func(h *api.Hand) { h.Leg = 8 }, true}, {func(h *api.Hand) { h.From = -1 }, false}, {func(h *api.Hand) { h.From = 24 }, false}, {func(h *api.Hand) { h.From = 23 }, true}, {func(h *api.Hand) { h.From = 7 }, false},
		{func(h *api.Hand) { h.To = -1 }, true}, {func(h *api.Hand) { h.To = -2 }, false}, {func(h *api.Hand) { h.To = 24 }, false}, {func(h *api.Hand) { h.To = 23 }, true}, {func(h *api.Hand) { h.Many = -1 }, false}, {func(h *api.Hand) { h.Many = 65 }, false}, {func(h *api.Hand) { h.Many = 64 }, true}, {func(h *api.Hand) { h.Many = 0 }, true},
		{func(h *api.Hand) { h.Time = -1 }, false}, {func(h *api.Hand) { h.Time = api.End }, false}, {func(h *api.Hand) { h.Time = math.MaxInt }, false}, {func(h *api.Hand) { h.Time = 0 }, true}, {func(h *api.Hand) { h.Root = api.Digest{} }, true},
	}
}

func TestRoot(t *testing.T) {
	if Root(nil) != merkle.Root(nil) {
		t.Error("no letters")
	}
	r := rand.New(rand.NewSource(56))
	l, leaves := []api.Sealed{}, [][]byte{}
	for range 20 {
		s := api.Sealed{{A: int(r.Uint64()), B: -1}, {A: r.Intn(9), B: 2}, {A: 3, B: r.Intn(1 << 31)}}
		l = append(l, s)
		leaves = append(leaves, encode(numbers(s[0].A, s[0].B, s[1].A, s[1].B, s[2].A, s[2].B)))
		if Root(l) != merkle.Root(leaves) {
			t.Error(len(l))
		}
	}
	other := slices.Clone(l)
	other[3], other[4] = other[4], other[3]
	if Root(other) == Root(l) {
		t.Error("the order of the letters")
	}
}

func TestMake(t *testing.T) {
	key, _ := elgamal.Public(77)
	h := hand()
	text := append(append(numbers(3, 10, 50, 2, 5, 7, 4), api.Value{Kind: api.TextV, S: string(h.Root[:])}), numbers(20)...)
	want := h
	want.Sig, _ = sign.Sign(77, encode(text))
	x, e := Make(77, h)
	if x != want || e != api.OK || !Check(key, x) || Check(4, x) || Check(2, x) || Check(key, h) {
		t.Error(x, e)
	}
	if y, _ := Make(77, x); y != x {
		t.Error("making it again changes nothing")
	}
	for i, c := range changes() {
		y := hand()
		c.f(&y)
		z, e := Make(77, y)
		if c.ok != (e == api.OK) || c.ok != Check(key, z) || !c.ok && (e != api.ErrHand || z != (api.Hand{})) {
			t.Error(i, e)
		}
		y.Sig = x.Sig
		if Check(key, y) {
			t.Error(i, "another hand-over with the same signature")
		}
	}
	for _, secret := range []int{0, api.Q, -1} {
		if z, e := Make(secret, api.Hand{Leg: -1}); e != api.ErrKey || z != (api.Hand{}) {
			t.Error(secret, e)
		}
	}
	// A signature of the text does not help what is not in form.
	odd := hand()
	odd.To = odd.From
	odd.Sig, _ = sign.Sign(77, textOf(odd))
	if Check(key, odd) {
		t.Error("not in form")
	}
}

func TestClash(t *testing.T) {
	h := hand()
	for i, x := range []struct {
		f  func(h *api.Hand)
		ok bool
	}{
		{func(h *api.Hand) {}, false}, {func(h *api.Hand) { h.Sig = api.Sig{E: 1, S: 2} }, false}, {func(h *api.Hand) { h.To = -1 }, true}, {func(h *api.Hand) { h.Many = 5 }, true}, {func(h *api.Hand) { h.Root[31]++ }, true}, {func(h *api.Hand) { h.Time++ }, true}, {func(h *api.Hand) { h.Time++; h.Sig.E = 4 }, true},
		{func(h *api.Hand) { h.Time++; h.Run.At++ }, false}, {func(h *api.Hand) { h.Time++; h.Run.Line++ }, false}, {func(h *api.Hand) { h.Time++; h.Run.Arrive++ }, false}, {func(h *api.Hand) { h.Time++; h.Leg++ }, false}, {func(h *api.Hand) { h.Time++; h.From++ }, false},
		{func(h *api.Hand) { h.Time = -1 }, false}, {func(h *api.Hand) { h.Many = 65 }, false}, {func(h *api.Hand) { h.To = h.From }, false},
	} {
		y := hand()
		x.f(&y)
		if Clash(h, y) != x.ok || Clash(y, h) != x.ok {
			t.Error(i)
		}
		if z := hand(); Clash(h, y) {
			z.Time = 99
			if !Clash(z, h) && !Clash(z, y) {
				t.Error(i, "a third hand-over")
			}
		}
	}
	odd := hand()
	odd.Leg = 9
	other := odd
	other.Time++
	if Clash(odd, other) {
		t.Error("not in form")
	}
}
