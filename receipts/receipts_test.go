package receipts

import (
	"math"
	"math/rand"
	"testing"

	"franking/api"
	"franking/codec"
	"franking/elgamal"
	"franking/onetime"
	"franking/sign"
)

func key(secret int) int {
	k, _ := elgamal.Public(secret)
	return k
}

func textOf(w api.Words) []byte {
	v := api.Value{Kind: api.ListV}
	for _, n := range w {
		v.L = append(v.L, api.Value{Kind: api.IntV, N: n})
	}
	b, _ := codec.Encode(v)
	return b
}

func TestReceipt(t *testing.T) {
	random := rand.New(rand.NewSource(50))
	for range 50 {
		secret, line := 1+random.Intn(api.Q-1), []int{1 + random.Intn(api.Q-1), 1 + random.Intn(api.Q-1)}
		joined, _ := elgamal.Join([]int{key(line[0]), key(line[1])})
		w := api.Words{1 + random.Intn(api.Q), 1 + random.Intn(api.Q), 1 + random.Intn(api.Q)}
		alias, n := 1+random.Intn(api.Q), random.Intn(api.Q)
		r := [3]int{random.Intn(api.Q), random.Intn(api.Q), -random.Intn(api.Q)}
		back, _ := onetime.Make(3, joined, alias, n)
		s, e := Make(secret, w, back, r)
		sig, _ := sign.Sign(secret, textOf(w))
		want, _ := elgamal.Seal(joined, api.Words{alias, sig.E + 1, sig.S + 1}, [3]int{n + r[0], r[1], r[2]})
		if e != api.OK || s != want {
			t.Fatal(s, want, e)
		}
		for _, k := range line {
			s, _ = elgamal.Strip(k, s)
		}
		x, _ := elgamal.Read(s)
		if !Check(key(secret), w, x) || x[0] != alias {
			t.Error(x)
		}
		other := w
		other[1] = other[1]%api.Q + 1
		if Check(key(secret), other, x) || Check(key(secret%(api.Q-1)+1), w, x) {
			t.Error("another letter, or another key")
		}
		first := x
		first[0] = -7
		if !Check(key(secret), w, first) {
			t.Error("the first word does not matter")
		}
		for i := 1; i < 3; i++ {
			for _, d := range []int{1, -1, api.Q, -api.Q} {
				y := x
				y[i] += d
				if Check(key(secret), w, y) {
					t.Error("another number", i, d)
				}
			}
		}
	}
}

func TestErrors(t *testing.T) {
	back, _ := onetime.Make(0, 4, 1, 1)
	good := api.Words{1, 1, 1}
	for i, x := range []struct {
		secret int
		w      api.Words
		back   api.Return
		want   api.Errno
	}{
		{0, api.Words{}, api.Return{}, api.ErrKey}, {api.Q, good, back, api.ErrKey}, {-1, good, back, api.ErrKey}, {5, api.Words{0, 1, 1}, back, api.ErrReceipt}, {5, api.Words{1, api.Q + 1, 1}, api.Return{}, api.ErrReceipt}, {5, api.Words{1, 1, -1}, back, api.ErrReceipt}, {5, api.Words{1, 1, math.MaxInt}, back, api.ErrReceipt},
		{5, good, api.Return{}, api.ErrReturn}, {5, good, back, api.OK}, {api.Q - 1, api.Words{api.Q, api.Q, api.Q}, back, api.OK},
	} {
		if s, e := Make(x.secret, x.w, x.back, [3]int{}); e != x.want || e != api.OK && s != (api.Sealed{}) {
			t.Error(i, e)
		}
	}
	for _, x := range []api.Words{{}, {1, math.MinInt, math.MinInt}, {1, math.MaxInt, math.MaxInt}, {1, 0, 1}} {
		if Check(2, x, x) || Check(4, x, x) || Check(0, x, x) {
			t.Error(x)
		}
	}
	// Words that are no words of a letter can be acknowledged as well.
	odd := api.Words{-5, 0, math.MaxInt}
	sig, _ := sign.Sign(5, textOf(odd))
	if !Check(1024, odd, api.Words{0, sig.E + 1, sig.S + 1}) {
		t.Error("any words")
	}
}
