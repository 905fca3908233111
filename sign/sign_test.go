package sign

import (
	"math"
	"math/big"
	"math/rand"
	"testing"

	"franking/api"
	"franking/codec"
	"franking/group"
)

func pow(a, n int) int {
	c, e := group.Pow(a, n)
	if e != api.OK {
		panic(e)
	}
	return c
}

func encode(b []byte, l ...int) []byte {
	v := api.Value{Kind: api.ListV}
	for _, n := range l {
		v.L = append(v.L, api.Value{Kind: api.IntV, N: n})
	}
	v.L = append(v.L, api.Value{Kind: api.TextV, S: string(b)})
	x, _ := codec.Encode(v)
	return x
}

func TestSign(t *testing.T) {
	r := rand.New(rand.NewSource(13))
	for i := range 200 {
		secret := 1 + r.Intn(api.Q-1)
		if i < 2 {
			secret = []int{1, api.Q - 1}[i]
		}
		b := []byte("text")[:i%5]
		s, e := Sign(secret, b)
		key := pow(api.G, secret)
		k := max(group.Hash("nonce", encode(b, secret)), 1)
		wantE := group.Hash("sign", encode(b, pow(api.G, k), key))
		wantS := (k + wantE*secret) % api.Q
		if e != api.OK || s != (api.Sig{E: wantE, S: wantS}) || !Verify(key, b, s) {
			t.Error(secret, s, e)
		}
		if again, _ := Sign(secret, b); again != s {
			t.Error("equal calls")
		}
		if Verify(key, append([]byte("x"), b...), s) || Verify(pow(key, 2), b, s) {
			t.Error("another text, or another key")
		}
		for _, x := range []api.Sig{{E: s.E + 1, S: s.S}, {E: s.E, S: s.S + 1}, {E: s.E, S: s.S + api.Q}, {E: s.E, S: s.S - api.Q}, {E: s.E + api.Q, S: s.S}, {E: s.E - api.Q, S: s.S}, {E: math.MinInt, S: math.MaxInt}} {
			if Verify(key, b, x) {
				t.Error(x)
			}
		}
	}
	for _, secret := range []int{0, api.Q, -1, math.MinInt, math.MaxInt} {
		if s, e := Sign(secret, nil); s != (api.Sig{}) || e != api.ErrKey {
			t.Error(secret, s, e)
		}
	}
}

// TestNoElement makes signatures that would be right, but for a key that is no element.
func TestNoElement(t *testing.T) {
	for _, key := range []int{0, 2, -4, api.P, api.P - 1, math.MaxInt} {
		for n := range 50 {
			point := pow(api.G, n)
			x := group.Hash("sign", encode(nil, point, key))
			if Verify(key, nil, api.Sig{E: x, S: n}) {
				t.Error(key, n)
			}
		}
	}
	if key := pow(api.G, 5); key != 1024 || Verify(1024, nil, api.Sig{S: api.Q}) {
		t.Error(key)
	}
}

// TestKeyOne: numbers at the ends of the range are right.
func TestKeyOne(t *testing.T) {
	// For the key 1 any S can be chosen: the point is G to the power of S alone.
	for _, n := range []int{0, api.Q - 1} {
		x := api.Sig{E: group.Hash("sign", encode([]byte("b"), pow(api.G, n), 1)), S: n}
		if !Verify(1, []byte("b"), x) {
			t.Error(n)
		}
	}
}

// TestSecret: two signatures with one point and different E give away the secret.
func TestSecret(t *testing.T) {
	secret, k := 123456, 98765
	key, point := pow(api.G, secret), pow(api.G, k)
	sig := func(b string) api.Sig {
		e := group.Hash("sign", encode([]byte(b), point, key))
		return api.Sig{E: e, S: (k + e*secret) % api.Q}
	}
	a, b := sig("a"), sig("b")
	if !Verify(key, []byte("a"), a) || !Verify(key, []byte("b"), b) || a.E == b.E {
		t.Fatal("signatures")
	}
	q := big.NewInt(api.Q)
	inverse := new(big.Int).ModInverse(big.NewInt(int64(a.E-b.E)), q)
	got := new(big.Int).Mod(new(big.Int).Mul(big.NewInt(int64(a.S-b.S)), inverse), q)
	if got.Int64() != int64(secret) {
		t.Error(got)
	}
}
