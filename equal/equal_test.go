package equal

import (
	"math"
	"math/big"
	"math/rand"
	"slices"
	"testing"

	"franking/api"
	"franking/codec"
	"franking/elgamal"
	"franking/group"
)

func number(tag string, l ...int) int {
	v := api.Value{Kind: api.ListV}
	for _, n := range l {
		v.L = append(v.L, api.Value{Kind: api.IntV, N: n})
	}
	b, _ := codec.Encode(v)
	return group.Hash(tag, b)
}

func TestProve(t *testing.T) {
	r := rand.New(rand.NewSource(14))
	for i := range 100 {
		secret, a := 1+r.Intn(api.Q-1), pow(api.G, r.Intn(api.Q))
		if i < 2 {
			secret = []int{1, api.Q - 1}[i]
		}
		key := pow(api.G, secret)
		d, p, e := Prove(secret, a)
		k := max(number("equal nonce", secret, a), 1)
		x := number("equal", key, a, pow(a, secret), pow(api.G, k), pow(a, k))
		if e != api.OK || d != pow(a, secret) || p != (api.Equal{E: x, S: (k + x*secret) % api.Q}) || !Check(key, a, d, p) {
			t.Error(secret, a, e)
		}
		for _, q := range []api.Equal{{E: p.E + 1, S: p.S}, {E: p.E, S: p.S + 1}, {E: p.E + api.Q, S: p.S}, {E: p.E, S: p.S + api.Q}, {E: p.E, S: p.S - api.Q}, {E: p.E - api.Q, S: p.S}, {E: math.MaxInt, S: math.MinInt}} {
			if Check(key, a, d, q) {
				t.Error(q)
			}
		}
		if Check(pow(key, 2), a, d, p) || Check(key, pow(a, 2), d, p) || Check(key, a, pow(d, 2), p) {
			t.Error("another statement")
		}
	}
	for _, x := range []struct {
		secret, a int
		want      api.Errno
	}{{0, api.G, api.ErrKey}, {api.Q, api.G, api.ErrKey}, {-1, 2, api.ErrKey}, {1, 2, api.ErrGroup}, {1, 0, api.ErrGroup}, {5, api.P + 4, api.ErrGroup}} {
		if d, p, e := Prove(x.secret, x.a); e != x.want || d != 0 || p != (api.Equal{}) {
			t.Error(x, e)
		}
	}
	for _, x := range [][3]int{{0, 1, 1}, {1, 0, 1}, {1, 1, 0}, {2, 1, 1}, {1, 2, 1}, {1, 1, 2}} {
		for s := range 20 {
			if Check(x[0], x[1], x[2], api.Equal{E: 0, S: s}) {
				t.Error(x)
			}
		}
	}
}

// TestSound calculates the exponent from two proofs that commit to the same.
func TestSound(t *testing.T) {
	secret, k := 777, 888
	s := func(e int) int { return (k + e*secret) % api.Q }
	q := big.NewInt(api.Q)
	inverse := new(big.Int).ModInverse(big.NewInt(5-9), q)
	x := new(big.Int).Mod(new(big.Int).Mul(big.NewInt(int64(s(5)-s(9))), inverse), q)
	if x.Int64() != int64(secret) {
		t.Error(x)
	}
}

func letters(r *rand.Rand, n, key int) ([]api.Sealed, []api.Words) {
	l, words := []api.Sealed{}, []api.Words{}
	for range n {
		w := api.Words{1 + r.Intn(api.Q), 1 + r.Intn(api.Q), 1 + r.Intn(api.Q)}
		s, _ := elgamal.Seal(key, w, [3]int{r.Intn(api.Q), r.Intn(api.Q), r.Intn(api.Q)})
		l, words = append(l, s), append(words, w)
	}
	return l, words
}

func TestBare(t *testing.T) {
	r := rand.New(rand.NewSource(15))
	secrets := []int{12, 345, 6789}
	keys := []int{}
	for _, s := range secrets {
		keys = append(keys, pow(api.G, s))
	}
	key, _ := elgamal.Join(keys)
	l, words := letters(r, 5, key)
	for i, s := range secrets {
		x, proofs, e := Bare(s, l)
		if e != api.OK || !CheckBare(keys[i], l, x, proofs) || CheckBare(keys[(i+1)%3], l, x, proofs) {
			t.Error(i, e)
		}
		for k := range l {
			want, _ := elgamal.Strip(s, l[k])
			if x[k] != want {
				t.Error(i, k)
			}
			for c := range 3 {
				if _, p, _ := Prove(s, l[k][c].A); p != proofs[k][c] {
					t.Error(i, k, c)
				}
			}
		}
		l = x
	}
	for k, s := range l {
		if w, _ := elgamal.Read(s); w != words[k] {
			t.Error(k, w)
		}
	}
}

func TestBareErrors(t *testing.T) {
	r := rand.New(rand.NewSource(16))
	l, _ := letters(r, 65, 4)
	for i, x := range []struct {
		secret int
		l      []api.Sealed
		want   api.Errno
	}{{0, make([]api.Sealed, 65), api.ErrKey}, {api.Q, nil, api.ErrKey}, {1, make([]api.Sealed, 65), api.ErrLimit}, {1, make([]api.Sealed, 1), api.ErrCipher}, {1, l, api.ErrLimit}, {1, l[:64], api.OK}, {1, nil, api.OK}} {
		y, p, e := Bare(x.secret, x.l)
		if e != x.want || len(y) != len(p) || e != api.OK && len(y) > 0 || e == api.OK && len(y) != len(x.l) {
			t.Error(i, e)
		}
	}
	x, proofs := []api.Sealed{}, [][3]api.Equal{}
	for _, s := range l {
		y, p, _ := Bare(1, []api.Sealed{s})
		x, proofs = append(x, y[0]), append(proofs, p[0])
	}
	if CheckBare(4, l, x, proofs) || !CheckBare(4, l[:64], x[:64], proofs[:64]) {
		t.Error("65 letters")
	}
	l, x, proofs = l[:3], x[:3], proofs[:3]
	for i := range 3 {
		for c := range 3 {
			a, b, p, in := slices.Clone(x), slices.Clone(x), slices.Clone(proofs), slices.Clone(l)
			a[i][c].B = mul(a[i][c].B, 4)
			b[i][c].A = mul(b[i][c].A, 4)
			p[i][c].S++
			in[i][c].A = mul(in[i][c].A, 4)
			if CheckBare(4, l, a, proofs) || CheckBare(4, l, b, proofs) || CheckBare(4, l, x, p) || CheckBare(4, in, x, proofs) {
				t.Error(i, c)
			}
		}
	}
	bad := slices.Clone(l)
	bad[1][1].B = 2
	if CheckBare(4, l[:2], x, proofs) || CheckBare(4, l, x[:2], proofs) || CheckBare(4, l, x, proofs[:2]) || CheckBare(4, bad, x, proofs) || CheckBare(4, l, bad, proofs) || CheckBare(2, nil, nil, nil) || CheckBare(0, nil, nil, nil) {
		t.Error("form")
	}
	if !CheckBare(1, nil, nil, nil) || !CheckBare(4, []api.Sealed{}, nil, [][3]api.Equal{}) {
		t.Error("no letters")
	}
}

// TestCommitted: with another d the same numbers commit to something else.
func TestCommitted(t *testing.T) {
	r := rand.New(rand.NewSource(78))
	for range 50 {
		a, s, e := pow(api.G, r.Intn(api.Q)), r.Intn(api.Q), 1+r.Intn(api.Q-1)
		d, other := pow(api.G, r.Intn(api.Q)), pow(api.G, r.Intn(api.Q))
		if d != other && mul(pow(a, s), pow(d, -e)) == mul(pow(a, s), pow(other, -e)) {
			t.Error(a, s, e)
		}
	}
}
