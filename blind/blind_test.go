package blind

import (
	"math"
	"math/rand"
	"testing"

	"franking/api"
	"franking/codec"
	"franking/group"
	"franking/sign"
)

func hash(point, key int, b []byte) int {
	l := []api.Value{{Kind: api.IntV, N: point}, {Kind: api.IntV, N: key}, {Kind: api.TextV, S: string(b)}}
	code, _ := codec.Encode(api.Value{Kind: api.ListV, L: l})
	return group.Hash("sign", code)
}

func TestBeginAnswer(t *testing.T) {
	if r, e := Begin(1); r != 4 || e != api.OK {
		t.Error(r, e)
	}
	for _, n := range []int{0, api.Q, -1, math.MinInt, math.MaxInt} {
		r, e1 := Begin(n)
		s, e2 := Answer(n, 5, 7)
		_, e3 := Answer(3, n, 7)
		if e1 != api.ErrKey || e2 != api.ErrKey || e3 != api.ErrKey || r != 0 || s != 0 {
			t.Error(n, e1, e2, e3)
		}
	}
	for _, x := range [][4]int{{3, 5, 7, 26}, {3, 5, -1, 2}, {3, 5, 0, 5}, {3, 5, api.Q, 5}, {1, 1, -1, 0}, {api.Q - 1, 1, 1, 0}} {
		if s, e := Answer(x[0], x[1], x[2]); s != x[3] || e != api.OK {
			t.Error(x, s, e)
		}
	}
	// -2^63 and 2^63 - 1 differ by 1 from each other's negatives.
	a, _ := Answer(1, 1, math.MinInt)
	b, _ := Answer(1, 1, math.MaxInt)
	if (a+b)%api.Q != 1 {
		t.Error(a, b)
	}
}

func TestAsk(t *testing.T) {
	key, r, b := 1024, pow(api.G, 77), []byte("b")
	for _, x := range [][2]int{{0, 0}, {5, 9}, {-5, -9}, {api.Q - 1, api.Q - 1}} {
		point := product(r, pow(api.G, x[0]), pow(key, x[1]))
		want := ((hash(point, key, b)+x[1])%api.Q + api.Q) % api.Q
		if c, e := Ask(key, r, b, x[0], x[1]); c != want || e != api.OK {
			t.Error(x, c, e)
		}
		if c, _ := Ask(key, r, b, x[0]+7*api.Q, x[1]-9*api.Q); c != want {
			t.Error(x, c, "multiples of Q")
		}
	}
	for _, x := range [][2]int{{2, 4}, {4, 2}, {0, 4}, {4, 0}, {api.P, 4}, {4, -1}} {
		c, e := Ask(x[0], x[1], nil, 0, 0)
		y, f := Finish(x[0], x[1], nil, 0, 0, 0)
		if c != 0 || e != api.ErrGroup || y != (api.Sig{}) || f != api.ErrGroup {
			t.Error(x, e, f)
		}
	}
}

// session is a conversation with a signer.
type session struct {
	b             []byte
	r, u, v, c, s int
	x             api.Sig
}

func sessions(t *testing.T, secret int) (l []session) {
	random := rand.New(rand.NewSource(24))
	key := pow(api.G, secret)
	for i := range 20 {
		nonce := 1 + random.Intn(api.Q-1)
		y := session{b: []byte{byte(i)}, u: int(random.Uint64()), v: int(random.Uint64())}
		var e api.Errno
		y.r, _ = Begin(nonce)
		if y.c, e = Ask(key, y.r, y.b, y.u, y.v); e != api.OK {
			t.Fatal(e)
		}
		y.s, _ = Answer(secret, nonce, y.c)
		if y.x, e = Finish(key, y.r, y.b, y.u, y.v, y.s); e != api.OK || !sign.Verify(key, y.b, y.x) {
			t.Fatal(e)
		}
		point := product(y.r, pow(api.G, y.u), pow(key, y.v))
		if y.x != (api.Sig{E: hash(point, key, y.b), S: reduce(y.s%api.Q + y.u%api.Q)}) {
			t.Error(y.x)
		}
		l = append(l, y)
	}
	return l
}

func TestFinish(t *testing.T) {
	secret := 424242
	key := pow(api.G, secret)
	for _, y := range sessions(t, secret) {
		if x, e := Finish(key, y.r, y.b, y.u, y.v, y.s+1); e != api.ErrBlind || x != (api.Sig{}) {
			t.Error(e)
		}
		if _, e := Finish(key, y.r, y.b, y.u, y.v+1, y.s); e != api.ErrBlind {
			t.Error(e)
		}
		if x, e := Finish(key, y.r, y.b, y.u%api.Q-api.Q, y.v%api.Q+api.Q, y.s-5*api.Q); e != api.OK || x != y.x {
			t.Error(e)
		}
	}
}

func TestLink(t *testing.T) {
	secret := 99
	key := pow(api.G, secret)
	l := sessions(t, secret)
	for _, a := range l {
		for _, b := range l {
			u, v, ok := Link(key, a.r, a.c, a.s, b.b, b.x)
			if !ok || u < 0 || u >= api.Q || v < 0 || v >= api.Q {
				t.Fatal(u, v, ok)
			}
			if c, _ := Ask(key, a.r, b.b, u, v); c != a.c {
				t.Error("another challenge")
			}
			if x, e := Finish(key, a.r, b.b, u, v, a.s); x != b.x || e != api.OK {
				t.Error("another signature", e)
			}
		}
		if u, v, ok := Link(key, a.r, a.c+3*api.Q, a.s-api.Q, a.b, a.x); !ok || u != reduce(a.u) || v != reduce(a.v) {
			t.Error(u, v, ok)
		}
		bad := api.Sig{E: a.x.E, S: a.x.S + api.Q}
		for i, ok := range []bool{
			third(Link(key, a.r, a.c+1, a.s, a.b, a.x)), third(Link(key, a.r, a.c, a.s+1, a.b, a.x)), third(Link(key, a.r, a.c, a.s, []byte("x"), a.x)),
			third(Link(key, a.r, a.c, a.s, a.b, bad)), third(Link(2, a.r, a.c, a.s, a.b, a.x)), third(Link(key, api.P-a.r, a.c, a.s, a.b, a.x)), third(Link(4, a.r, a.c, a.s, a.b, a.x)),
		} {
			if ok {
				t.Error(i)
			}
		}
	}
}

func third(u, v int, ok bool) bool { return ok || u != 0 || v != 0 }
