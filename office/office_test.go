package office

import (
	"math"
	"math/rand"
	"reflect"
	"slices"
	"testing"

	"franking/api"
	"franking/chain"
	"franking/codec"
	"franking/digest"
	"franking/elgamal"
	"franking/equal"
	"franking/handover"
	"franking/shuffle"
)

func key(secret int) int {
	k, _ := elgamal.Public(secret)
	return k
}

func letters(r *rand.Rand, n, key int) (l []api.Sealed, words []api.Words) {
	for range n {
		w := api.Words{1 + r.Intn(api.Q), 1 + r.Intn(api.Q), 1 + r.Intn(api.Q)}
		s, _ := elgamal.Seal(key, w, [3]int{r.Intn(api.Q), r.Intn(api.Q), r.Intn(api.Q)})
		l, words = append(l, s), append(words, w)
	}
	return l, words
}

func turn(r *rand.Rand, n int) (t api.Turn) {
	t.Left, t.Right = r.Perm(n), r.Perm(n)
	for range n {
		t.RL, t.RR = append(t.RL, [3]int{r.Intn(api.Q), r.Intn(api.Q), r.Intn(api.Q)}), append(t.RR, [3]int{r.Intn(api.Q), r.Intn(api.Q), r.Intn(api.Q)})
		t.Salts = append(t.Salts, [2]api.Digest{digest.Sum([]byte{byte(r.Intn(256))}), digest.Sum([]byte{byte(r.Intn(256)), 1})})
	}
	return t
}

func hand(from int) api.Hand {
	return api.Hand{Run: api.Run{Line: 1, At: 5, Arrive: 9}, Leg: 0, From: from, To: 7, Time: 5}
}

func office(t *testing.T, no, secret int) api.Office {
	o, e := New(no, secret)
	if e != api.OK || Check(o) != api.OK {
		t.Fatal(e)
	}
	return o
}

func TestNewCheck(t *testing.T) {
	for i, x := range []struct {
		no, secret int
		want       api.Errno
	}{{24, 5, api.ErrOffice}, {-1, 5, api.ErrOffice}, {0, 0, api.ErrOffice}, {0, api.Q, api.ErrOffice}, {0, math.MinInt, api.ErrOffice}, {23, api.Q - 1, api.OK}, {0, 1, api.OK}} {
		o, e := New(x.no, x.secret)
		if e != x.want || e == api.OK && (o.No != x.no || o.Secret != x.secret || len(o.Chain)+len(o.Used) > 0) || e != api.OK && o.Secret != 0 {
			t.Error(i, e)
		}
	}
	links, _ := chain.Add(nil, 3, []byte("x"))
	full := []api.Digest{}
	for i := range 4097 {
		full = append(full, api.Digest{byte(i >> 8), byte(i)})
	}
	for i, x := range []struct {
		f  func(o *api.Office)
		ok bool
	}{
		{func(o *api.Office) {}, true}, {func(o *api.Office) { o.No = 24 }, false}, {func(o *api.Office) { o.Secret = 0 }, false}, {func(o *api.Office) { o.Chain = links }, true}, {func(o *api.Office) { o.No, o.Chain = 4, links }, false}, {func(o *api.Office) { o.Chain = make([]api.Link, 1) }, false}, {func(o *api.Office) { o.Chain = make([]api.Link, 1025) }, false},
		{func(o *api.Office) { o.Used = full[:4096] }, true}, {func(o *api.Office) { o.Used = full }, false}, {func(o *api.Office) { o.Used = []api.Digest{{1}, {1}} }, false}, {func(o *api.Office) { o.Used = []api.Digest{{2}, {1}} }, false},
	} {
		o := office(t, 3, 5)
		x.f(&o)
		_, _, e := Work(o, 4, hand(o.No), nil, api.Turn{})
		if (Check(o) == api.OK) != x.ok || !x.ok && (Check(o) != api.ErrOffice || e != api.ErrOffice) || x.ok && e != api.OK {
			t.Error(i, Check(o), e)
		}
	}
}

func TestErrors(t *testing.T) {
	r := rand.New(rand.NewSource(57))
	o := office(t, 3, 5)
	l, _ := letters(r, 65, 16)
	full := o
	for i := range 4095 {
		full.Used = append(full.Used, api.Digest{byte(i >> 8), byte(i)})
	}
	long := o
	for i := range 1024 {
		long.Chain = append(long.Chain, api.Link{Node: 3, No: i, Prev: chain.Head(long.Chain)})
	}
	seen, _, _ := Work(o, 4, hand(3), l[:1], turn(r, 1))
	twice := []api.Sealed{l[0], l[0]}
	odd := hand(3)
	odd.To = 3
	for i, x := range []struct {
		o    api.Office
		rest int
		h    api.Hand
		in   []api.Sealed
		t    api.Turn
		want api.Errno
	}{
		{o, 2, hand(4), l, api.Turn{}, api.ErrOffice}, {o, 2, odd, l, api.Turn{}, api.ErrOffice}, {o, 2, hand(3), l, api.Turn{}, api.ErrLimit}, {o, 2, hand(3), make([]api.Sealed, 1), api.Turn{}, api.ErrCipher}, {o, 2, hand(3), nil, api.Turn{}, api.ErrGroup}, {o, 4, hand(3), l[:2], turn(r, 1), api.ErrMix}, {o, 4, hand(3), twice, turn(r, 1), api.ErrMix},
		{o, 4, hand(3), twice, turn(r, 2), api.ErrSeen}, {seen, 4, hand(3), l[:2], turn(r, 2), api.ErrSeen}, {seen, 4, hand(3), l[1:3], turn(r, 2), api.OK}, {full, 4, hand(3), l[:1], turn(r, 1), api.OK}, {full, 4, hand(3), l[:2], turn(r, 2), api.ErrLimit}, {full, 4, hand(3), twice, turn(r, 2), api.ErrSeen}, {long, 4, hand(3), l[:1], turn(r, 1), api.ErrLimit}, {long, 4, hand(3), twice, turn(r, 2), api.ErrSeen},
		{o, 4, func() api.Hand { h := hand(3); h.Many = 99; return h }(), l[:1], turn(r, 1), api.OK}, {o, 4, hand(3), l[:64], turn(r, 64), api.OK},
	} {
		y, j, e := Work(x.o, x.rest, x.h, x.in, x.t)
		if e != x.want || e != api.OK && (y.Secret != 0 || len(j.Bare) > 0) {
			t.Error(i, e)
		}
	}
}

func seenDigest(s api.Sealed) api.Digest {
	v := api.Value{Kind: api.ListV}
	for _, c := range s {
		v.L = append(v.L, api.Value{Kind: api.IntV, N: c.A}, api.Value{Kind: api.IntV, N: c.B})
	}
	b, _ := codec.Encode(v)
	return digest.Tagged("seen", b)
}

func TestWork(t *testing.T) {
	r := rand.New(rand.NewSource(58))
	secret, rest := 12345, key(777)
	joined, _ := elgamal.Join([]int{key(secret), rest})
	o := office(t, 3, secret)
	for n := range 6 {
		in, words := letters(r, n, joined)
		x := turn(r, n)
		y, j, e := Work(o, rest, hand(3), in, x)
		if e != api.OK || Check(y) != api.OK {
			t.Fatal(e)
		}
		bare, proofs, _ := equal.Bare(secret, in)
		mix, _ := shuffle.Make(rest, bare, x)
		h := hand(3)
		h.Many, h.Root = n, handover.Root(mix.Out)
		h, _ = handover.Make(secret, h)
		if !slices.Equal(j.Bare, bare) || !slices.Equal(j.Proofs, proofs) || !reflect.DeepEqual(j.Mix.Out, mix.Out) || !reflect.DeepEqual(j.Mix.Left, mix.Left) || j.Hand != h {
			t.Error("the job", n)
		}
		if !slices.EqualFunc(y.Chain[:len(o.Chain)], o.Chain, func(a, b api.Link) bool { return a.Prev == b.Prev && string(a.Data) == string(b.Data) }) || len(y.Chain) != len(o.Chain)+1 || y.Chain[len(o.Chain)].Node != 3 {
			t.Error("the chain", n)
		}
		text := api.Value{Kind: api.ListV}
		for _, k := range []int{1, 5, 9, 0, 3, 7, n} {
			text.L = append(text.L, api.Value{Kind: api.IntV, N: k})
		}
		text.L = append(text.L, api.Value{Kind: api.TextV, S: string(h.Root[:])}, api.Value{Kind: api.IntV, N: 5})
		if b, _ := codec.Encode(text); string(y.Chain[len(o.Chain)].Data) != string(b) {
			t.Error("the record", n)
		}
		if len(y.Used) != len(o.Used)+n {
			t.Error("the digests", n)
		}
		for _, s := range in {
			if !slices.Contains(y.Used, seenDigest(s)) {
				t.Error("a digest is missing")
			}
		}
		perm, _ := shuffle.Trace(x)
		for i, w := range words {
			s, _ := elgamal.Strip(777, j.Mix.Out[perm[i]])
			if got, _ := elgamal.Read(s); got != w {
				t.Error("a letter was changed", i)
			}
		}
		for bits := range 1 << n {
			b := []int{}
			for i := range n {
				b = append(b, bits>>i&1)
			}
			l, _ := shuffle.Open(x, b)
			if why := Judge(key(secret), rest, in, j, b, l); why != 0 {
				t.Error("honest work", why)
			}
		}
		if n > 0 {
			if _, _, e := Work(y, rest, hand(3), in[:1], turn(r, 1)); e != api.ErrSeen {
				t.Error("a batch again", e)
			}
		}
		o = y
	}
}

func TestJudge(t *testing.T) {
	r := rand.New(rand.NewSource(59))
	secret, rest, n := 5, key(9), 3
	joined, _ := elgamal.Join([]int{key(secret), rest})
	in, _ := letters(r, n, joined)
	other, _ := letters(r, n, rest)
	x := turn(r, n)
	_, good, _ := Work(office(t, 3, secret), rest, hand(3), in, x)
	ones := []int{1, 1, 1}
	right, _ := shuffle.Open(x, ones)
	zeros := []int{0, 0, 0}
	left, _ := shuffle.Open(x, zeros)
	resign := func(j *api.Job) {
		j.Hand.Many, j.Hand.Root = len(j.Mix.Out), handover.Root(j.Mix.Out)
		j.Hand, _ = handover.Make(secret, j.Hand)
	}
	replace := func(j *api.Job) {
		j.Mix.Out = slices.Clone(j.Mix.Out)
		j.Mix.Out[1] = other[0]
		resign(j)
	}
	for i, y := range []struct {
		f           func(j *api.Job)
		right, left int
	}{
		{func(j *api.Job) {}, 0, 0}, {func(j *api.Job) { *j = api.Job{} }, api.BareY, api.BareY}, {func(j *api.Job) { j.Bare = other }, api.BareY, api.BareY}, {func(j *api.Job) { j.Proofs = j.Proofs[:2] }, api.BareY, api.BareY},
		{func(j *api.Job) { j.Mix.In = other }, api.MixY, api.MixY}, {replace, api.MixY, 0}, {func(j *api.Job) { j.Mix = api.Mix{} }, api.MixY, api.MixY}, {func(j *api.Job) { j.Mix.Mid = other }, api.MixY, api.MixY},
		{func(j *api.Job) { j.Hand.Time++ }, api.HandY, api.HandY}, {func(j *api.Job) { j.Hand.Many++; j.Hand, _ = handover.Make(secret, j.Hand) }, api.HandY, api.HandY}, {func(j *api.Job) { j.Hand.Root[0]++; j.Hand, _ = handover.Make(secret, j.Hand) }, api.HandY, api.HandY}, {func(j *api.Job) { j.Hand = api.Hand{} }, api.HandY, api.HandY},
		{func(j *api.Job) { j.Hand.Time++; resign(j) }, 0, 0},
	} {
		j := good
		y.f(&j)
		if a, b := Judge(key(secret), rest, in, j, ones, right), Judge(key(secret), rest, in, j, zeros, left); a != y.right || b != y.left {
			t.Error(i, a, b)
		}
	}
	for i, why := range []int{
		Judge(key(6), rest, in, good, ones, right), Judge(key(secret), rest, other, good, ones, right), Judge(2, rest, in, good, ones, right), Judge(key(secret), rest, in[:2], good, ones, right),
	} {
		if why != api.BareY {
			t.Error(i, why)
		}
	}
	for i, why := range []int{
		Judge(key(secret), key(8), in, good, ones, right), Judge(key(secret), rest, in, good, zeros, right), Judge(key(secret), rest, in, good, ones, right[:2]), Judge(key(secret), 2, in, good, ones, right), Judge(key(secret), rest, in, good, []int{1, 1, 7}, right),
	} {
		if why != api.MixY {
			t.Error(i, why)
		}
	}
	if why := Judge(4, 4, nil, api.Job{}, nil, nil); why != api.HandY {
		t.Error(why)
	}
}
