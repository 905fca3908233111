package shuffle

import (
	"math"
	"math/rand"
	"slices"
	"testing"

	"franking/api"
	"franking/codec"
	"franking/digest"
	"franking/elgamal"
)

func numbers(r *rand.Rand) [3]int {
	return [3]int{r.Int() - r.Int(), r.Intn(api.Q), r.Intn(api.Q)}
}

func letters(r *rand.Rand, n, key int) (l []api.Sealed) {
	for range n {
		s, _ := elgamal.Seal(key, api.Words{1 + r.Intn(api.Q), 1 + r.Intn(api.Q), 1 + r.Intn(api.Q)}, numbers(r))
		l = append(l, s)
	}
	return l
}

func turn(r *rand.Rand, n int) (t api.Turn) {
	t.Left, t.Right = r.Perm(n), r.Perm(n)
	for range n {
		t.RL, t.RR = append(t.RL, numbers(r)), append(t.RR, numbers(r))
		t.Salts = append(t.Salts, [2]api.Digest{digest.Sum([]byte{byte(r.Intn(256)), byte(r.Intn(256))}), digest.Sum([]byte{byte(r.Intn(256))})})
	}
	return t
}

func bits(r *rand.Rand, n int) (l []int) {
	for range n {
		l = append(l, r.Intn(2))
	}
	return l
}

func opposite(bits []int) (l []int) {
	for _, b := range bits {
		l = append(l, 1-b)
	}
	return l
}

func commit(tag string, at int, r [3]int, salt api.Digest) api.Digest {
	v := api.Value{Kind: api.ListV}
	for _, n := range []int{at, r[0], r[1], r[2]} {
		v.L = append(v.L, api.Value{Kind: api.IntV, N: n})
	}
	v.L = append(v.L, api.Value{Kind: api.TextV, S: string(salt[:])})
	b, _ := codec.Encode(v)
	return digest.Tagged(tag, b)
}

func TestMake(t *testing.T) {
	r := rand.New(rand.NewSource(17))
	for n := range 9 {
		in, x := letters(r, n, 64), turn(r, n)
		m, e := Make(64, in, x)
		if e != api.OK || !slices.Equal(m.In, in) || len(m.Mid) != n || len(m.Out) != n || len(m.Left) != n || len(m.Right) != n {
			t.Fatal(n, e)
		}
		perm, e := Trace(x)
		for j := range n {
			mid, _ := elgamal.Again(64, in[x.Left[j]], x.RL[j])
			out, _ := elgamal.Again(64, mid, x.RR[j])
			if m.Mid[j] != mid || m.Out[x.Right[j]] != out || perm[x.Left[j]] != x.Right[j] || e != api.OK {
				t.Error(n, j)
			}
			if m.Left[j] != commit("left", x.Left[j], x.RL[j], x.Salts[j][0]) || m.Right[j] != commit("right", x.Right[j], x.RR[j], x.Salts[j][1]) {
				t.Error(n, j, "commitments")
			}
		}
	}
	if perm, e := Trace(api.Turn{Left: []int{1, 0}, Right: []int{0, 1}, RL: make([][3]int, 2), RR: make([][3]int, 2), Salts: make([][2]api.Digest, 2)}); e != api.OK || !slices.Equal(perm, []int{1, 0}) {
		t.Error(perm, e)
	}
}

func TestErrors(t *testing.T) {
	r := rand.New(rand.NewSource(18))
	l, good := letters(r, 65, 4), turn(r, 2)
	for i, x := range []struct {
		key  int
		l    []api.Sealed
		t    api.Turn
		want api.Errno
	}{
		{2, make([]api.Sealed, 65), api.Turn{}, api.ErrGroup}, {0, nil, api.Turn{}, api.ErrGroup}, {4, make([]api.Sealed, 65), api.Turn{}, api.ErrLimit}, {4, l, turn(r, 65), api.ErrLimit},
		{4, make([]api.Sealed, 2), api.Turn{}, api.ErrCipher}, {4, l[:2], api.Turn{}, api.ErrMix}, {4, l[:3], good, api.ErrMix}, {4, nil, api.Turn{}, api.OK}, {4, l[:64], turn(r, 64), api.OK},
	} {
		if m, e := Make(x.key, x.l, x.t); e != x.want || e != api.OK && len(m.In) > 0 {
			t.Error(i, e)
		}
	}
	for i, f := range []func(x *api.Turn){
		func(x *api.Turn) { x.Left = []int{0, 0} },
		func(x *api.Turn) { x.Left = []int{0, 2} },
		func(x *api.Turn) { x.Left = []int{-1, 0} },
		func(x *api.Turn) { x.Right = []int{1, 1} },
		func(x *api.Turn) { x.Right = []int{1, math.MaxInt} },
		func(x *api.Turn) { x.Right = []int{0} },
		func(x *api.Turn) { x.RL = x.RL[:1] },
		func(x *api.Turn) { x.RR = append(x.RR, [3]int{}) },
		func(x *api.Turn) { x.Salts = nil },
	} {
		x := good
		f(&x)
		_, e1 := Make(4, l[:2], x)
		o, e2 := Open(x, []int{0, 7})
		p, e3 := Trace(x)
		if e1 != api.ErrMix || e2 != api.ErrMix || e3 != api.ErrMix || len(o)+len(p) > 0 {
			t.Error(i, e1, e2, e3)
		}
	}
	if _, e := Trace(turn(r, 65)); e != api.ErrMix {
		t.Error(e)
	}
	if _, e := Open(api.Turn{}, []int{1}); e != api.ErrMix {
		t.Error(e)
	}
	for _, b := range []int{2, -1, math.MinInt} {
		if o, e := Open(good, []int{0, b}); e != api.ErrArg || len(o) > 0 {
			t.Error(b, e)
		}
	}
}

func TestCheck(t *testing.T) {
	r := rand.New(rand.NewSource(19))
	for range 40 {
		n := r.Intn(6)
		in, x, b := letters(r, n, 64), turn(r, n), bits(r, n)
		m, _ := Make(64, in, x)
		l, e := Open(x, b)
		o, f := Open(x, opposite(b))
		if e != api.OK || f != api.OK || !Check(64, m, b, l) || !Check(64, m, opposite(b), o) || n > 0 && Check(64, m, b, o) || n > 0 && Check(4, m, b, l) {
			t.Fatal(n, e, f)
		}
		perm, ok := Whole(b, l, o)
		want, _ := Trace(x)
		if !ok || !slices.Equal(perm, want) {
			t.Error(perm, ok)
		}
		zeros, ones := make([]int, n), opposite(make([]int, n))
		left, _ := Open(x, zeros)
		right, _ := Open(x, ones)
		if perm, ok := Whole(zeros, left, right); !ok || !slices.Equal(perm, want) || !Check(64, m, zeros, left) || !Check(64, m, ones, right) {
			t.Error(perm, ok)
		}
	}
}

func TestNoticed(t *testing.T) {
	r := rand.New(rand.NewSource(20))
	n := 4
	in, x := letters(r, n, 64), turn(r, n)
	m, _ := Make(64, in, x)
	zeros, ones := make([]int, n), opposite(make([]int, n))
	left, _ := Open(x, zeros)
	right, _ := Open(x, ones)
	other := letters(r, 1, 64)[0]
	for j := range n {
		y := m
		y.Out = slices.Clone(m.Out)
		y.Out[x.Right[j]] = other
		if Check(64, y, ones, right) || !Check(64, y, zeros, left) {
			t.Error("a letter of Out that was replaced", j)
		}
		y = m
		y.In = slices.Clone(m.In)
		y.In[x.Left[j]] = other
		if Check(64, y, zeros, left) || !Check(64, y, ones, right) {
			t.Error("a letter of In that was replaced", j)
		}
		y = m
		y.Mid = slices.Clone(m.Mid)
		y.Mid[j] = other
		if Check(64, y, zeros, left) || Check(64, y, ones, right) {
			t.Error("a letter of Mid that was replaced", j)
		}
		for _, f := range []func(o *api.Opened){
			func(o *api.Opened) { o.At = (o.At + 1) % n }, func(o *api.Opened) { o.At += n }, func(o *api.Opened) { o.At = -1 },
			func(o *api.Opened) { o.R[2]++ }, func(o *api.Opened) { o.R[1] += api.Q }, func(o *api.Opened) { o.Salt[0]++ },
		} {
			a, b := slices.Clone(left), slices.Clone(right)
			f(&a[j])
			f(&b[j])
			if Check(64, m, zeros, a) || Check(64, m, ones, b) {
				t.Error("another opening", j)
			}
		}
	}
}

func TestForm(t *testing.T) {
	r := rand.New(rand.NewSource(21))
	in, x := letters(r, 2, 64), turn(r, 2)
	m, _ := Make(64, in, x)
	b := []int{0, 1}
	l, _ := Open(x, b)
	for i, f := range []func(m *api.Mix){
		func(m *api.Mix) { m.In = m.In[:1] }, func(m *api.Mix) { m.Mid = m.Mid[:1] }, func(m *api.Mix) { m.Out = m.Out[:1] },
		func(m *api.Mix) { m.Left = m.Left[:1] }, func(m *api.Mix) { m.Right = nil },
		func(m *api.Mix) { m.In = append(m.In[:2:2], m.In[0]) },
		// The half of the letter 0 that is opened is the left one, so that these are not looked at by it.
		func(m *api.Mix) { m.Out = slices.Clone(m.Out); m.Out[1-x.Right[1]] = api.Sealed{} },
		func(m *api.Mix) { m.In = slices.Clone(m.In); m.In[1-x.Left[0]] = api.Sealed{} },
	} {
		y := m
		f(&y)
		if Check(64, y, b, l) {
			t.Error(i)
		}
	}
	if Check(64, m, b[:1], l) || Check(64, m, b, l[:1]) || Check(64, m, []int{0, 2}, l) || Check(2, m, b, l) || Check(0, api.Mix{}, nil, nil) || Check(2, api.Mix{}, nil, nil) {
		t.Error("form")
	}
	if !Check(4, api.Mix{}, nil, nil) || !Check(1, api.Mix{}, []int{}, []api.Opened{}) {
		t.Error("no letters")
	}
	m, _ = Make(64, letters(r, 64, 64), turn(r, 64))
	m.In, m.Mid, m.Out, m.Left, m.Right = append(m.In, m.In[0]), append(m.Mid, m.Mid[0]), append(m.Out, m.Out[0]), append(m.Left, m.Left[0]), append(m.Right, m.Right[0])
	if Check(64, m, make([]int, 65), make([]api.Opened, 65)) {
		t.Error("65 letters")
	}
}

// TestTwice makes a mix in which two letters of Mid come from one of In: each half fits, but the place is there twice.
func TestTwice(t *testing.T) {
	r := rand.New(rand.NewSource(22))
	in, x := letters(r, 2, 64), turn(r, 2)
	m, _ := Make(64, in, x)
	j, k := 0, 1
	m.Mid[k], _ = elgamal.Again(64, in[x.Left[j]], x.RL[k])
	m.Out[x.Right[k]], _ = elgamal.Again(64, m.Mid[k], x.RR[k])
	m.Left[k] = commit("left", x.Left[j], x.RL[k], x.Salts[k][0])
	twin := api.Opened{At: x.Left[j], R: x.RL[k], Salt: x.Salts[k][0]}
	o, _ := Open(x, []int{0, 0})
	if Check(64, m, []int{0, 0}, []api.Opened{o[0], twin}) {
		t.Error("one place twice")
	}
	p, _ := Open(x, []int{1, 0})
	if !Check(64, m, []int{1, 0}, []api.Opened{p[0], twin}) {
		t.Error("the other half of the first letter")
	}
	q, _ := Open(x, []int{0, 1})
	if perm, ok := Whole([]int{0, 1}, q, []api.Opened{p[0], twin}); ok || len(perm) > 0 {
		t.Error("two halves of one side have one place")
	}
}

func TestWhole(t *testing.T) {
	at := func(l ...int) (o []api.Opened) {
		for _, n := range l {
			o = append(o, api.Opened{At: n})
		}
		return o
	}
	for i, x := range []struct {
		bits []int
		l, o []api.Opened
		want []int
		ok   bool
	}{
		{nil, nil, nil, nil, true},
		{[]int{0, 0}, at(0, 1), at(1, 0), []int{1, 0}, true},
		{[]int{0, 1}, at(0, 0), at(1, 1), []int{1, 0}, true},
		{[]int{1, 1}, at(2, 0), at(0, 1), nil, false},
		{[]int{0, 0}, at(0, 0), at(1, 0), nil, false},
		{[]int{0, 0}, at(0, 1), at(1, 1), nil, false},
		{[]int{0, 0}, at(0, 1), at(1), nil, false},
		{[]int{0, 0}, at(0), at(1, 0), nil, false},
		{[]int{0}, at(0, 1), at(1, 0), nil, false},
		{[]int{0, 2}, at(0, 1), at(1, 0), nil, false},
		{[]int{0, -1}, at(0, 1), at(1, 0), nil, false},
		{[]int{0}, at(-1), at(0), nil, false},
	} {
		if perm, ok := Whole(x.bits, x.l, x.o); ok != x.ok || !slices.Equal(perm, x.want) {
			t.Error(i, perm, ok)
		}
	}
	r := rand.New(rand.NewSource(23))
	for _, n := range []int{64, 65} {
		zeros := make([]int, n)
		if _, ok := Whole(zeros, at(r.Perm(n)...), at(r.Perm(n)...)); ok != (n == 64) {
			t.Error(n)
		}
	}
}
