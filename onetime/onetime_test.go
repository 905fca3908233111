package onetime

import (
	"math"
	"math/rand"
	"slices"
	"testing"

	"franking/api"
	"franking/codec"
	"franking/digest"
	"franking/elgamal"
	"franking/group"
)

func pow(a, n int) int {
	c, _ := group.Pow(a, n)
	return c
}

func tagOf(l ...int) api.Digest {
	v := api.Value{Kind: api.ListV}
	for _, n := range l {
		v.L = append(v.L, api.Value{Kind: api.IntV, N: n})
	}
	b, _ := codec.Encode(v)
	return digest.Tagged("return", b)
}

func TestMake(t *testing.T) {
	x, e := Make(0, 4, 4, 1)
	if e != api.OK || x != (api.Return{Line: 0, Key: 4, To: api.Cipher{A: 4, B: 16}, Tag: tagOf(0, 4, 4, 16)}) || Check(x) != api.OK {
		t.Error(x, e)
	}
	for _, y := range []struct {
		line, key, alias int
		want             api.Errno
	}{
		{64, 2, 1, api.ErrReturn}, {-1, 4, 1, api.ErrReturn}, {math.MaxInt, 4, 1, api.ErrReturn}, {0, 2, 0, api.ErrGroup}, {0, 0, 1, api.ErrGroup},
		{0, 4, 0, api.ErrReturn}, {0, 4, api.Q + 1, api.ErrReturn}, {0, 4, -1, api.ErrReturn}, {63, 4, api.Q, api.OK}, {0, 1, 1, api.OK},
	} {
		x, e := Make(y.line, y.key, y.alias, math.MinInt)
		if e != y.want || e != api.OK && x != (api.Return{}) || e == api.OK && Check(x) != api.OK {
			t.Error(y, e)
		}
	}
	a, _ := Make(3, 16, 7, -5)
	b, _ := Make(3, 16, 7, api.Q-5)
	c, _ := Make(3, 16, 7, 5)
	if a != b || a == c || a.Tag == c.Tag {
		t.Error("numbers modulo Q")
	}
	alias, _ := group.Element(7)
	mask, _ := group.Mul(alias, pow(16, -5))
	if a.To != (api.Cipher{A: pow(4, -5), B: mask}) {
		t.Error(a.To)
	}
}

func TestCheck(t *testing.T) {
	x, _ := Make(3, 16, 7, 5)
	retag := func(y api.Return) api.Return {
		y.Tag = tagOf(y.Line, y.Key, y.To.A, y.To.B)
		return y
	}
	for i, f := range []func(y *api.Return){
		func(y *api.Return) { y.Line = 64 }, func(y *api.Return) { y.Line = -1 }, func(y *api.Return) { y.Key = 2 }, func(y *api.Return) { y.Key = 0 },
		func(y *api.Return) { y.To.A = 2 }, func(y *api.Return) { y.To.B = api.P + 4 }, func(y *api.Return) { y.To.B = -4 },
	} {
		y := x
		f(&y)
		for _, z := range []api.Return{y, retag(y)} {
			_, e := Use(z, [2]int{}, [3]int{})
			_, g := Spend([]api.Digest{x.Tag}, z)
			if Check(z) != api.ErrReturn || e != api.ErrReturn || g != api.ErrReturn {
				t.Error(i, e, g)
			}
		}
	}
	y := x
	y.Tag[3]++
	z := x
	z.Line++
	if Check(y) != api.ErrReturn || Check(z) != api.ErrReturn || Check(retag(z)) != api.OK || Check(api.Return{}) != api.ErrReturn {
		t.Error("tags")
	}
}

func TestUse(t *testing.T) {
	r := rand.New(rand.NewSource(25))
	for range 50 {
		secrets, keys := []int{}, []int{}
		for range 3 {
			secrets = append(secrets, 1+r.Intn(api.Q-1))
			keys = append(keys, pow(api.G, secrets[len(secrets)-1]))
		}
		key, _ := elgamal.Join(keys)
		alias, n := 1+r.Intn(api.Q), r.Intn(api.Q)
		w := [2]int{1 + r.Intn(api.Q), 1 + r.Intn(api.Q)}
		numbers := [3]int{int(r.Uint64()), r.Intn(api.Q), -r.Intn(api.Q)}
		x, _ := Make(5, key, alias, n)
		s, e := Use(x, w, numbers)
		want, _ := elgamal.Seal(key, api.Words{alias, w[0], w[1]}, [3]int{n + numbers[0]%api.Q, numbers[1], numbers[2]})
		if e != api.OK || s != want {
			t.Error(s, want, e)
		}
		for _, k := range secrets {
			s, _ = elgamal.Strip(k, s)
		}
		if got, _ := elgamal.Read(s); got != (api.Words{alias, w[0], w[1]}) {
			t.Error(got)
		}
	}
	x, _ := Make(0, 4, 1, 0)
	for _, w := range [][2]int{{0, 1}, {1, 0}, {api.Q + 1, 1}, {1, -1}, {1, math.MaxInt}} {
		if s, e := Use(x, w, [3]int{}); e != api.ErrCipher || s != (api.Sealed{}) {
			t.Error(w, e)
		}
	}
	if _, e := Use(x, [2]int{1, api.Q}, [3]int{}); e != api.OK {
		t.Error(e)
	}
}

func TestSpend(t *testing.T) {
	r := rand.New(rand.NewSource(26))
	l, used := []api.Return{}, []api.Digest{}
	for i := range 40 {
		x, _ := Make(i, 16, 5, i)
		l = append(l, x)
	}
	for _, i := range r.Perm(len(l)) {
		old := slices.Clone(used)
		y, e := Spend(used, l[i])
		if e != api.OK || len(y) != len(used)+1 || !slices.IsSortedFunc(y, compare) || !slices.Contains(y, l[i].Tag) || !slices.Equal(used, old) {
			t.Fatal(i, e)
		}
		for _, d := range used {
			if !slices.Contains(y, d) {
				t.Error("a tag was lost")
			}
		}
		used = y
		if z, e := Spend(used, l[i]); e != api.ErrUsed || len(z) > 0 {
			t.Error(e)
		}
	}
	x, _ := Make(63, 16, 5, 1)
	for i, u := range [][]api.Digest{{x.Tag, x.Tag}, {{2}, {1}}, {{1}, {1, 1}, {1}}} {
		if y, e := Spend(u, x); e != api.ErrReturn || len(y) > 0 {
			t.Error(i, e)
		}
	}
	full := []api.Digest{}
	for i := range 4096 {
		full = append(full, api.Digest{byte(i >> 8), byte(i)})
	}
	if y, e := Spend(full, x); e != api.ErrLimit || len(y) > 0 {
		t.Error(e)
	}
	if y, e := Spend(full[1:], x); e != api.OK || len(y) != 4096 {
		t.Error(e)
	}
	full = append(full, x.Tag)
	slices.SortFunc(full, compare)
	if _, e := Spend(full, x); e != api.ErrUsed {
		t.Error(e)
	}
}

// logarithm returns the exponent of an element to a base other than 1, by meeting in the middle.
func logarithm(base, x int) int {
	const step = 1 << 15
	small, big := map[int]int{}, 1
	for n := range step {
		small[big] = n
		big, _ = group.Mul(big, base)
	}
	back := pow(big, -1)
	for k := 0; ; k++ {
		if n, ok := small[x]; ok {
			return k*step + n
		}
		x, _ = group.Mul(x, back)
	}
}

// TestAnyAlias: with a key that is not 1, each alias leads to each To.B, by some number.
func TestAnyAlias(t *testing.T) {
	r := rand.New(rand.NewSource(77))
	for _, key := range []int{4, pow(4, 987654321)} {
		x, _ := Make(3, key, 1+r.Intn(api.Q), r.Intn(api.Q))
		alias := 1 + r.Intn(api.Q)
		element, _ := group.Element(alias)
		mask, _ := group.Mul(x.To.B, pow(element, -1))
		if y, e := Make(3, key, alias, logarithm(key, mask)); e != api.OK || y.To.B != x.To.B {
			t.Error(key, alias, e)
		}
	}
}
