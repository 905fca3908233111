package elgamal

import (
	"math"
	"math/rand"
	"testing"

	"franking/api"
	"franking/group"
)

func TestKeys(t *testing.T) {
	if k, e := Public(2); k != 16 || e != api.OK {
		t.Error(k, e)
	}
	if k, e := Public(api.Q - 1); e != api.OK || !group.Valid(k) {
		t.Error(k, e)
	}
	for _, n := range []int{0, api.Q, -1, math.MaxInt, math.MinInt} {
		if k, e := Public(n); k != 0 || e != api.ErrKey {
			t.Error(n, k, e)
		}
		if s, e := Strip(n, api.Sealed{}); e != api.ErrKey || s != (api.Sealed{}) {
			t.Error(n, e)
		}
	}
	for _, x := range []struct {
		l    []int
		want int
		e    api.Errno
	}{{nil, 1, api.OK}, {[]int{4, 16}, 64, api.OK}, {[]int{4, 2}, 0, api.ErrGroup}, {[]int{0}, 0, api.ErrGroup}, {[]int{4, api.P}, 0, api.ErrGroup}} {
		if k, e := Join(x.l); k != x.want || e != x.e {
			t.Error(x.l, k, e)
		}
	}
}

var example = api.Sealed{{A: 1, B: 1}, {A: 4, B: 64}, {A: 16, B: 2304}}

func TestSeal(t *testing.T) {
	if s, e := Seal(16, api.Words{1, 4, 9}, [3]int{0, 1, 2}); s != example || e != api.OK {
		t.Error(s, e)
	}
	x, e := Strip(2, example)
	if x != (api.Sealed{{A: 1, B: 1}, {A: 4, B: 4}, {A: 16, B: 9}}) || e != api.OK {
		t.Error(x, e)
	}
	if w, e := Read(x); w != (api.Words{1, 4, 9}) || e != api.OK {
		t.Error(w, e)
	}
	one := api.Cipher{A: 1, B: 1}
	if s, e := Strip(1, api.Sealed{{A: 4, B: 4}, one, one}); s != (api.Sealed{{A: 4, B: 1}, one, one}) || e != api.OK {
		t.Error(s, e)
	}
	if w, _ := Read(api.Sealed{one, {A: 4, B: api.P - 2}, one}); w != (api.Words{1, 2, 1}) {
		t.Error(w)
	}
	for _, key := range []int{0, 2, api.P, -4} {
		s, e := Seal(key, api.Words{}, [3]int{})
		x, f := Again(key, api.Sealed{}, [3]int{})
		if e != api.ErrGroup || f != api.ErrGroup || s != x || s != (api.Sealed{}) {
			t.Error(key, e, f)
		}
	}
	for _, w := range []api.Words{{0, 1, 1}, {1, 0, 1}, {1, 1, 0}, {1, 1, api.Q + 1}, {-1, 1, 1}, {1, math.MaxInt, 1}} {
		if s, e := Seal(4, w, [3]int{}); e != api.ErrCipher || s != (api.Sealed{}) {
			t.Error(w, e)
		}
	}
	if _, e := Seal(4, api.Words{1, api.Q, 2}, [3]int{math.MinInt, math.MaxInt, -1}); e != api.OK {
		t.Error(e)
	}
}

func TestCheck(t *testing.T) {
	for i := range 3 {
		for _, bad := range []int{0, 2, -1, api.P, api.P + 1, math.MaxInt} {
			a, b := example, example
			a[i].A, b[i].B = bad, bad
			for _, s := range []api.Sealed{a, b} {
				x, e1 := Again(4, s, [3]int{})
				y, e2 := Strip(1, s)
				w, e3 := Read(s)
				if Check(s) != api.ErrCipher || e1 != api.ErrCipher || e2 != api.ErrCipher || e3 != api.ErrCipher || x != y || x != (api.Sealed{}) || w != (api.Words{}) {
					t.Error(i, bad, e1, e2, e3)
				}
			}
		}
	}
	if Check(example) != api.OK || Check(api.Sealed{}) != api.ErrCipher {
		t.Error("form")
	}
}

func TestOpenedByAll(t *testing.T) {
	r := rand.New(rand.NewSource(12))
	numbers := func() [3]int { return [3]int{r.Int() - r.Int(), r.Int() - r.Int(), r.Int() - r.Int()} }
	for range 60 {
		secrets, keys := []int{}, []int{}
		for range 1 + r.Intn(4) {
			secrets = append(secrets, 1+r.Intn(api.Q-1))
			k, _ := Public(secrets[len(secrets)-1])
			keys = append(keys, k)
		}
		key, _ := Join(keys)
		w := api.Words{1 + r.Intn(api.Q), 1 + r.Intn(api.Q), 1 + r.Intn(api.Q)}
		a, b := numbers(), numbers()
		s, e := Seal(key, w, a)
		if e != api.OK {
			t.Fatal(e)
		}
		rest, _ := Join(keys[1:])
		first, _ := Strip(secrets[0], s)
		if want, _ := Seal(rest, w, a); first != want {
			t.Error("a letter that is stripped of one secret")
		}
		once, e := Again(key, s, a)
		twice, f := Again(key, once, b)
		sum, sums := [3]int{}, [3]int{}
		for i := range 3 {
			sum[i] = a[i]%api.Q + b[i]%api.Q
			sums[i] = a[i]%api.Q + sum[i]
		}
		if x, _ := Again(key, s, sum); x != twice || e != api.OK || f != api.OK {
			t.Error("sealed again twice", e, f)
		}
		if x, _ := Seal(key, w, sums); x != twice {
			t.Error("sealed with the sum")
		}
		for _, i := range r.Perm(len(secrets)) {
			if twice, e = Strip(secrets[i], twice); e != api.OK || Check(twice) != api.OK {
				t.Error(e)
			}
		}
		if got, e := Read(twice); got != w || e != api.OK {
			t.Error(got, w, e)
		}
	}
}

// TestAnyWord: for each other word there is a key for which the same cipher says this word.
func TestAnyWord(t *testing.T) {
	r := rand.New(rand.NewSource(76))
	power := func(a, n int) int {
		result := 1
		for ; n > 0; n /= 2 {
			if n%2 == 1 {
				result = result * a % api.Q
			}
			a = a * a % api.Q
		}
		return result
	}
	for range 50 {
		n := 1 + r.Intn(api.Q-1)
		s, _ := Seal(64, api.Words{1 + r.Intn(api.Q), 1, 1}, [3]int{n, 0, 0})
		word := 1 + r.Intn(api.Q)
		x, _ := group.Element(word)
		inverse, _ := group.Pow(x, -1)
		mask, _ := group.Mul(s[0].B, inverse)
		key, _ := group.Pow(mask, power(n, api.Q-2))
		if other, e := Seal(key, api.Words{word, 1, 1}, [3]int{n, 0, 0}); e != api.OK || other[0] != s[0] {
			t.Error(word, e)
		}
	}
}
