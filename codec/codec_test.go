package codec

import (
	"bytes"
	"math"
	"math/rand"
	"strings"
	"testing"

	"franking/api"
)

func num(n int) api.Value { return api.Value{Kind: api.IntV, N: n} }

func text(s string) api.Value { return api.Value{Kind: api.TextV, S: s} }

func list(l ...api.Value) api.Value { return api.Value{Kind: api.ListV, L: l} }

// nest returns n lists, one within the other, around a value.
func nest(n int, v api.Value) api.Value {
	for range n {
		v = list(v)
	}
	return v
}

func TestEncode(t *testing.T) {
	for _, x := range []struct {
		v    api.Value
		want []byte
	}{
		{num(0), []byte{1, 0}},
		{num(-1), []byte{1, 1}},
		{num(-3), []byte{1, 5}},
		{num(100), []byte{1, 200, 1}},
		{num(63), []byte{1, 126}},
		{num(64), []byte{1, 128, 1}},
		{num(math.MinInt), []byte{1, 255, 255, 255, 255, 255, 255, 255, 255, 255, 1}},
		{num(math.MaxInt), []byte{1, 254, 255, 255, 255, 255, 255, 255, 255, 255, 1}},
		{text(""), []byte{2, 0}},
		{text("ab"), []byte{2, 2, 97, 98}},
		{list(), []byte{3, 0}},
		{list(num(100), text("ab")), []byte{3, 2, 1, 200, 1, 2, 2, 97, 98}},
	} {
		b, e := Encode(x.v)
		n, f := Size(x.v)
		if !bytes.Equal(b, x.want) || e != api.OK || n != len(x.want) || f != api.OK || Check(x.v) != api.OK {
			t.Error(x.v, b, e, n, f)
		}
	}
}

func TestRefuse(t *testing.T) {
	for i, x := range []struct {
		v    api.Value
		want api.Errno
	}{
		{api.Value{}, api.ErrArg},
		{api.Value{Kind: -1}, api.ErrArg},
		{api.Value{Kind: 4}, api.ErrArg},
		{api.Value{Kind: math.MaxInt}, api.ErrArg},
		{api.Value{Kind: api.IntV, S: "x"}, api.ErrArg},
		{api.Value{Kind: api.IntV, L: []api.Value{num(1)}}, api.ErrArg},
		{api.Value{Kind: api.TextV, N: 1}, api.ErrArg},
		{api.Value{Kind: api.TextV, L: []api.Value{num(1)}}, api.ErrArg},
		{api.Value{Kind: api.ListV, N: 1}, api.ErrArg},
		{api.Value{Kind: api.ListV, S: "x"}, api.ErrArg},
		{nest(16, api.Value{}), api.ErrArg},
		{nest(17, api.Value{}), api.ErrArg},
		{nest(17, num(1)), api.ErrLimit},
		{nest(16, list()), api.ErrLimit},
		{nest(60000, num(1)), api.ErrLimit},
		{nest(16, num(1)), api.OK},
		{nest(15, list()), api.OK},
		{api.Value{Kind: api.IntV, L: []api.Value{}}, api.OK},
	} {
		b, e := Encode(x.v)
		n, f := Size(x.v)
		if Check(x.v) != x.want || e != x.want || f != x.want || e != api.OK && (len(b) != 0 || n != 0) {
			t.Error(i, Check(x.v), e, f)
		}
	}
}

func TestDecodeWrong(t *testing.T) {
	nines := bytes.Repeat([]byte{255}, 9)
	for i, b := range [][]byte{
		nil, {0, 0}, {4, 0}, {1}, {1, 128}, {1, 128, 0}, {1, 5, 0}, {2, 3, 97}, {2, 0, 0}, {3, 1}, {3, 2, 1, 0},
		append(append([]byte{1}, nines...), 2),
		append(append([]byte{1}, nines...), 0),
		append(append([]byte{1}, nines...), 129, 0),
		append(append([]byte{2}, nines...), 1),
		append(append([]byte{3}, nines...), 1),
		append(bytes.Repeat([]byte{3, 1}, 16), 3, 0),
		bytes.Repeat([]byte{3, 255, 255, 3}, 20000),
	} {
		if v, e := Decode(b); e != api.ErrCode || !Same(v, api.Value{}) {
			t.Error(i, v, e)
		}
	}
}

// TestDecodeAll decodes all short byte strings: what can be decoded is encoded as these bytes.
func TestDecodeAll(t *testing.T) {
	digits := []byte{0, 1, 2, 3, 5, 127, 128, 129, 255}
	found := 0
	var all func(b []byte, n int)
	all = func(b []byte, n int) {
		if v, e := Decode(b); e == api.OK {
			found++
			if c, f := Encode(v); f != api.OK || !bytes.Equal(b, c) {
				t.Error(b, c, f)
			}
		}
		for _, d := range digits {
			if n > 0 {
				all(append(b[:len(b):len(b)], d), n-1)
			}
		}
	}
	all(nil, 5)
	if found < 100 {
		t.Error(found)
	}
}

func random(r *rand.Rand, depth int) api.Value {
	switch k := r.Intn(3); {
	case k == 0:
		return num(int(r.Uint64()) >> r.Intn(64))
	case k == 1 || depth == 0:
		return text(strings.Repeat("x", r.Intn(4)*r.Intn(70)))
	}
	v := list()
	for range r.Intn(4) {
		v.L = append(v.L, random(r, depth-1))
	}
	return v
}

func TestConsequences(t *testing.T) {
	r := rand.New(rand.NewSource(1))
	values, codes := []api.Value{}, [][]byte{}
	for range 300 {
		v := random(r, 5)
		b, e := Encode(v)
		w, f := Decode(b)
		n, _ := Size(v)
		if e != api.OK || f != api.OK || !Same(v, w) || n != len(b) {
			t.Fatal(v, e, f)
		}
		if v.Kind == api.ListV {
			zeros := list()
			for _, x := range v.L {
				zeros.L = append(zeros.L, num(0))
				m, _ := Size(x)
				n -= m
			}
			m, _ := Size(zeros)
			if m-2*len(v.L) != n {
				t.Error(v, m, n)
			}
		}
		values, codes = append(values, v), append(codes, b)
	}
	for i, v := range values {
		for k, w := range values {
			if Same(v, w) != bytes.Equal(codes[i], codes[k]) || !Same(v, w) && bytes.HasPrefix(codes[i], codes[k]) {
				t.Error(v, w)
			}
		}
	}
}

func TestSame(t *testing.T) {
	l := []api.Value{{}, {Kind: 9}, num(0), num(1), text(""), text("a"), list(), list(num(1)), list(num(1), num(1)), nest(2, num(1)),
		{Kind: api.IntV, S: "a"}, {Kind: api.IntV, L: []api.Value{{}}}}
	for i, a := range l {
		for k, b := range l {
			if Same(a, b) != (i == k) {
				t.Error(a, b)
			}
		}
	}
	if !Same(api.Value{Kind: api.ListV}, list([]api.Value{}...)) {
		t.Error("nil and empty lists are equal")
	}
}

func TestArgumentsStay(t *testing.T) {
	b := []byte{3, 1, 2, 1, 97}
	v, _ := Decode(b)
	b[4] = 98
	if v.L[0].S != "a" {
		t.Error("a value shares the bytes it was read from")
	}
}
