package dead

import (
	"math"
	"math/rand"
	"slices"
	"testing"

	"franking/api"
	"franking/codec"
	"franking/elgamal"
	"franking/merkle"
	"franking/onetime"
)

func back(n int) api.Return {
	x, e := onetime.Make(2, 16, 7, n)
	if e != api.OK {
		panic(e)
	}
	return x
}

func kept(letter, until int) api.Kept {
	return api.Kept{Letter: letter, Until: until, Back: back(letter)}
}

func rootOfAll(l ...api.Kept) api.Digest {
	leaves := [][]byte{}
	for _, k := range l {
		v := []api.Value{{Kind: api.IntV, N: k.Letter}, {Kind: api.IntV, N: k.Until}, {Kind: api.TextV, S: string(k.Back.Tag[:])}}
		b, _ := codec.Encode(api.Value{Kind: api.ListV, L: v})
		leaves = append(leaves, b)
	}
	return merkle.Root(leaves)
}

func TestCheck(t *testing.T) {
	for i, x := range []struct {
		f  func(k *api.Kept)
		ok bool
	}{
		{func(k *api.Kept) {}, true}, {func(k *api.Kept) { k.Letter = -1 }, false}, {func(k *api.Kept) { k.Letter = 1<<20 + 1 }, false}, {func(k *api.Kept) { k.Letter = 1 << 20 }, true},
		{func(k *api.Kept) { k.Until = -1 }, false}, {func(k *api.Kept) { k.Until = api.End }, false}, {func(k *api.Kept) { k.Until = api.End - 1 }, true}, {func(k *api.Kept) { k.Until = 0 }, true}, {func(k *api.Kept) { k.Back.Tag[0]++ }, false}, {func(k *api.Kept) { k.Back = api.Return{} }, false},
	} {
		k := kept(5, 9)
		x.f(&k)
		l := []api.Kept{k}
		_, e1 := Root(l)
		_, e2 := Keep(l, kept(7, 1))
		_, e3 := Keep(nil, k)
		_, _, e4 := Send(l, k.Letter, [2]int{1, 1}, [3]int{})
		_, _, e5 := Burn(l, 3)
		want := api.ErrDead
		if x.ok {
			want = api.OK
		}
		for _, e := range []api.Errno{Check(l), e1, e2, e3, e4, e5} {
			if e != want {
				t.Error(i, e)
			}
		}
	}
	for i, l := range [][]api.Kept{{kept(5, 1), kept(5, 2)}, {kept(6, 1), kept(5, 2)}, make([]api.Kept, 1025)} {
		want := api.ErrDead
		if i == 2 {
			want = api.ErrLimit
		}
		_, e1 := Root(l)
		_, e2 := Keep(l, api.Kept{})
		_, _, e3 := Send(l, -1, [2]int{}, [3]int{})
		_, _, e4 := Burn(l, -1)
		for _, e := range []api.Errno{Check(l), e1, e2, e3, e4} {
			if e != want {
				t.Error(i, e)
			}
		}
	}
	if Check(nil) != api.OK {
		t.Error("no letters")
	}
}

func TestRootKeep(t *testing.T) {
	if d, e := Root(nil); d != merkle.Root(nil) || e != api.OK {
		t.Error(e)
	}
	l := []api.Kept{kept(2, 5), kept(6, 4)}
	if d, e := Root(l); d != rootOfAll(l...) || e != api.OK {
		t.Error(e)
	}
	for letter, want := range map[int]int{0: 0, 3: 1, 9: 2} {
		x, e := Keep(l, kept(letter, 3))
		if e != api.OK || len(x) != 3 || x[want].Letter != letter || Check(x) != api.OK || l[0].Letter != 2 || l[1].Letter != 6 {
			t.Error(letter, e)
		}
	}
	if x, e := Keep(l, kept(6, 9)); e != api.ErrTwice || len(x) > 0 {
		t.Error(e)
	}
	full := []api.Kept{}
	for i := range 1024 {
		full = append(full, api.Kept{Letter: 2 * i, Until: 1, Back: l[0].Back})
	}
	for letter, want := range map[int]api.Errno{1: api.ErrLimit, 4: api.ErrTwice, -1: api.ErrDead} {
		if _, e := Keep(full, api.Kept{Letter: letter, Back: l[0].Back}); e != want {
			t.Error(letter, e)
		}
	}
}

func TestSend(t *testing.T) {
	l := []api.Kept{kept(2, 5), kept(4, 5), kept(6, 4)}
	w, r := [2]int{11, 12}, [3]int{1, 2, 3}
	x, s, e := Send(l, 4, w, r)
	want, _ := onetime.Use(l[1].Back, w, r)
	if e != api.OK || s != want || !slices.Equal(x, []api.Kept{l[0], l[2]}) || l[1].Letter != 4 {
		t.Error(x, e)
	}
	open, _ := elgamal.Strip(2, s)
	if got, _ := elgamal.Read(open); got != (api.Words{7, 11, 12}) {
		t.Error(got)
	}
	if _, _, e := Send(x, 4, w, r); e != api.ErrArg {
		t.Error("a letter that was sent back", e)
	}
	for i, y := range []struct {
		l      []api.Kept
		letter int
		w      [2]int
		want   api.Errno
	}{{nil, 1, w, api.ErrArg}, {l, 3, w, api.ErrArg}, {l, -1, [2]int{}, api.ErrArg}, {l, 2, [2]int{0, 1}, api.ErrCipher}, {l, math.MaxInt, w, api.ErrArg}} {
		if x, s, e := Send(y.l, y.letter, y.w, r); e != y.want || len(x) > 0 || s != (api.Sealed{}) {
			t.Error(i, e)
		}
	}
}

func TestBurn(t *testing.T) {
	l := []api.Kept{kept(2, 9), kept(4, 10), kept(6, 3), kept(8, 12)}
	x, b, e := Burn(l, 9)
	if e != api.OK || !slices.Equal(x, []api.Kept{l[1], l[3]}) || !slices.Equal(b.Gone, []int{2, 6}) || b.Before != rootOfAll(l...) || b.After != rootOfAll(l[1], l[3]) {
		t.Error(x, b, e)
	}
	if x, b, e := Burn(nil, 0); e != api.OK || len(x)+len(b.Gone) > 0 || b.Before != merkle.Root(nil) || b.After != b.Before {
		t.Error(e)
	}
	for _, time := range []int{-1, api.End, math.MinInt, math.MaxInt} {
		if x, b, e := Burn(l, time); e != api.ErrArg || len(x)+len(b.Gone) > 0 || b.Before != (api.Digest{}) || Verify(l, l, time, b) || Verify(nil, nil, time, api.Burnt{Before: merkle.Root(nil), After: merkle.Root(nil)}) {
			t.Error(time, e)
		}
	}
	if !Verify(l, x, 9, b) || !Verify(l, x, 9, api.Burnt{Before: b.Before, After: b.After, Gone: []int{2, 6}}) {
		t.Error("what Burn leaves")
	}
	for i, ok := range []bool{
		Verify(l, x, 10, b), Verify(l, x, 8, b), Verify(l, l, 9, b), Verify(x, x, 9, b), Verify(l[:3], x, 9, b), Verify(l, x[:1], 9, b),
		Verify(l, x, 9, api.Burnt{Before: b.After, After: b.After, Gone: b.Gone}), Verify(l, x, 9, api.Burnt{Before: b.Before, After: b.Before, Gone: b.Gone}), Verify(l, x, 9, api.Burnt{Before: b.Before, After: b.After, Gone: []int{2}}), Verify(l, x, 9, api.Burnt{}),
		Verify(make([]api.Kept, 1025), nil, 9, b), Verify(l, []api.Kept{{}}, 9, b),
	} {
		if ok {
			t.Error(i)
		}
	}
	// What is kept must be the same in all fields, also in those that are not committed to.
	other := slices.Clone(x)
	other[0].Back = back(99)
	if Verify(l, other, 9, b) {
		t.Error("another return address")
	}
}

func TestConsequences(t *testing.T) {
	r := rand.New(rand.NewSource(53))
	for range 50 {
		l := []api.Kept{}
		letters := r.Perm(10)
		for _, n := range letters {
			l, _ = Keep(l, kept(n, n*3%7))
		}
		sorted := []api.Kept{}
		for n := range 10 {
			sorted, _ = Keep(sorted, kept(n, n*3%7))
		}
		if !slices.Equal(l, sorted) {
			t.Error("the order in which letters are kept")
		}
		first, second := r.Intn(4), 4+r.Intn(4)
		a, _, _ := Burn(l, first)
		a, _, _ = Burn(a, second)
		b, _, _ := Burn(l, second)
		if !slices.Equal(a, b) {
			t.Error("burning at one time and then at a later one")
		}
	}
}
