package count

import (
	"math/rand"
	"reflect"
	"slices"
	"testing"

	"franking/api"
	"franking/flows"
)

func known(perm []int, in ...int) api.Lot { return api.Lot{In: in, Known: true, Perm: perm} }

func unknown(in ...int) api.Lot { return api.Lot{In: in} }

func flow(senders int, l ...api.Lot) api.Flow { return api.Flow{Senders: senders, Lots: l} }

func TestExamples(t *testing.T) {
	for i, x := range []struct {
		f    api.Flow
		want [][]int
	}{
		{api.Flow{}, [][]int{{}}},
		{flow(2), [][]int{{0, 1}}},
		{flow(2, unknown(0, 1)), [][]int{{2, 3}, {3, 2}}},
		{flow(2, known([]int{1, 0}, 0, 1)), [][]int{{3, 2}}},
		{flow(3, unknown(2, 0)), [][]int{{3, 1, 4}, {4, 1, 3}}},
		{flow(8), [][]int{{0, 1, 2, 3, 4, 5, 6, 7}}},
	} {
		l, e := All(x.f)
		n, f := Count(x.f)
		if e != api.OK || f != api.OK || !reflect.DeepEqual(l, x.want) || n != len(x.want) {
			t.Error(i, l, n, e, f)
		}
	}
}

func TestErrors(t *testing.T) {
	seven, eight := []int{0, 1, 2, 3, 4, 5, 6}, []int{0, 1, 2, 3, 4, 5, 6, 7}
	for i, x := range []struct {
		f    api.Flow
		want api.Errno
	}{
		{flow(-1), api.ErrFlow}, {flow(65), api.ErrLimit}, {flow(9), api.ErrLimit}, {flow(9, unknown(9)), api.ErrFlow},
		{flow(8, unknown(eight...)), api.ErrLimit}, {flow(8, unknown(seven...)), api.OK}, {flow(8, unknown(seven...), unknown(7, 8)), api.ErrLimit}, {flow(8, unknown(seven...), unknown(8, 9, 10, 11, 12, 13, 14)), api.OK},
		{flow(8, unknown(seven...), unknown(7)), api.OK},
	} {
		l, e1 := All(x.f)
		n, e2 := Count(x.f)
		ok, e3 := Possible(x.f, nil)
		if e1 != x.want || e2 != x.want || e3 != x.want || ok || x.want != api.OK && (len(l) > 0 || n != 0) || x.want == api.OK && n != 5040 {
			t.Error(i, e1, e2, e3, n)
		}
	}
}

func TestPossible(t *testing.T) {
	f := flow(2, unknown(0, 1))
	for i, x := range []struct {
		a    []int
		want bool
	}{{[]int{2, 3}, true}, {[]int{3, 2}, true}, {[]int{2, 2}, false}, {[]int{0, 1}, false}, {nil, false}, {[]int{2}, false}, {[]int{2, 3, 4}, false}, {[]int{-1, 9}, false}} {
		if ok, e := Possible(f, x.a); ok != x.want || e != api.OK {
			t.Error(i, ok, e)
		}
	}
	if ok, _ := Possible(api.Flow{}, nil); !ok {
		t.Error("no senders")
	}
}

// naive follows the definition: it maps all completions.
func naive(t *testing.T, f api.Flow, found map[[4]int]bool) {
	for i, x := range f.Lots {
		if x.Known {
			continue
		}
		for p := range permutations(len(x.In)) {
			g := flow(f.Senders, slices.Clone(f.Lots)...)
			g.Lots[i] = known(slices.Clone(p), x.In...)
			naive(t, g, found)
		}
		return
	}
	m, e := flows.Map(f)
	if e != api.OK {
		t.Fatal(e)
	}
	var a [4]int
	copy(a[:], m)
	found[a] = true
}

func TestExactly(t *testing.T) {
	r := rand.New(rand.NewSource(37))
	for range 300 {
		f := flow(1 + r.Intn(4))
		for range r.Intn(4) {
			ends, _ := flows.Ends(f)
			r.Shuffle(len(ends), func(i, k int) { ends[i], ends[k] = ends[k], ends[i] })
			in := ends[:1+r.Intn(len(ends))]
			if r.Intn(3) == 0 {
				f.Lots = append(f.Lots, known(r.Perm(len(in)), in...))
			} else {
				f.Lots = append(f.Lots, unknown(in...))
			}
		}
		found := map[[4]int]bool{}
		naive(t, f, found)
		l, e := All(f)
		ends, _ := flows.Ends(f)
		if e != api.OK || len(l) != len(found) || !slices.IsSortedFunc(l, slices.Compare[[]int]) {
			t.Fatal(f, l, found, e)
		}
		for _, a := range l {
			var k [4]int
			copy(k[:], a)
			if !found[k] || !slices.Equal(slices.Sorted(slices.Values(a)), ends) {
				t.Error(f, a)
			}
		}
		in := ends[:1+r.Intn(len(ends))]
		one, _ := Count(flow(f.Senders, append(slices.Clip(f.Lots), unknown(ends[0]))...))
		same, _ := Count(flow(f.Senders, append(slices.Clip(f.Lots), known(r.Perm(len(in)), in...))...))
		if one != len(l) || same != len(l) {
			t.Error("a further lot", one, same, len(l))
		}
		for i, x := range f.Lots {
			if !x.Known {
				g := flow(f.Senders, slices.Clone(f.Lots)...)
				g.Lots[i] = known(r.Perm(len(x.In)), x.In...)
				less, _ := All(g)
				for _, a := range less {
					if ok, _ := Possible(f, a); !ok {
						t.Error("who knows more has a further assignment")
					}
				}
			}
		}
	}
}

// TestLong goes through many lots with the greatest number of assignments.
func TestLong(t *testing.T) {
	f := flow(8)
	spots := []int{0, 1, 2, 3, 4, 5, 6}
	next := 8
	for range 300 {
		f.Lots = append(f.Lots, unknown(slices.Clone(spots)...))
		for i := range spots {
			spots[i] = next
			next++
		}
	}
	if n, e := Count(f); n != 5040 || e != api.OK {
		t.Error(n, e)
	}
}
