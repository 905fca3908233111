package custody

import (
	"math"
	"math/rand"
	"slices"
	"testing"

	"franking/api"
)

func event(letter, kind, time int) api.Event {
	v := api.Event{Letter: letter, Kind: kind, Time: time, Office: 3}
	if kind == api.PostedV || kind == api.BurntV {
		v.Office = -1
	}
	return v
}

// story is events of the letter 5, at the times 0, 1, and so on.
func story(kinds ...int) (l []api.Event) {
	for i, k := range kinds {
		l = append(l, event(5, k, i))
	}
	return l
}

func TestTable(t *testing.T) {
	p, m, del, f, r, d, burn, bl := api.PostedV, api.MixedV, api.DeliveredV, api.ForwardedV, api.ReturnedV, api.DeadV, api.BurntV, api.BlamedV
	may := map[int][]int{0: {p}, p: {m, bl}, f: {m, bl}, m: {m, del, f, r, d, bl}, d: {r, burn}, del: nil, r: nil, burn: nil, bl: nil}
	ways := map[int][]int{0: nil, p: {p}, f: {p, m, f}, m: {p, m}, d: {p, m, d}, del: {p, m, del}, r: {p, m, r}, burn: {p, m, d, burn}, bl: {p, bl}}
	for before, kinds := range ways {
		if Check(story(kinds...)) != api.OK {
			t.Error(kinds)
		}
		if k, e := Status(story(kinds...), 5); k != before || e != api.OK {
			t.Error(kinds, k, e)
		}
		for after := -1; after <= 10; after++ {
			want := api.ErrEvent
			if slices.Contains(may[before], after) {
				want = api.OK
			}
			l := story(append(slices.Clip(kinds), after)...)
			_, e1 := Status(l, 5)
			_, e2 := Late(l, nil)
			if Check(l) != want || e1 != want || e2 != want {
				t.Error(before, after, Check(l), e1, e2)
			}
		}
	}
}

func TestCheck(t *testing.T) {
	for i, x := range []struct {
		l    []api.Event
		want api.Errno
	}{
		{nil, api.OK}, {story(api.MixedV), api.ErrEvent},
		{[]api.Event{event(0, 1, 0), event(1<<20, 1, api.End-1)}, api.OK}, {[]api.Event{event(-1, 1, 0)}, api.ErrEvent}, {[]api.Event{event(1<<20+1, 1, 0)}, api.ErrEvent}, {[]api.Event{event(0, 1, -1)}, api.ErrEvent}, {[]api.Event{event(0, 1, api.End)}, api.ErrEvent}, {[]api.Event{event(math.MinInt, 1, 0)}, api.ErrEvent},
		{[]api.Event{{Letter: 0, Kind: 1, Office: 0}}, api.ErrEvent}, {[]api.Event{event(0, 1, 0), {Kind: 2, Office: -1}}, api.ErrEvent}, {[]api.Event{event(0, 1, 0), {Kind: 2, Office: 24}}, api.ErrEvent}, {[]api.Event{event(0, 1, 0), {Kind: 2, Office: 23}}, api.OK}, {[]api.Event{event(0, 1, 0), {Kind: 2, Office: 0}}, api.OK}, {[]api.Event{event(0, 1, 0), {Kind: math.MaxInt, Office: 0}}, api.ErrEvent},
		{[]api.Event{event(1, 1, 0), event(0, 1, 0)}, api.ErrEvent}, {[]api.Event{event(0, 1, 0), event(1, 1, 0), event(0, 2, 0)}, api.ErrEvent},
		{[]api.Event{event(0, 1, 5), event(0, 2, 4)}, api.ErrEvent}, {[]api.Event{event(0, 1, 5), event(0, 2, 5), event(0, 3, 5), event(1, 1, 0)}, api.OK}, {[]api.Event{event(0, 1, 5), event(0, 1, 5)}, api.ErrEvent},
		{make([]api.Event, 4097), api.ErrLimit}, {make([]api.Event, 4096), api.ErrEvent},
		{append(story(1, 2, 6, 7)[:3:3], api.Event{Letter: 5, Kind: 7, Time: 9, Office: 3}), api.ErrEvent},
	} {
		k, e1 := Status(x.l, -1)
		l, e2 := Late(x.l, []int{-1})
		if x.want == api.OK {
			if e1 != api.ErrArg || e2 != api.ErrArg {
				t.Error(i, e1, e2)
			}
			e1, e2 = api.OK, api.OK
		}
		if Check(x.l) != x.want || e1 != x.want || e2 != x.want || k != 0 || len(l) > 0 {
			t.Error(i, Check(x.l), e1, e2)
		}
	}
}

func TestStatus(t *testing.T) {
	l := append(story(1, 2, 3), event(7, 1, 0))
	for letter, want := range map[int]int{5: 3, 7: 1, 0: 0, 6: 0, 1 << 20: 0} {
		if k, e := Status(l, letter); k != want || e != api.OK {
			t.Error(letter, k, e)
		}
	}
	for _, letter := range []int{-1, 1<<20 + 1, math.MaxInt, math.MinInt} {
		if k, e := Status(l, letter); k != 0 || e != api.ErrArg {
			t.Error(letter, e)
		}
	}
}

func TestLate(t *testing.T) {
	l := []api.Event{event(0, 1, 3), event(0, 2, 5), event(0, 3, 9), event(2, 1, 3), event(2, 2, 4), event(2, 4, 6), event(2, 2, 7), event(2, 3, 20), event(3, 1, 0), event(4, 1, 1), event(4, 8, 2)}
	for i, x := range []struct {
		by   []int
		want []int
	}{
		{[]int{8}, []int{0}}, {[]int{9}, nil}, {nil, nil}, {[]int{9, 100, 6, 100, 2}, []int{1, 3}}, {[]int{9, 0, 5, 0, 1}, []int{1, 2, 3, 4}}, {[]int{9, 0, 19}, []int{1}},
	} {
		if letters, e := Late(l, x.by); e != api.OK || !slices.Equal(letters, x.want) {
			t.Error(i, letters, e)
		}
	}
	if letters, e := Late(nil, []int{7, 8}); e != api.OK || !slices.Equal(letters, []int{0, 1}) {
		t.Error(letters, e)
	}
	for i, by := range [][]int{{-1}, {0, api.End}, make([]int, 4097)} {
		if letters, e := Late(nil, by); e != api.ErrArg || len(letters) > 0 {
			t.Error(i, e)
		}
	}
	if letters, e := Late(nil, make([]int, 4096)); e != api.OK || len(letters) != 4096 {
		t.Error(e)
	}
	for _, k := range []int{api.ForwardedV, api.ReturnedV, api.DeadV, api.DeliveredV} {
		if letters, _ := Late([]api.Event{event(0, 1, 0), event(0, 2, 0), event(0, k, 1)}, []int{1}); len(letters) > 0 {
			t.Error(k, "settles a letter")
		}
	}
}

func TestOnce(t *testing.T) {
	r := rand.New(rand.NewSource(54))
	for range 2000 {
		kinds := []int{}
		for range r.Intn(8) {
			kinds = append(kinds, 1+r.Intn(8))
		}
		if len(kinds) > 1 && r.Intn(3) > 0 {
			kinds[0], kinds[1] = 1, 2
		}
		l := story(kinds...)
		if Check(l) != api.OK {
			continue
		}
		for i, k := range kinds {
			final := k == api.DeliveredV || k == api.ReturnedV || k == api.BurntV || k == api.BlamedV
			if (k == api.PostedV) != (i == 0) || final && i+1 < len(kinds) || k == api.DeadV && slices.Contains(kinds[:i], k) {
				t.Error(kinds)
			}
			if Check(l[:i]) != api.OK {
				t.Error("the first events")
			}
			by := []int{0, 0, 0, 0, 0, r.Intn(8)}
			before, _ := Late(l[:i], by)
			after, _ := Late(l, by)
			if slices.Contains(after, 5) && !slices.Contains(before, 5) {
				t.Error("further events make a letter late", kinds)
			}
		}
		other := append(slices.Clip(l), event(9, 1, 0))
		a, _ := Status(l, 5)
		if b, e := Status(other, 5); a != b || e != api.OK {
			t.Error("what happens to another letter matters", e)
		}
	}
}
