package homes

import (
	"math"
	"math/rand"
	"slices"
	"testing"

	"franking/api"
)

func entry(no, kind, a, b int) api.Entry {
	return api.Entry{No: no, Kind: kind, A: a, B: b, Until: api.End, Gone: api.End}
}

func lives(no, a, b int) api.Entry { return entry(no, api.LivesE, a, b) }

func agent(no, a, b int) api.Entry { return entry(no, api.AgentE, a, b) }

func died(no, a int) api.Entry { return entry(no, api.DiedE, a, 0) }

func refuses(no, a int) api.Entry { return entry(no, api.RefuseE, a, 0) }

func TestWhere(t *testing.T) {
	for i, x := range []struct {
		l      []api.Entry
		person int
		want   api.Home
		people []int
	}{
		{nil, 5, api.Home{Kind: api.HoldH, Person: 5}, []int{5}},
		{[]api.Entry{agent(1, 3, 7), lives(2, 7, 2)}, 3, api.Home{Kind: api.DeliverH, Person: 7, Office: 2}, []int{3, 7}},
		{[]api.Entry{agent(1, 3, 7), lives(2, 7, 2)}, 7, api.Home{Kind: api.DeliverH, Person: 7, Office: 2}, []int{7}},
		{[]api.Entry{agent(1, 3, 7), agent(2, 7, 3), lives(3, 3, 1)}, 3, api.Home{Kind: api.HoldH, Person: 3}, []int{3, 7}},
		{[]api.Entry{agent(1, 3, 7), agent(2, 7, 8), agent(3, 8, 7), lives(4, 8, 1)}, 3, api.Home{Kind: api.HoldH, Person: 3}, []int{3, 7, 8}},
		{[]api.Entry{lives(1, 3, 2), died(2, 3)}, 3, api.Home{Kind: api.ReturnH, Person: 3}, []int{3}},
		{[]api.Entry{lives(1, 3, 2), refuses(2, 3)}, 3, api.Home{Kind: api.ReturnH, Person: 3}, []int{3}},
		{[]api.Entry{lives(1, 3, 2), died(2, 3), agent(3, 3, 4), lives(4, 4, 0)}, 3, api.Home{Kind: api.DeliverH, Person: 4, Office: 0}, []int{3, 4}},
		{[]api.Entry{agent(3, 3, 4), refuses(4, 4)}, 3, api.Home{Kind: api.ReturnH, Person: 4}, []int{3, 4}},
		{[]api.Entry{agent(3, 3, 4)}, 3, api.Home{Kind: api.HoldH, Person: 4}, []int{3, 4}},
		{nil, 0, api.Home{Kind: api.HoldH, Person: 0}, []int{0}}, {nil, 1 << 20, api.Home{Kind: api.HoldH, Person: 1 << 20}, []int{1 << 20}},
	} {
		h, e := Where(x.l, x.person, 5, 5)
		people, f := Agents(x.l, x.person, 5, 5)
		if h != x.want || e != api.OK || !slices.Equal(people, x.people) || f != api.OK {
			t.Error(i, h, people, e, f)
		}
	}
	moved := []api.Entry{lives(1, 3, 2), lives(2, 3, 6)}
	moved[1].From, moved[1].Known = 10, 20
	for _, x := range [][3]int{{9, 30, 2}, {10, 19, 2}, {10, 20, 6}} {
		if h, _ := Where(moved, 3, x[0], x[1]); h.Office != x[2] {
			t.Error(x, h)
		}
	}
}

func TestErrors(t *testing.T) {
	for i, x := range []struct {
		l                 []api.Entry
		person, day, time int
		want              api.Errno
	}{
		{make([]api.Entry, 1025), -1, -1, 0, api.ErrLimit}, {make([]api.Entry, 1), -1, -1, 0, api.ErrEntry}, {nil, -1, 0, 0, api.ErrArg}, {nil, 1<<20 + 1, 0, 0, api.ErrArg}, {nil, math.MaxInt, 0, 0, api.ErrArg}, {nil, 1, -1, 0, api.ErrArg}, {nil, 1, 0, api.End, api.ErrArg},
	} {
		h, e := Where(x.l, x.person, x.day, x.time)
		people, f := Agents(x.l, x.person, x.day, x.time)
		if e != x.want || f != x.want || h != (api.Home{}) || len(people) > 0 {
			t.Error(i, e, f)
		}
	}
}

func TestConsequences(t *testing.T) {
	r := rand.New(rand.NewSource(44))
	circles := 0
	for range 1000 {
		l := []api.Entry{}
		for no := range r.Intn(9) {
			a, b := r.Intn(5), 10+r.Intn(3)
			x := entry(no, 1+r.Intn(4), a, b)
			switch x.Kind {
			case api.AgentE:
				x.B = (a + 1 + r.Intn(4)) % 5
			case api.DiedE, api.RefuseE:
				x.B = 0
			}
			x.From = r.Intn(3)
			l = append(l, x)
		}
		p := r.Intn(5)
		people, _ := Agents(l, p, 2, 0)
		h, e := Where(l, p, 2, 0)
		if e != api.OK || people[0] != p {
			t.Fatal(e, people)
		}
		for i, q := range people {
			if slices.Contains(people[:i], q) {
				t.Error("the people who are asked are pairwise different", people)
			}
		}
		last := people[len(people)-1]
		own := slices.DeleteFunc(slices.Clone(l), func(x api.Entry) bool { return x.Kind == api.AgentE && x.A == last })
		alone, _ := Where(own, last, 2, 0)
		if len(own) < len(l) {
			circles++
			if h != (api.Home{Kind: api.HoldH, Person: p}) {
				t.Error("a circle", h)
			}
		} else {
			if h != alone {
				t.Error("the home is what is said of the last one", h, alone)
			}
			for _, q := range people {
				if g, _ := Where(l, q, 2, 0); g != h {
					t.Error("the home of everybody who is asked", g, h)
				}
			}
		}
		only := slices.DeleteFunc(slices.Clone(l), func(x api.Entry) bool { return !slices.Contains(people, x.A) })
		if g, _ := Where(only, p, 2, 0); g != h {
			t.Error("entries about people who are not asked do not matter")
		}
	}
	if circles == 0 {
		t.Error("no circles")
	}
}
