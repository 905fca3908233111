package forward

import (
	"math"
	"slices"
	"testing"

	"franking/aliases"
	"franking/api"
	"franking/elgamal"
	"franking/group"
	"franking/onetime"
)

const secret = 77

// secrets are those of the offices.
func secrets() []int { return []int{11, 22, 33, 44, 55} }

func line(offices ...int) api.Line {
	return api.Line{Offices: offices, Legs: slices.Repeat([]int{5}, len(offices)-1), Classes: 1, Room: 4}
}

func table() api.Timetable {
	return api.Timetable{Offices: 5, Lines: []api.Line{line(1, 0), line(0, 1, 3), line(0, 2, 3), line(3, 2)}}
}

// keys are the products of the keys of the offices of each line.
func keys(t api.Timetable) (l []int) {
	for _, x := range t.Lines {
		sum := 0
		for _, n := range x.Offices {
			sum += secrets()[n]
		}
		k, _ := elgamal.Public(sum)
		l = append(l, k)
	}
	return l
}

func entry(no, kind, a, b int) api.Entry {
	return api.Entry{No: no, Kind: kind, A: a, B: b, Until: api.End, Gone: api.End}
}

func alias(person, office int) int {
	n, _ := aliases.Alias(secret, person, office)
	return n
}

func next(l []api.Entry, office, a int) (api.Forward, api.Errno) {
	return Next(table(), keys(table()), secret, l, 10, office, a, 5, 5, 99)
}

func TestNext(t *testing.T) {
	l := []api.Entry{
		entry(0, api.LivesE, 0, 0), entry(1, api.LivesE, 1, 3), entry(2, api.DiedE, 2, 0), entry(3, api.AgentE, 3, 1), entry(4, api.LivesE, 4, 4),
		entry(5, api.AgentE, 5, 6), entry(6, api.AgentE, 6, 5), entry(7, api.AgentE, 7, 1<<20), entry(8, api.LivesE, 1<<20, 3),
	}
	back := func(line, person, office int) api.Return {
		x, e := onetime.Make(line, keys(table())[line], alias(person, office), 99)
		if e != api.OK {
			t.Fatal(e)
		}
		return x
	}
	for i, x := range []struct {
		person, office int
		want           api.Forward
	}{
		{0, 0, api.Forward{Home: api.Home{Kind: api.DeliverH, Person: 0, Office: 0}}},
		{1, 0, api.Forward{Home: api.Home{Kind: api.DeliverH, Person: 1, Office: 3}, Back: back(1, 1, 3)}},
		{2, 0, api.Forward{Home: api.Home{Kind: api.ReturnH, Person: 2}}},
		{3, 0, api.Forward{Home: api.Home{Kind: api.DeliverH, Person: 1, Office: 3}, Back: back(1, 1, 3)}},
		{3, 3, api.Forward{Home: api.Home{Kind: api.DeliverH, Person: 1, Office: 3}}},
		{4, 0, api.Forward{Home: api.Home{Kind: api.HoldH, Person: 4}}},
		{5, 1, api.Forward{Home: api.Home{Kind: api.HoldH, Person: 5}}},
		{9, 1, api.Forward{Home: api.Home{Kind: api.HoldH, Person: 9}}},
		{0, 1, api.Forward{Home: api.Home{Kind: api.DeliverH, Person: 0, Office: 0}, Back: back(0, 0, 0)}},
		{7, 0, api.Forward{Home: api.Home{Kind: api.DeliverH, Person: 1 << 20, Office: 3}, Back: back(1, 1<<20, 3)}},
		{0, 3, api.Forward{Home: api.Home{Kind: api.HoldH, Person: 0}}},
	} {
		if f, e := next(l, x.office, alias(x.person, x.office)); f != x.want || e != api.OK {
			t.Error(i, f, e)
		}
	}
}

func TestErrors(t *testing.T) {
	good, k := table(), keys(table())
	bad := table()
	bad.Lines[0].Room = 0
	odd := slices.Clone(k)
	odd[3] = 2
	for i, x := range []struct {
		t                                api.Timetable
		keys                             []int
		secret                           int
		l                                []api.Entry
		people, office, alias, day, time int
		want                             api.Errno
	}{
		{bad, nil, 0, make([]api.Entry, 1), -1, -1, 0, -1, 0, api.ErrLine}, {good, odd[1:], 0, nil, -1, -1, 0, 0, 0, api.ErrArg}, {good, append(odd, 4), 0, nil, -1, -1, 0, 0, 0, api.ErrArg}, {good, odd, 0, nil, -1, -1, 0, 0, 0, api.ErrGroup},
		{good, k, 0, nil, -1, -1, 0, 0, 0, api.ErrKey}, {good, k, api.Q, nil, -1, -1, 0, 0, 0, api.ErrKey}, {good, k, 1, nil, -1, 24, 0, 0, 0, api.ErrArg}, {good, k, 1, nil, 5, -1, 0, 0, 0, api.ErrArg}, {good, k, 1, nil, 1025, 0, 0, 0, 0, api.ErrArg}, {good, k, 1, nil, -1, 0, 0, 0, 0, api.ErrArg},
		{good, k, secret, make([]api.Entry, 1), 3, 0, 0, -1, 0, api.ErrAlias}, {good, k, secret, nil, 3, 0, math.MinInt, 0, 0, api.ErrAlias}, {good, k, secret, nil, 1, 0, alias(1, 0), 0, 0, api.ErrAlias}, {good, k, secret, nil, 5, 1, alias(1, 0), 0, 0, api.ErrAlias},
		{good, k, secret, make([]api.Entry, 1), 3, 0, alias(1, 0), -1, 0, api.ErrEntry}, {good, k, secret, make([]api.Entry, 1025), 3, 0, alias(1, 0), -1, 0, api.ErrLimit}, {good, k, secret, nil, 3, 0, alias(1, 0), -1, 0, api.ErrArg}, {good, k, secret, nil, 3, 0, alias(1, 0), 0, api.End, api.ErrArg},
		{api.Timetable{}, nil, secret, nil, 3, 23, alias(1, 23), 0, 0, api.OK},
	} {
		f, e := Next(x.t, x.keys, x.secret, x.l, x.people, x.office, x.alias, x.day, x.time, 1)
		if e != x.want || e != api.OK && f != (api.Forward{}) {
			t.Error(i, f, e)
		}
	}
}

func TestForTheRightOne(t *testing.T) {
	l := []api.Entry{entry(1, api.LivesE, 1, 3)}
	f, _ := next(l, 0, alias(1, 0))
	s, e := onetime.Use(f.Back, [2]int{5, 6}, [3]int{7, 8, 9})
	for _, n := range table().Lines[f.Back.Line].Offices {
		s, _ = elgamal.Strip(secrets()[n], s)
	}
	w, _ := elgamal.Read(s)
	if e != api.OK || w != (api.Words{alias(1, 3), 5, 6}) {
		t.Error(w, e)
	}
	// At the new office it is delivered, and not forwarded again.
	if g, e := next(l, 3, w[0]); e != api.OK || g != (api.Forward{Home: f.Home}) {
		t.Error(g, e)
	}
}

func TestHidden(t *testing.T) {
	l := []api.Entry{entry(1, api.LivesE, 1, 3)}
	f, _ := next(l, 0, alias(1, 0))
	more := append(slices.Clip(l), entry(2, api.LivesE, 2, 3), entry(3, api.AgentE, 4, 1), entry(4, api.DiedE, 5, 0))
	if g, _ := next(more, 0, alias(1, 0)); g != f {
		t.Error("what else the registry says matters")
	}
	x := table()
	x.Lines = append(x.Lines, line(0, 4))
	k := append(keys(table()), keys(table())[1])
	moved := []api.Entry{entry(1, api.LivesE, 1, 4)}
	g, _ := Next(x, k, secret, moved, 10, 0, alias(1, 0), 5, 5, 99)
	ratio := func(a, b int) int {
		i, _ := group.Pow(b, -1)
		c, _ := group.Mul(a, i)
		return c
	}
	p, _ := group.Element(alias(1, 3))
	q, _ := group.Element(alias(1, 4))
	if g.Back.To.A != f.Back.To.A || ratio(g.Back.To.B, f.Back.To.B) != ratio(q, p) || g.Back.Line != 4 {
		t.Error("wherever somebody has moved", g, f)
	}
}
