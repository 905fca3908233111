package arbiter

import (
	"math/rand"
	"slices"
	"testing"

	"franking/api"
	"franking/digest"
	"franking/elgamal"
	"franking/equal"
	"franking/handover"
	"franking/paths"
	"franking/plans"
	"franking/post"
	"franking/relay"
)

func offices() []int { return []int{0, 4, 3, 2} }

// world has a run over four offices, with a letter and two covers.
func world(n int) api.World {
	line := api.Line{Offices: offices(), Legs: []int{10, 10, 10}, Classes: 1, Room: 6, Rules: []api.Rule{{First: 40, Until: 41, Every: 1}}}
	return api.World{
		Table:   api.Timetable{Offices: 5, Lines: []api.Line{line}},
		Tariff:  api.Tariff{Base: []int{20}, Leg: []int{1}},
		Orders:  []api.Order{{From: 0, Person: 1, Dest: 2, After: 5, By: 900, Crowd: 2, Pay: 1000}},
		People:  3,
		Covers:  20,
		Secrets: []int{11, 22, 33, 44, 55},
		Seed:    digest.Sum([]byte{byte(n)}),
	}
}

// caseOf returns the case of the letter at a place.
func caseOf(t *testing.T, w api.World, place int) api.Case {
	p, ok, e := plans.Make(w.Table, w.Tariff, w.Orders, w.Covers)
	if !ok || e != api.OK {
		t.Fatal(e)
	}
	l, _, _ := post.Letters(w, p, 0)
	var faults []api.Fault
	for _, s := range w.Faults {
		faults = append(faults, s.Fault)
	}
	r, e := relay.Run(w.Table, w.Secrets, p.Runs[0], l, faults, w.Seed)
	if e != api.OK {
		t.Fatal(e)
	}
	c := api.Case{Run: p.Runs[0], First: l}
	batch := l
	for leg, no := range offices() {
		k, _ := elgamal.Public(w.Secrets[no])
		j := r.Jobs[leg]
		if slices.Contains(r.Failed, no) || len(j.Bare) == 0 {
			j = api.Job{}
			j.Bare, j.Proofs, _ = equal.Bare(w.Secrets[no], batch)
			batch = j.Bare
		} else {
			batch = j.Mix.Out
		}
		c.Keys, c.Jobs = append(c.Keys, k), append(c.Jobs, j)
	}
	if c.Path, e = paths.Show(w, p, 0, place); e != api.OK {
		t.Fatal(e)
	}
	return c
}

func clone(c api.Case) api.Case {
	c.Jobs = slices.Clone(c.Jobs)
	for i := range c.Jobs {
		c.Jobs[i].Mix.Out = slices.Clone(c.Jobs[i].Mix.Out)
		c.Jobs[i].Bare = slices.Clone(c.Jobs[i].Bare)
	}
	c.Path.Steps = slices.Clone(c.Path.Steps)
	return c
}

func TestJudge(t *testing.T) {
	good := caseOf(t, world(1), 0)
	resign := func(c *api.Case, i int) {
		c.Jobs[i].Hand, _ = handover.Make(world(1).Secrets[offices()[i]], c.Jobs[i].Hand)
	}
	for i, x := range []struct {
		f    func(c *api.Case)
		want api.Verdict
	}{
		{func(c *api.Case) {}, api.Verdict{Office: -1, Why: api.ClearY}}, {func(c *api.Case) { c.Time = -99 }, api.Verdict{Office: -1, Why: api.ClearY}}, {func(c *api.Case) { c.Jobs[2].Hand.Time++; resign(c, 2) }, api.Verdict{Office: -1, Why: api.ClearY}},
		{func(c *api.Case) { c.Path.R[0]++ }, api.Verdict{Office: -1, Why: api.SenderY}}, {func(c *api.Case) { c.Path.R[0]++; c.Jobs[0].Hand.Time++ }, api.Verdict{Office: -1, Why: api.SenderY}},
		{func(c *api.Case) { c.Path.Steps[1].Mid = -1 }, api.Verdict{Office: 1, Why: api.SilentY}}, {func(c *api.Case) { c.Path.Steps[0].Mid = -1 }, api.Verdict{Office: 0, Why: api.SilentY}}, {func(c *api.Case) { c.Jobs[2].Bare = nil }, api.Verdict{Office: 2, Why: api.BareY}}, {func(c *api.Case) { c.Path.Steps[3].Right.R[0]++ }, api.Verdict{Office: 3, Why: api.MixY}},
		{func(c *api.Case) { c.Jobs[2].Hand.Time++ }, api.Verdict{Office: 2, Why: api.HandY}}, {func(c *api.Case) { c.Run.Arrive++ }, api.Verdict{Office: 0, Why: api.HandY}}, {func(c *api.Case) { c.Jobs[1].Hand.Run.At++; resign(c, 1) }, api.Verdict{Office: 1, Why: api.HandY}}, {func(c *api.Case) { c.Jobs[1].Hand.Leg++; resign(c, 1) }, api.Verdict{Office: 1, Why: api.HandY}}, {func(c *api.Case) { c.Jobs[1].Hand.From = 9; resign(c, 1) }, api.Verdict{Office: 1, Why: api.HandY}}, {func(c *api.Case) { c.Jobs[1].Hand.To = -1; resign(c, 1) }, api.Verdict{Office: 1, Why: api.HandY}}, {func(c *api.Case) { c.Jobs[3].Hand.To = 7; resign(c, 3) }, api.Verdict{Office: 3, Why: api.HandY}},
		{func(c *api.Case) { c.Jobs[1].Hand.Many++; resign(c, 1) }, api.Verdict{Office: 1, Why: api.HandY}}, {func(c *api.Case) { c.Jobs[1].Hand.Root[0]++; resign(c, 1) }, api.Verdict{Office: 1, Why: api.HandY}}, {func(c *api.Case) { c.Jobs[1].Hand, _ = handover.Make(99, c.Jobs[1].Hand) }, api.Verdict{Office: 1, Why: api.HandY}}, {func(c *api.Case) { c.Jobs[3].Hand.Time++; c.Jobs[1].Hand.Time++ }, api.Verdict{Office: 1, Why: api.HandY}},
		// Hand-overs of the office that is found, and of those behind it, do not matter.
		{func(c *api.Case) { c.Jobs[1].Hand.Time++; c.Path.Steps[2].Mid = -1 }, api.Verdict{Office: 1, Why: api.HandY}}, {func(c *api.Case) { c.Jobs[2].Hand.Time++; c.Path.Steps[2].Mid = -1 }, api.Verdict{Office: 2, Why: api.SilentY}}, {func(c *api.Case) { c.Jobs[3].Hand.Time++; c.Path.Steps[2].Mid = -1 }, api.Verdict{Office: 2, Why: api.SilentY}},
		// A batch that was handed on is not the one that was signed, though the letter itself went its way.
		{func(c *api.Case) {
			other := slices.Index([]bool{c.Path.Steps[2].At == 0, false}, false)
			c.Jobs[1].Mix.Out[other], _ = elgamal.Seal(4, api.Words{1, 1, 1}, [3]int{7, 7, 7})
		}, api.Verdict{Office: 1, Why: api.HandY}},
	} {
		c := clone(good)
		x.f(&c)
		if v, e := Judge(offices(), c); v != x.want || e != api.OK {
			t.Error(i, v, e)
		}
	}
	// Bare jobs have no hand-over.
	w := world(2)
	w.Faults = []api.Slip{{Fault: api.Fault{Leg: 1, Kind: api.RefuseF}}, {Fault: api.Fault{Leg: 3, Kind: api.RefuseF}}}
	if v, e := Judge(offices(), caseOf(t, w, 0)); v != (api.Verdict{Office: -1}) || e != api.OK {
		t.Error(v, e)
	}
}

func TestErrors(t *testing.T) {
	good := caseOf(t, world(1), 0)
	odd := good
	odd.First = nil
	for i, x := range []struct {
		offices []int
		c       api.Case
		want    api.Errno
	}{
		{nil, good, api.ErrCase}, {offices()[1:], odd, api.ErrCase}, {[]int{0, 4, 3, 3}, odd, api.ErrCase}, {[]int{0, 4, 3, 24}, odd, api.ErrCase}, {[]int{0, 4, 3, -1}, odd, api.ErrCase}, {append(offices(), 1), odd, api.ErrCase}, {offices(), odd, api.ErrReveal}, {nil, api.Case{}, api.ErrReveal}, {[]int{23, 1, 2, 3}, good, api.OK},
	} {
		if v, e := Judge(x.offices, x.c); e != x.want || e != api.OK && v != (api.Verdict{}) {
			t.Error(i, v, e)
		}
	}
}

// TestNobodyIsWronged plays faults: only offices with a fault are named, and if all are cleared, the letter says its words.
func TestNobodyIsWronged(t *testing.T) {
	r := rand.New(rand.NewSource(70))
	named, cleared := 0, 0
	for n := range 150 {
		w := world(n)
		faulty := map[int]bool{}
		for leg := range 4 {
			if r.Intn(2) == 0 {
				continue
			}
			f := api.Fault{Leg: leg, Kind: 1 + r.Intn(6)}
			if f.Kind != api.RefuseF {
				f.At = r.Intn(2)
			}
			w.Faults = append(w.Faults, api.Slip{Fault: f})
			faulty[leg] = true
		}
		c := caseOf(t, w, 0)
		v, e := Judge(offices(), c)
		leg, why, _ := paths.Check(c)
		if e != api.OK || v.Why != why || v.Office >= 0 && (!faulty[v.Office] || v.Office != leg) {
			t.Error(v, e, leg, why)
		}
		if v.Office >= 0 {
			named++
			continue
		}
		cleared++
		batch, at := c.First, c.Path.Place
		for i, j := range c.Jobs {
			if batch = j.Bare; !isBare(j) {
				batch, at = j.Mix.Out, c.Path.Steps[i].Right.At
			}
		}
		if got, _ := elgamal.Read(batch[at]); got != c.Path.Words {
			t.Error("the letter does not say its words", got)
		}
	}
	if named < 10 || cleared < 10 {
		t.Error(named, cleared)
	}
}

// TestAnyOthers lets all others, and the sender, show anything: an office that did right is not named.
func TestAnyOthers(t *testing.T) {
	r := rand.New(rand.NewSource(71))
	for n := range 200 {
		good := caseOf(t, world(n%5), 0)
		honest := r.Intn(4)
		c := clone(good)
		for i := range c.Jobs {
			if i == honest {
				continue
			}
			switch r.Intn(6) {
			case 0:
				c.Jobs[i].Hand.Time++
			case 1:
				c.Path.Steps[i].Mid = -1
			case 2:
				c.Path.Steps[i].Right.Salt[0]++
			case 3:
				c.Jobs[i].Bare[c.Path.Steps[i].At][1].B = 1
			}
		}
		if v, e := Judge(offices(), c); e != api.OK || v.Office == honest {
			t.Error(honest, v, e)
		}
	}
}
