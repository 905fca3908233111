package paths

import (
	"math"
	"math/rand"
	"reflect"
	"slices"
	"testing"

	"franking/api"
	"franking/digest"
	"franking/elgamal"
	"franking/equal"
	"franking/plans"
	"franking/post"
	"franking/relay"
	"franking/shuffle"
)

func line(first int, offices ...int) api.Line {
	return api.Line{Offices: offices, Legs: slices.Repeat([]int{10}, len(offices)-1), Classes: 1, Room: 6, Rules: []api.Rule{{First: first, Until: first + 1, Every: 50}}}
}

func order(person, dest, crowd int) api.Order {
	return api.Order{From: 0, Person: person, Dest: dest, After: 5, By: 900, Crowd: crowd, Pay: 1000}
}

// world has a run over two offices, and one over four.
func world(n int) api.World {
	return api.World{
		Table:   api.Timetable{Offices: 5, Lines: []api.Line{line(30, 0, 1), line(40, 0, 4, 3, 2)}},
		Tariff:  api.Tariff{Base: []int{20}, Leg: []int{1}},
		Orders:  []api.Order{order(0, 1, 2), order(1, 2, 3), order(2, 2, 2)},
		People:  3,
		Covers:  20,
		Secrets: []int{11, 22, 33, 44, 55},
		Seed:    digest.Sum([]byte{byte(n)}),
	}
}

func plan(t *testing.T, w api.World) api.Plan {
	p, ok, e := plans.Make(w.Table, w.Tariff, w.Orders, w.Covers)
	if !ok || e != api.OK {
		t.Fatal(e)
	}
	return p
}

func faultsOf(w api.World, run int) (l []api.Fault) {
	for _, s := range w.Faults {
		if s.Run == run {
			l = append(l, s.Fault)
		}
	}
	return l
}

// caseOf returns the case of a letter: bare jobs of all offices that have not worked.
func caseOf(t *testing.T, w api.World, run, place int) (c api.Case, r api.Relay) {
	p := plan(t, w)
	l, _, e := post.Letters(w, p, run)
	if e != api.OK {
		t.Fatal(e)
	}
	if r, e = relay.Run(w.Table, w.Secrets, p.Runs[run], l, faultsOf(w, run), w.Seed); e != api.OK {
		t.Fatal(e)
	}
	c = api.Case{Run: p.Runs[run], First: l}
	batch := l
	for leg, no := range w.Table.Lines[p.Runs[run].Line].Offices {
		k, _ := elgamal.Public(w.Secrets[no])
		j := r.Jobs[leg]
		if slices.Contains(r.Failed, no) || len(j.Bare) == 0 {
			j = api.Job{}
			j.Bare, j.Proofs, _ = equal.Bare(w.Secrets[no], batch)
			batch = j.Bare
		} else {
			batch = j.Mix.Out
		}
		c.Keys, c.Jobs = append(c.Keys, k), append(c.Jobs, j)
	}
	if c.Path, e = Show(w, p, run, place); e != api.OK {
		t.Fatal(e)
	}
	return c, r
}

func slip(run, leg, kind, at int) api.Slip {
	return api.Slip{Run: run, Fault: api.Fault{Leg: leg, Kind: kind, At: at}}
}

func TestShow(t *testing.T) {
	for n := range 10 {
		w := world(n)
		if n > 0 {
			w.Faults = []api.Slip{slip(1, 1, api.RefuseF, 0), slip(1, 2, 1+n%6, 0)}
		}
		p := plan(t, w)
		for run, r := range p.Runs {
			l, words, _ := post.Letters(w, p, run)
			y, _ := relay.Run(w.Table, w.Secrets, r, l, faultsOf(w, run), w.Seed)
			for place := range l {
				x, e := Show(w, p, run, place)
				key := 1
				var keys []int
				for _, no := range w.Table.Lines[r.Line].Offices {
					k, _ := elgamal.Public(w.Secrets[no])
					keys = append(keys, k)
				}
				key, _ = elgamal.Join(keys)
				sealed, _ := elgamal.Seal(key, x.Words, x.R)
				if e != api.OK || x.Place != place || x.Words != words[place] || sealed != l[place] || len(x.Steps) != len(keys) {
					t.Fatal(e, x)
				}
				at := place
				for leg, no := range w.Table.Lines[r.Line].Offices {
					s := x.Steps[leg]
					if slices.Contains(y.Failed, no) || len(y.Jobs[leg].Bare) == 0 {
						if s != (api.Step{At: at, Mid: -1}) {
							t.Error("an office that has not worked", s)
						}
						continue
					}
					turn := relay.Turn(w.Seed, r, leg, len(l))
					perm, _ := shuffle.Trace(turn)
					left, _ := shuffle.Open(turn, make([]int, len(l)))
					right, _ := shuffle.Open(turn, slices.Repeat([]int{1}, len(l)))
					if s.At != at || turn.Left[s.Mid] != at || s.Left != left[s.Mid] || s.Right != right[s.Mid] || s.Right.At != perm[at] {
						t.Error("a step", s)
					}
					at = perm[at]
				}
			}
			for _, place := range []int{-1, len(l), math.MaxInt} {
				if x, e := Show(w, p, run, place); e != api.ErrArg || len(x.Steps) > 0 {
					t.Error(place, e)
				}
			}
		}
	}
	w := world(0)
	p := plan(t, w)
	bad := w
	bad.Secrets = nil
	odd := w
	odd.Faults = []api.Slip{slip(1, 9, 1, 0)}
	for i, x := range []struct {
		w    api.World
		p    api.Plan
		run  int
		want api.Errno
	}{{bad, p, -1, api.ErrWorld}, {w, api.Plan{}, -1, api.ErrPlan}, {w, p, -1, api.ErrArg}, {w, p, 2, api.ErrArg}, {odd, p, 1, api.ErrFault}, {odd, p, 0, api.OK}} {
		if y, e := Show(x.w, x.p, x.run, 0); e != x.want || e != api.OK && len(y.Steps) > 0 {
			t.Error(i, e)
		}
	}
	if _, e := Show(odd, p, 1, -1); e != api.ErrArg {
		t.Error(e)
	}
}

func clone(c api.Case) api.Case {
	c.First, c.Keys, c.Jobs = slices.Clone(c.First), slices.Clone(c.Keys), slices.Clone(c.Jobs)
	for i, j := range c.Jobs {
		j.Bare, j.Proofs = slices.Clone(j.Bare), slices.Clone(j.Proofs)
		j.Mix = api.Mix{In: slices.Clone(j.Mix.In), Mid: slices.Clone(j.Mix.Mid), Out: slices.Clone(j.Mix.Out), Left: slices.Clone(j.Mix.Left), Right: slices.Clone(j.Mix.Right)}
		c.Jobs[i] = j
	}
	c.Path.Steps = slices.Clone(c.Path.Steps)
	return c
}

func TestForm(t *testing.T) {
	w := world(1)
	w.Faults = []api.Slip{slip(1, 1, api.RefuseF, 0)}
	good, _ := caseOf(t, w, 1, 1)
	if leg, why, e := Check(good); leg != 0 || why != 0 || e != api.OK {
		t.Fatal(leg, why, e)
	}
	for i, x := range []struct {
		f  func(c *api.Case)
		ok bool
	}{
		{func(c *api.Case) { *c = api.Case{} }, false}, {func(c *api.Case) { c.Keys = c.Keys[:3] }, false}, {func(c *api.Case) { c.Jobs = c.Jobs[:3] }, false}, {func(c *api.Case) { c.Keys[3] = 2 }, false}, {func(c *api.Case) { c.Keys, c.Jobs = c.Keys[:1], c.Jobs[:1] }, false}, {func(c *api.Case) { c.Keys, c.Jobs = slices.Repeat([]int{4}, 10), make([]api.Job, 10) }, false},
		{func(c *api.Case) { c.Path.Steps = append(c.Path.Steps, api.Step{}) }, false}, {func(c *api.Case) { c.First = nil }, false}, {func(c *api.Case) { c.First[0][2].B = 2 }, false}, {func(c *api.Case) { c.Path.Place = -1 }, false}, {func(c *api.Case) { c.Path.Place = len(c.First) }, false},
		{func(c *api.Case) {
			for len(c.First) < 65 {
				c.First = append(c.First, c.First[0])
			}
		}, false},
		{func(c *api.Case) { c.Jobs[1].Proofs[0][0].S++ }, false}, {func(c *api.Case) { c.Jobs[1].Bare = c.Jobs[1].Bare[1:] }, false}, {func(c *api.Case) { c.Keys[1] = 4 }, false}, {func(c *api.Case) { c.Jobs[0].Mix.Out[0][0].A = 2 }, false}, {func(c *api.Case) { c.Jobs[1] = api.Job{} }, false},
		{func(c *api.Case) { c.Jobs[1].Mix.Left = make([]api.Digest, 9) }, true}, {func(c *api.Case) { c.Jobs[1].Hand.Leg = 77 }, true}, {func(c *api.Case) { c.Run, c.Time = api.Run{Line: -9}, -9 }, true}, {func(c *api.Case) { c.Jobs[3] = api.Job{Mix: api.Mix{Mid: make([]api.Sealed, 1)}} }, true}, {func(c *api.Case) { c.Path.Words = api.Words{} }, true},
		// What comes to a bare job must be in form: this one gets what nobody can strip.
		{func(c *api.Case) { c.Jobs[2].Mix.Out = nil; c.Jobs[3].Mix = api.Mix{} }, false},
	} {
		c := clone(good)
		x.f(&c)
		leg, why, e := Check(c)
		if (e == api.OK) != x.ok || !x.ok && (e != api.ErrReveal || leg != 0 || why != 0) {
			t.Error(i, leg, why, e)
		}
	}
}

func TestCheck(t *testing.T) {
	good, _ := caseOf(t, world(2), 1, 0)
	other, _ := elgamal.Seal(4, api.Words{1, 2, 3}, [3]int{4, 5, 6})
	at := func(c *api.Case, leg int) int { return c.Path.Steps[leg].At }
	for i, x := range []struct {
		f        func(c *api.Case)
		leg, why int
	}{
		{func(c *api.Case) {}, 0, 0},
		{func(c *api.Case) { c.Path.R[1]++ }, 0, api.SenderY}, {func(c *api.Case) { c.Path.R[1] += api.Q }, 0, 0}, {func(c *api.Case) { c.Path.Words[1]++ }, 0, api.SenderY}, {func(c *api.Case) { c.Path.Words = api.Words{0, 1, 1} }, 0, api.SenderY}, {func(c *api.Case) { c.First[0] = other }, 0, api.SenderY}, {func(c *api.Case) { c.Path.Place = 1 }, 0, api.SenderY}, {func(c *api.Case) { c.Path.Place, c.Path.Steps = 1, nil }, 0, api.SenderY},
		{func(c *api.Case) { c.Path.Steps = nil }, 0, api.SilentY}, {func(c *api.Case) { c.Path.Steps = c.Path.Steps[:2] }, 2, api.SilentY}, {func(c *api.Case) { c.Path.Steps[3].Mid = -1 }, 3, api.SilentY}, {func(c *api.Case) { c.Path.Steps[1].Mid = -1; c.Jobs[1].Bare = nil }, 1, api.SilentY},
		{func(c *api.Case) { c.Jobs[1].Bare[at(c, 1)] = other }, 1, api.BareY}, {func(c *api.Case) { c.Jobs[1].Proofs[at(c, 1)][2].E++ }, 1, api.BareY}, {func(c *api.Case) { c.Jobs[1].Bare = append(c.Jobs[1].Bare, other) }, 1, api.BareY}, {func(c *api.Case) { c.Jobs[1].Proofs = c.Jobs[1].Proofs[1:] }, 1, api.BareY}, {func(c *api.Case) { c.Jobs[2].Bare, c.Jobs[2].Mix.In = nil, nil }, 2, api.BareY},
		// Other letters of the batch do not matter.
		{func(c *api.Case) { c.Jobs[1].Bare[1-min(at(c, 1), 1)] = other }, 0, 0}, {func(c *api.Case) { c.Jobs[1].Mix.In[1-min(at(c, 1), 1)] = other }, 0, 0}, {func(c *api.Case) { c.Jobs[1].Mix.Out[1-min(at(c, 2), 1)] = api.Sealed{} }, 0, 0},
		{func(c *api.Case) { c.Jobs[1].Mix.In[at(c, 1)] = other }, 1, api.MixY}, {func(c *api.Case) { c.Jobs[1].Mix.Out[at(c, 2)] = other }, 1, api.MixY}, {func(c *api.Case) { c.Jobs[1].Mix.Mid[c.Path.Steps[1].Mid] = other }, 1, api.MixY}, {func(c *api.Case) { c.Jobs[1].Mix.Left[c.Path.Steps[1].Mid][0]++ }, 1, api.MixY}, {func(c *api.Case) { c.Jobs[1].Mix.Right[c.Path.Steps[1].Mid][0]++ }, 1, api.MixY},
		{func(c *api.Case) { c.Jobs[1].Mix.In = c.Jobs[1].Mix.In[1:] }, 1, api.MixY}, {func(c *api.Case) { c.Jobs[1].Mix.Mid = append(c.Jobs[1].Mix.Mid, other) }, 1, api.MixY}, {func(c *api.Case) { c.Jobs[1].Mix.Out = append(c.Jobs[1].Mix.Out, other) }, 1, api.MixY}, {func(c *api.Case) { c.Jobs[1].Mix.Left = append(c.Jobs[1].Mix.Left, api.Digest{}) }, 1, api.MixY}, {func(c *api.Case) { c.Jobs[1].Mix.Right = append(c.Jobs[1].Mix.Right, api.Digest{}) }, 1, api.MixY},
		{func(c *api.Case) { c.Path.Steps[2].At++ }, 2, api.MixY}, {func(c *api.Case) { c.Path.Steps[2].Left.At++ }, 2, api.MixY}, {func(c *api.Case) { c.Path.Steps[2].Mid = 99 }, 2, api.MixY}, {func(c *api.Case) { c.Path.Steps[2].Mid = -2 }, 2, api.MixY}, {func(c *api.Case) { c.Path.Steps[2].Right.At = 99 }, 2, api.MixY}, {func(c *api.Case) { c.Path.Steps[2].Right.At = math.MinInt }, 2, api.MixY}, {func(c *api.Case) { c.Path.Steps[2].Left.R[0] += api.Q }, 2, api.MixY}, {func(c *api.Case) { c.Path.Steps[2].Right.Salt[5]++ }, 2, api.MixY}, {func(c *api.Case) {
			c.Path.Steps[2].Left, c.Path.Steps[2].Right = c.Path.Steps[2].Right, c.Path.Steps[2].Left
		}, 2, api.MixY},
		// What comes after the office that is found does not matter.
		{func(c *api.Case) {
			c.Path.Steps[1].Mid = -1
			c.Jobs[2].Mix = api.Mix{In: make([]api.Sealed, 1)}
			c.Path.Steps[3].At = -5
		}, 1, api.SilentY},
		{func(c *api.Case) { c.Path.Steps[0].Mid = -1; c.Path.R[0]++ }, 0, api.SenderY},
	} {
		c := clone(good)
		x.f(&c)
		if leg, why, e := Check(c); leg != x.leg || why != x.why || e != api.OK {
			t.Error(i, leg, why, e)
		}
	}
	w := world(3)
	w.Faults = []api.Slip{slip(0, 0, api.RefuseF, 0), slip(0, 1, api.RefuseF, 0)}
	c, _ := caseOf(t, w, 0, 0)
	if leg, why, e := Check(c); leg != 0 || why != 0 || e != api.OK || !isBare(c.Jobs[0]) || !isBare(c.Jobs[1]) {
		t.Error("bare jobs of all offices", leg, why, e)
	}
}

// TestWay takes periods with faults: the way of a letter that is lost leads to an office with a fault.
func TestWay(t *testing.T) {
	r := rand.New(rand.NewSource(69))
	found, fine := 0, 0
	for n := range 150 {
		w := world(n)
		faulty := map[int]bool{}
		for leg := range 4 {
			if r.Intn(2) == 0 {
				continue
			}
			kind, at := 1+r.Intn(6), r.Intn(3)
			if kind == api.RefuseF {
				at = 0
			}
			w.Faults = append(w.Faults, slip(1, leg, kind, at))
			faulty[leg] = true
		}
		for place := range 4 {
			c, y := caseOf(t, w, 1, place)
			leg, why, e := Check(c)
			if e != api.OK {
				t.Fatal(e)
			}
			if why != 0 && (!faulty[leg] || why == api.SenderY) {
				t.Error("an office without a fault is found", leg, why)
			}
			at := place
			for _, s := range c.Path.Steps {
				if s.Mid >= 0 {
					at = s.Right.At
				}
			}
			got, _ := elgamal.Read(y.Out[at])
			// An office can put a letter with the same words into the place of a cover: then both are right.
			if lost := got != c.Path.Words; lost && why == 0 || !lost && why != 0 && c.Path.Words != (api.Words{1, 1, 1}) {
				t.Error("the letter is lost, or not", lost, leg, why)
			}
			if why == 0 {
				fine++
			} else {
				found++
			}
		}
	}
	if found < 10 || fine < 10 {
		t.Error(found, fine)
	}
}

func TestArgumentsStay(t *testing.T) {
	c, _ := caseOf(t, world(4), 1, 2)
	d := clone(c)
	Check(c)
	if !reflect.DeepEqual(c.Path, d.Path) || !reflect.DeepEqual(c.Jobs[2].Mix.Out, d.Jobs[2].Mix.Out) {
		t.Error("arguments have changed")
	}
}
