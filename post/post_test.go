package post

import (
	"math"
	"math/rand"
	"reflect"
	"slices"
	"testing"

	"franking/aliases"
	"franking/api"
	"franking/audit"
	"franking/books"
	"franking/codec"
	"franking/custody"
	"franking/digest"
	"franking/elgamal"
	"franking/flows"
	"franking/group"
	"franking/plans"
	"franking/relay"
	"franking/settle"
	"franking/shuffle"
)

func line(first int, offices ...int) api.Line {
	return api.Line{Offices: offices, Legs: slices.Repeat([]int{10}, len(offices)-1), Classes: 3, Room: 6, Rules: []api.Rule{{First: first, Until: first + 200, Every: 50}}}
}

func lives(no, person, office, from int) api.Entry {
	return api.Entry{No: no, Kind: api.LivesE, A: person, B: office, From: from, Until: api.End, Gone: api.End}
}

func order(from, person, dest int, f ...func(o *api.Order)) api.Order {
	o := api.Order{From: from, Person: person, Dest: dest, After: 5, By: 900, Crowd: 2, Pay: 1000}
	for _, g := range f {
		g(&o)
	}
	return o
}

func otherwise(n int) func(o *api.Order) { return func(o *api.Order) { o.Else = n } }

// world has three lines; the people 0 to 3 live at the offices 2, 2, 3 and 0.
func world() api.World {
	return api.World{
		Table:   api.Timetable{Offices: 5, Lines: []api.Line{line(30, 0, 1, 2), line(20, 2, 4, 3), line(40, 0, 4, 3)}},
		Tariff:  api.Tariff{Base: []int{20, 30}, Leg: []int{1, 2}, Tiers: []api.Tier{{From: 3, Extra: 5}}},
		Orders:  []api.Order{order(0, 0, 2), order(0, 1, 2), order(0, 2, 3), order(2, 2, 3)},
		People:  6,
		Entries: []api.Entry{lives(0, 0, 2, 0), lives(1, 1, 2, 0), lives(2, 2, 3, 0), lives(3, 3, 0, 0)},
		Covers:  20,
		Secrets: []int{11, 22, 33, 44, 55},
		Seed:    digest.Sum([]byte("seed")),
	}
}

func hashOf(tag string, seed api.Digest, l ...int) int {
	v := api.Value{Kind: api.ListV, L: []api.Value{{Kind: api.TextV, S: string(seed[:])}}}
	for _, n := range l {
		v.L = append(v.L, api.Value{Kind: api.IntV, N: n})
	}
	b, _ := codec.Encode(v)
	return group.Hash(tag, b)
}

func TestCheck(t *testing.T) {
	slip := func(run, leg int) api.Slip { return api.Slip{Run: run, Fault: api.Fault{Leg: leg, Kind: -5, At: -5}} }
	for i, x := range []struct {
		f    func(w *api.World)
		want api.Errno
	}{
		{func(w *api.World) {}, api.OK}, {func(w *api.World) { *w = api.World{} }, api.ErrTariff}, {func(w *api.World) { *w = api.World{Tariff: w.Tariff} }, api.OK},
		{func(w *api.World) { w.Table.Lines[0].Room, w.Tariff = 0, api.Tariff{} }, api.ErrLine}, {func(w *api.World) { w.Tariff, w.People = api.Tariff{}, -1 }, api.ErrTariff}, {func(w *api.World) { w.People, w.Orders = -1, make([]api.Order, 1) }, api.ErrWorld}, {func(w *api.World) { w.People = 1025 }, api.ErrWorld}, {func(w *api.World) { w.People = 1024 }, api.OK}, {func(w *api.World) { w.People = math.MinInt }, api.ErrWorld},
		{func(w *api.World) { w.People, w.Entries = 2, make([]api.Entry, 1) }, api.ErrPlan}, {func(w *api.World) { w.Orders = slices.Repeat(w.Orders[:1], 65) }, api.ErrPlan}, {func(w *api.World) { w.Orders = slices.Repeat(w.Orders[:1], 64) }, api.OK}, {func(w *api.World) { w.Orders[1].Class = 2 }, api.ErrPlan}, {func(w *api.World) { w.Orders[1].Dest = 5 }, api.ErrPlan},
		{func(w *api.World) { w.Entries, w.Secrets = make([]api.Entry, 1), nil }, api.ErrEntry}, {func(w *api.World) { w.Entries = make([]api.Entry, 1025) }, api.ErrLimit}, {func(w *api.World) { w.Secrets = w.Secrets[1:] }, api.ErrWorld}, {func(w *api.World) { w.Secrets = append(w.Secrets, 1) }, api.ErrWorld}, {func(w *api.World) { w.Secrets[2] = 0 }, api.ErrWorld}, {func(w *api.World) { w.Secrets[2] = api.Q }, api.ErrWorld},
		{func(w *api.World) { w.Faults = []api.Slip{slip(0, 1), slip(0, 1)} }, api.ErrWorld}, {func(w *api.World) { w.Faults = []api.Slip{slip(0, 2), slip(0, 1)} }, api.ErrWorld}, {func(w *api.World) { w.Faults = []api.Slip{slip(1, 0), slip(0, 1)} }, api.ErrWorld}, {func(w *api.World) { w.Faults = []api.Slip{slip(-1, 0)} }, api.ErrWorld}, {func(w *api.World) { w.Faults = []api.Slip{slip(0, -1)} }, api.ErrWorld}, {func(w *api.World) { w.Faults = []api.Slip{slip(0, 1), slip(1, 0), slip(99, 99)} }, api.OK},
		{func(w *api.World) { w.Covers = math.MinInt }, api.OK},
	} {
		w := world()
		x.f(&w)
		l, words, e := Letters(w, api.Plan{Of: []int{7}}, -1)
		if e == api.ErrPlan && x.want == api.OK {
			e = api.OK
		}
		o, f := Play(w)
		if Check(w) != x.want || e != x.want || x.want != api.OK && f != x.want || len(l)+len(words) > 0 || f != api.OK && len(o.Events)+len(o.Relays) > 0 {
			t.Error(i, Check(w), e, f)
		}
	}
}

func TestLetters(t *testing.T) {
	w := world()
	p, ok, e := plans.Make(w.Table, w.Tariff, w.Orders, w.Covers)
	if !ok || e != api.OK {
		t.Fatal(e)
	}
	secret := max(hashOf("registry", w.Seed), 1)
	for run, r := range p.Runs {
		l, words, e := Letters(w, p, run)
		var want []api.Words
		for i, o := range w.Orders {
			if p.Of[i] == run {
				a, _ := aliases.Alias(secret, o.Person, o.Dest)
				want = append(want, api.Words{a, i + 1, 1 + hashOf("word", w.Seed, i)})
			}
		}
		for j := range p.Covers[run] {
			want = append(want, api.Words{1, 1, j + 1})
		}
		if e != api.OK || !slices.Equal(words, want) || len(l) != len(want) {
			t.Fatal(run, words, want, e)
		}
		key := 1
		for _, n := range w.Table.Lines[r.Line].Offices {
			k, _ := elgamal.Public(w.Secrets[n])
			key, _ = group.Mul(key, k)
		}
		for k, s := range l {
			x, _ := elgamal.Seal(key, want[k], [3]int{hashOf("seal", w.Seed, run, k, 0), hashOf("seal", w.Seed, run, k, 1), hashOf("seal", w.Seed, run, k, 2)})
			if s != x {
				t.Error(run, k)
			}
		}
	}
	for i, x := range []struct {
		covers, run int
		p           api.Plan
		want        api.Errno
	}{{20, -1, p, api.ErrArg}, {20, len(p.Runs), p, api.ErrArg}, {20, -1, api.Plan{}, api.ErrPlan}, {1, 0, p, api.ErrPlan}} {
		y := w
		y.Covers = x.covers
		if l, words, e := Letters(y, x.p, x.run); e != x.want || len(l)+len(words) > 0 {
			t.Error(i, e)
		}
	}
}

func TestExamples(t *testing.T) {
	if o, e := Play(api.World{Tariff: world().Tariff}); e != api.OK || !reflect.DeepEqual(o.Plan, api.Plan{}) || len(o.Events)+len(o.Moves)+len(o.Flow.Lots)+len(o.Relays)+o.Flow.Senders > 0 {
		t.Error(e)
	}
	for i, x := range []struct {
		f    func(w *api.World)
		want api.Errno
	}{
		{func(w *api.World) { w.Orders[0].By = 20 }, api.ErrPlan}, {func(w *api.World) { w.Orders, w.Faults = nil, []api.Slip{{}} }, api.ErrWorld}, {func(w *api.World) { w.Faults = []api.Slip{{Run: 3}} }, api.ErrWorld}, {func(w *api.World) { w.Faults = []api.Slip{{Run: 2}} }, api.ErrFault}, {func(w *api.World) { w.Faults = []api.Slip{{Run: 2, Fault: api.Fault{Kind: 5, Leg: 3}}} }, api.ErrFault},
		{func(w *api.World) { w.Covers = -1 }, api.ErrPlan},
		{func(w *api.World) {
			w.Table.Lines = append(w.Table.Lines, api.Line{Offices: []int{1, 4}, Legs: []int{1}, Classes: 3, Room: 6, Rules: []api.Rule{{First: 0, Until: 3000, Every: 1}}})
			w.Orders[0].By = 3000
		}, api.ErrLimit},
		{func(w *api.World) {
			// 40 orders and 60 covers.
			w.Covers = 1000
			for i := range w.Table.Lines {
				w.Table.Lines[i].Room = 64
			}
			w.Orders = slices.Repeat([]api.Order{order(0, 0, 2, func(o *api.Order) { o.Crowd = 63 })}, 33)
			w.Orders = append(w.Orders, order(0, 0, 3))
			w.Orders[33].Person = 2
		}, api.ErrWorld},
		// A leg is handed on, and the fund has nothing for the covers.
		{func(w *api.World) {
			w.Orders, w.Faults = w.Orders[:1], []api.Slip{{Fault: api.Fault{Leg: 1, Kind: api.RefuseF}}}
		}, api.ErrFunds},
	} {
		w := world()
		x.f(&w)
		if o, e := Play(w); e != x.want || len(o.Events)+len(o.Plan.Of) > 0 {
			t.Error(i, e)
		}
	}
}

func last(o api.Outcome, letter int) api.Event {
	var v api.Event
	for _, x := range o.Events {
		if x.Letter == letter {
			v = x
		}
	}
	return v
}

// TestEndings plays one letter from 0 to somebody at 2, who may have moved.
func TestEndings(t *testing.T) {
	entry := func(no, kind, a, b int) api.Entry {
		return api.Entry{No: no, Kind: kind, A: a, B: b, Until: api.End, Gone: api.End}
	}
	for i, x := range []struct {
		entries      []api.Entry
		otherwise    int
		kind, office int
	}{
		{[]api.Entry{lives(0, 0, 2, 0)}, api.ReturnX, api.DeliveredV, 2}, {[]api.Entry{lives(0, 0, 2, 0)}, api.HoldX, api.DeliveredV, 2},
		{[]api.Entry{lives(0, 0, 3, 0)}, api.ForwardX, api.ForwardedV, 3}, {[]api.Entry{lives(0, 0, 3, 0)}, api.ReturnX, api.ReturnedV, 2}, {[]api.Entry{lives(0, 0, 3, 0)}, api.HoldX, api.DeadV, 2},
		{[]api.Entry{lives(0, 0, 4, 0)}, api.ForwardX, api.DeadV, 2}, {[]api.Entry{lives(0, 0, 4, 0)}, api.ReturnX, api.ReturnedV, 2},
		{[]api.Entry{entry(0, api.DiedE, 0, 0)}, api.HoldX, api.ReturnedV, 2}, {[]api.Entry{entry(0, api.RefuseE, 0, 0)}, api.ForwardX, api.ReturnedV, 2}, {nil, api.ForwardX, api.DeadV, 2}, {nil, api.HoldX, api.DeadV, 2}, {nil, api.ReturnX, api.ReturnedV, 2},
		{[]api.Entry{entry(0, api.AgentE, 0, 5), lives(1, 5, 3, 0)}, api.ForwardX, api.ForwardedV, 3}, {[]api.Entry{entry(0, api.AgentE, 0, 5), lives(1, 5, 2, 0)}, api.ForwardX, api.DeliveredV, 2},
		// The run arrives at 50: what holds on that day counts.
		{[]api.Entry{lives(0, 0, 2, 0), lives(1, 0, 3, 50)}, api.ForwardX, api.ForwardedV, 3}, {[]api.Entry{lives(0, 0, 2, 0), lives(1, 0, 3, 51)}, api.ForwardX, api.DeliveredV, 2},
	} {
		w := world()
		w.Orders = []api.Order{order(0, 0, 2, otherwise(x.otherwise))}
		w.Entries = x.entries
		o, e := Play(w)
		want := []api.Event{{Letter: 0, Kind: api.PostedV, Time: 5, Office: -1}, {Letter: 0, Kind: api.MixedV, Time: 50, Office: 2}, {Letter: 0, Kind: x.kind, Time: 50, Office: x.office}}
		if e != api.OK || !slices.Equal(o.Events, want) {
			t.Error(i, o.Events, e)
		}
	}
}

// consistent checks what must hold of each outcome.
func consistent(t *testing.T, w api.World, o api.Outcome) {
	t.Helper()
	p, _, _ := plans.Make(w.Table, w.Tariff, w.Orders, w.Covers)
	if !reflect.DeepEqual(p, o.Plan) || custody.Check(o.Events) != api.OK || flows.Check(o.Flow) != api.OK || len(o.Events) != 3*len(w.Orders) || len(o.Relays) != len(p.Runs) {
		t.Fatal("the outcome", o.Events)
	}
	ends, e := flows.Map(o.Flow)
	if e != api.OK {
		t.Fatal(e)
	}
	handed, first, next := []int{}, o.Flow.Senders, len(w.Orders)
	for run, r := range p.Runs {
		var faults []api.Fault
		for _, s := range w.Faults {
			if s.Run == run {
				faults = append(faults, s.Fault)
			}
		}
		l, words, _ := Letters(w, p, run)
		x, e := relay.Run(w.Table, w.Secrets, r, l, faults, w.Seed)
		if e != api.OK || !reflect.DeepEqual(x, o.Relays[run]) {
			t.Error("the relay", run, e)
		}
		legs := 0
		for legs < len(w.Table.Lines[r.Line].Legs) && len(x.Jobs[legs].Bare) > 0 {
			legs++
		}
		handed = append(handed, legs)
		senders := ordersOf(p, run)
		for range p.Covers[run] {
			senders = append(senders, next)
			next++
		}
		if !slices.Equal(o.Flow.Lots[run].In, senders) {
			t.Error("the senders of a lot", run)
		}
		for k, s := range senders {
			at := k
			for leg, n := range w.Table.Lines[r.Line].Offices {
				if slices.Contains(x.Failed, n) || len(x.Jobs[leg].Bare) == 0 {
					continue
				}
				perm, _ := shuffle.Trace(relay.Turn(w.Seed, r, leg, len(l)))
				at = perm[at]
			}
			if ends[s] != first+at {
				t.Error("the end of a letter", s)
			}
			got, _ := elgamal.Read(x.Out[at])
			if s < len(w.Orders) && (got == words[k]) == (last(o, s).Kind == api.BlamedV) {
				t.Error("a letter that was lost", s)
			}
		}
		first += len(senders)
	}
	m, e := settle.All(w.Table, w.Tariff, w.Orders, p, handed)
	if e != api.OK || !slices.Equal(m, o.Moves) {
		t.Error("the moves", e)
	}
	if _, ok, _ := audit.Check(w.Table, w.Tariff, w.Orders, p, handed, o.Moves); !ok {
		t.Error("the audit")
	}
	start := make([]int, api.Account)
	for i := range w.Orders {
		start[api.SenderA+i] = 1000
	}
	if b, e := books.Balances(start, o.Moves); e != api.OK || b[api.EscrowA] != 0 || b[api.FundA] != 0 {
		t.Error("escrow and fund", e)
	}
}

func TestPlay(t *testing.T) {
	w := world()
	o, e := Play(w)
	if e != api.OK {
		t.Fatal(e)
	}
	consistent(t, w, o)
	for i, v := range o.Events {
		if want := [3]int{api.PostedV, api.MixedV, api.DeliveredV}[i%3]; v.Kind != want || v.Letter != i/3 || v.Time > w.Orders[i/3].By {
			t.Error(v)
		}
	}
	for _, r := range o.Relays {
		if len(r.Failed) > 0 {
			t.Error("an office fails without a fault")
		}
	}
}

func TestFaults(t *testing.T) {
	r := rand.New(rand.NewSource(67))
	lost, short := 0, 0
	for n := range 120 {
		w := world()
		w.Seed = digest.Sum([]byte{byte(n), 7})
		faulty := map[[2]int]bool{}
		for run := range 3 {
			for leg := range 3 {
				if r.Intn(3) > 0 {
					continue
				}
				f := api.Fault{Leg: leg, Kind: 1 + r.Intn(6), At: r.Intn(2)}
				if f.Kind == api.RefuseF {
					f.At = 0
				}
				w.Faults = append(w.Faults, api.Slip{Run: run, Fault: f})
				faulty[[2]int{run, leg}] = f.Kind <= api.BareF
			}
		}
		o, e := Play(w)
		if e == api.ErrFunds {
			short++
			continue
		}
		if e != api.OK {
			t.Fatal(e)
		}
		consistent(t, w, o)
		blamed := 0
		for i := range w.Orders {
			v := last(o, i)
			if v.Kind != api.BlamedV {
				continue
			}
			blamed++
			run := o.Plan.Of[i]
			leg := slices.Index(w.Table.Lines[o.Plan.Runs[run].Line].Offices, v.Office)
			if !faulty[[2]int{run, leg}] || slices.Contains(o.Relays[run].Failed, v.Office) {
				t.Error("an office is blamed wrongly", v)
			}
		}
		lost += blamed
		if blamed > len(w.Faults) {
			t.Error("more letters are lost than there are faults", blamed)
		}
	}
	if lost < 10 || short == 120 {
		t.Error(lost, short)
	}
}

func TestHandedOn(t *testing.T) {
	w := world()
	w.Orders = []api.Order{order(0, 0, 2), order(0, 1, 2), order(0, 1, 2)}
	// The last office refuses: all legs were handed on nevertheless.
	for leg, want := range []int{0, 1, 2} {
		w.Faults = []api.Slip{{Run: 0, Fault: api.Fault{Leg: leg, Kind: api.RefuseF}}}
		o, e := Play(w)
		paid := 0
		for _, m := range o.Moves {
			if m.Why == api.LegM {
				paid++
			}
		}
		if e != api.OK || paid != 3*want || len(o.Relays[0].Failed) != 1 || last(o, 0).Kind != api.DeliveredV {
			t.Error(leg, paid, e)
		}
		consistent(t, w, o)
	}
}
