// Package whole checks the promises that join the layers, over whole periods of post.
package whole

import (
	"math/rand"
	"reflect"
	"slices"
	"testing"

	"franking/aliases"
	"franking/api"
	"franking/arbiter"
	"franking/audit"
	"franking/blind"
	"franking/bonds"
	"franking/books"
	"franking/chain"
	"franking/copies"
	"franking/custody"
	"franking/devices"
	"franking/digest"
	"franking/disk"
	"franking/elgamal"
	"franking/equal"
	"franking/flows"
	"franking/forward"
	"franking/gossip"
	"franking/group"
	"franking/handover"
	"franking/onetime"
	"franking/paths"
	"franking/plans"
	"franking/post"
	"franking/promise"
	"franking/refusals"
	"franking/relay"
	"franking/repairs"
	"franking/shuffle"
	"franking/stamps"
	"franking/stores"
)

func line(first int, offices ...int) api.Line {
	return api.Line{Offices: offices, Legs: slices.Repeat([]int{10}, len(offices)-1), Classes: 3, Room: 7, Rules: []api.Rule{{First: first, Until: first + 300, Every: 50}}}
}

// world returns a period with random orders, entries and, if it is asked for, faults.
func world(r *rand.Rand, faults bool) api.World {
	w := api.World{
		Table:   api.Timetable{Offices: 5, Lines: []api.Line{line(30, 0, 1, 2), line(20, 0, 4, 3), line(40, 2, 4, 3, 1), line(10, 3, 2)}},
		Tariff:  api.Tariff{Base: []int{40, 60}, Leg: []int{1, 2}, Tiers: []api.Tier{{From: 3, Extra: 5}}},
		People:  6,
		Covers:  24,
		Secrets: []int{11, 22, 33, 44, 55},
		Seed:    digest.Sum([]byte{byte(r.Intn(256)), byte(r.Intn(256)), byte(r.Intn(256))}),
	}
	for no := range r.Intn(8) {
		x := api.Entry{No: no, Kind: api.LivesE, A: r.Intn(6), B: r.Intn(4), From: r.Intn(100), Until: api.End, Gone: api.End}
		if r.Intn(4) == 0 {
			x.Kind, x.B = api.AgentE, (x.A+1+r.Intn(5))%6
		}
		w.Entries = append(w.Entries, x)
	}
	for range 1 + r.Intn(4) {
		ends := [][2]int{{0, 2}, {0, 3}, {2, 1}, {3, 2}}[r.Intn(4)]
		o := api.Order{From: ends[0], Dest: ends[1], Person: r.Intn(6), Class: r.Intn(2), After: r.Intn(90), Crowd: 1 + r.Intn(4), Pay: 500, Else: r.Intn(3)}
		o.By = o.After + 60 + r.Intn(150)
		for n := range 5 {
			if r.Intn(3) == 0 {
				o.Against = append(o.Against, n)
			}
		}
		w.Orders = append(w.Orders, o)
	}
	for run := range 3 {
		for leg := range 3 {
			if !faults || r.Intn(3) > 0 {
				continue
			}
			f := api.Fault{Leg: leg, Kind: 1 + r.Intn(6)}
			w.Faults = append(w.Faults, api.Slip{Run: run, Fault: f})
		}
	}
	return w
}

// fitted returns the world without faults in runs that its plan does not have, or legs that they do not have.
func fitted(w api.World, p api.Plan) api.World {
	w.Faults = slices.DeleteFunc(slices.Clone(w.Faults), func(s api.Slip) bool {
		return s.Run >= len(p.Runs) || s.Fault.Leg >= len(w.Table.Lines[p.Runs[s.Run].Line].Offices)
	})
	return w
}

// periods plays periods; those that cannot be planned have a refusal (P0.3).
func periods(t *testing.T, seed int64, n int, faults bool, visit func(w api.World, o api.Outcome)) {
	r := rand.New(rand.NewSource(seed))
	played, refused := 0, 0
	for range n {
		w := world(r, faults)
		p, ok, e := plans.Make(w.Table, w.Tariff, w.Orders, w.Covers)
		if e != api.OK {
			t.Fatal(e)
		}
		if !ok {
			refused++
			core, proof, ok, e := refusals.Least(w.Table, w.Tariff, w.Orders, w.Covers)
			var set []api.Order
			for _, i := range core {
				set = append(set, w.Orders[i])
			}
			if right, f := refusals.Check(w.Table, w.Tariff, set, w.Covers, proof); !ok || !right || e != api.OK || f != api.OK {
				t.Error("neither a plan nor a proof", e, f)
			}
			continue
		}
		w = fitted(w, p)
		o, e := post.Play(w)
		if e == api.ErrFunds {
			continue
		}
		if e != api.OK {
			t.Fatal(e)
		}
		played++
		visit(w, o)
	}
	if played < n/4 || refused == 0 {
		t.Error(played, refused)
	}
}

func lineOf(w api.World, o api.Outcome, run int) []int {
	return w.Table.Lines[o.Plan.Runs[run].Line].Offices
}

// TestDelivered: each letter ends exactly once, by its deadline, or an office is named that broke its way (P0.1).
func TestDelivered(t *testing.T) {
	periods(t, 1, 60, true, func(w api.World, o api.Outcome) {
		var by []int
		for _, x := range w.Orders {
			by = append(by, x.By)
		}
		if late, e := custody.Late(o.Events, by); e != api.OK || len(late) > 0 {
			t.Error("late letters", late, e)
		}
		for i := range w.Orders {
			kind, _ := custody.Status(o.Events, i)
			v := o.Events[3*i+2]
			run := o.Plan.Of[i]
			broke := slices.ContainsFunc(w.Faults, func(s api.Slip) bool {
				return s.Run == run && lineOf(w, o, run)[s.Fault.Leg] == v.Office
			})
			if kind == api.PostedV || kind == api.MixedV || kind == api.BlamedV && !broke {
				t.Error("a letter", i, kind, v)
			}
		}
	})
}

// TestHidden: against the coalition that an order names, its letter is hidden as promised, also if another letter is revealed (P0.2).
func TestHidden(t *testing.T) {
	periods(t, 2, 60, false, func(w api.World, o api.Outcome) {
		var lines [][]int
		for run := range o.Plan.Runs {
			lines = append(lines, lineOf(w, o, run))
		}
		for i, x := range w.Orders {
			seen, e := flows.View(o.Flow, lines, x.Against)
			crowd, f := promise.Crowd(seen, i)
			if e != api.OK || f != api.OK || crowd-1 < x.Crowd {
				t.Error("a letter is not hidden", i, crowd, x.Crowd, e, f)
			}
		}
	})
}

// TestRepaired: what is mended is a right plan, and what cannot be mended is weak (P0.3).
func TestRepaired(t *testing.T) {
	periods(t, 3, 40, false, func(w api.World, o api.Outcome) {
		weak, e := repairs.Weak(w.Table, w.Tariff, w.Orders, w.Covers, o.Plan)
		for run := range o.Plan.Runs {
			q, ok, f := repairs.Repair(w.Table, w.Tariff, w.Orders, w.Covers, o.Plan, run)
			right, g := plans.Check(w.Table, w.Tariff, w.Orders, w.Covers, q)
			if e != api.OK || f != api.OK || g != api.OK || ok == slices.Contains(weak, run) || ok && !right {
				t.Error(run, ok, weak, right)
			}
		}
	})
}

// TestMixed: a shuffle of which all left halves, and all right halves, can be opened is a shuffle (P0.4).
func TestMixed(t *testing.T) {
	periods(t, 4, 30, false, func(w api.World, o api.Outcome) {
		for run, x := range o.Relays {
			for leg, j := range x.Jobs {
				turn := relay.Turn(w.Seed, o.Plan.Runs[run], leg, len(j.Bare))
				zeros := make([]int, len(j.Bare))
				ones := slices.Repeat([]int{1}, len(j.Bare))
				left, _ := shuffle.Open(turn, zeros)
				right, _ := shuffle.Open(turn, ones)
				rest := 1
				for _, n := range lineOf(w, o, run)[leg+1:] {
					k, _ := elgamal.Public(w.Secrets[n])
					rest, _ = group.Mul(rest, k)
				}
				perm, ok := shuffle.Whole(zeros, left, right)
				want, _ := shuffle.Trace(turn)
				if !ok || !slices.Equal(perm, want) || !shuffle.Check(rest, j.Mix, zeros, left) || !shuffle.Check(rest, j.Mix, ones, right) {
					t.Error("a shuffle", run, leg)
				}
			}
		}
	})
}

// TestMoved: what an office sees does not depend on where else people live (P0.5).
func TestMoved(t *testing.T) {
	w := world(rand.New(rand.NewSource(5)), false)
	lives := func(no, a, b int) api.Entry {
		return api.Entry{No: no, Kind: api.LivesE, A: a, B: b, Until: api.End, Gone: api.End}
	}
	here, there := []api.Entry{lives(0, 0, 2), lives(1, 1, 3)}, []api.Entry{lives(0, 0, 2), lives(1, 1, 0), lives(2, 4, 3)}
	a, _ := aliases.Book(9, here, 6, 2, 5, 5)
	b, _ := aliases.Book(9, there, 6, 2, 5, 5)
	if !slices.Equal(a, b) || len(a) != 1 {
		t.Error("the book of an office", a, b)
	}
	var keys []int
	for range w.Table.Lines {
		keys = append(keys, 4)
	}
	alias, _ := aliases.Alias(9, 1, 0)
	x, e := forward.Next(w.Table, keys, 9, here, 6, 0, alias, 5, 5, 77)
	if e != api.OK || x.Home != (api.Home{Kind: api.DeliverH, Person: 1, Office: 3}) || w.Table.Lines[x.Back.Line].Offices[0] != 0 || onetime.Check(x.Back) != api.OK {
		t.Error(x, e)
	}
}

// TestPaid: no account is overdrawn, escrow and fund end at zero, and bonds pay what was promised (P0.6).
func TestPaid(t *testing.T) {
	periods(t, 6, 60, true, func(w api.World, o api.Outcome) {
		start := make([]int, api.Account)
		for i := range w.Orders {
			start[api.SenderA+i] = 1000
		}
		b, e := books.Balances(start, o.Moves)
		if e != api.OK || b[api.EscrowA] != 0 || b[api.FundA] != 0 {
			t.Error(b[api.EscrowA], b[api.FundA], e)
		}
		var handed []int
		for run, x := range o.Relays {
			n, legs := 0, len(lineOf(w, o, run))-1
			for n < legs && len(x.Jobs[n].Bare) > 0 {
				n++
			}
			handed = append(handed, n)
		}
		if at, ok, e := audit.Check(w.Table, w.Tariff, w.Orders, o.Plan, handed, o.Moves); !ok || e != api.OK {
			t.Error("the audit", at, e)
		}
		// Whoever lost a letter pays for it from its bond.
		moves, _ := bonds.Deposit(w.Table.Offices, 60)
		left := slices.Repeat([]int{60}, w.Table.Offices)
		for i := range w.Orders {
			v := o.Events[3*i+2]
			if v.Kind != api.BlamedV {
				continue
			}
			offices := lineOf(w, o, o.Plan.Of[i])
			paid, e := bonds.Pay(offices, api.Verdict{Office: slices.Index(offices, v.Office), Why: api.MixY}, i, 45, left[v.Office])
			if e != api.OK || paid[0].Amount != min(45, left[v.Office]) {
				t.Error(paid, e)
			}
			left[v.Office] -= paid[0].Amount
			moves = append(moves, paid...)
		}
		free, _ := bonds.Free(left)
		moves = append(moves, free...)
		for i := range moves {
			moves[i].No = i
		}
		if b, e := books.Balances(make([]int, api.Account), moves); e != api.OK || slices.ContainsFunc(b[api.BondA:api.SenderA], func(n int) bool { return n != 0 }) {
			t.Error("bonds", e)
		}
	})
}

// TestOnce: a stamp, a return address and an order count once, whatever is forgotten (P0.7).
func TestOnce(t *testing.T) {
	bank, _ := elgamal.Public(999)
	begin, _ := blind.Begin(5)
	serial := devices.Serial(31, 7)
	c, _ := stamps.Ask(bank, begin, serial, 20, 3, 4)
	s, _ := blind.Answer(999, 5, c)
	stamp, e := stamps.Take(bank, begin, serial, 20, 3, 4, s)
	used, f := stamps.Spend(nil, bank, stamp)
	if _, g := stamps.Spend(used, bank, stamp); e != api.OK || f != api.OK || g != api.ErrUsed {
		t.Error("a stamp", e, f, g)
	}
	back, _ := onetime.Make(1, 16, 5, 9)
	tags, e := onetime.Spend(nil, back)
	if _, g := onetime.Spend(tags, back); e != api.OK || g != api.ErrUsed {
		t.Error("a return address", e, g)
	}
	_, first, _ := devices.Post(api.Device{}, 31, 7)
	// The device is restored from an old backup, and posts the order again.
	_, second, _ := devices.Post(api.Device{}, 31, 7)
	seen, ok := devices.Take(nil, first)
	if _, again := devices.Take(seen, second); !ok || again || first.Serial != serial {
		t.Error("an order", ok, again)
	}
}

// TestKept: an office that loses power keeps a beginning of its chain; who signs two batches for one slot is found by all (P0.8).
func TestKept(t *testing.T) {
	r := rand.New(rand.NewSource(8))
	for range 30 {
		d, _ := disk.New(80)
		j, l, _ := stores.Open(d)
		synced := 0
		for k := range 8 {
			j, l, _ = stores.Write(j, l, 3, []byte{byte(k)})
			if k == 3 {
				j, d, _ = stores.Sync(j, d)
				synced = 4
			}
		}
		d, _ = disk.Stop(d, r.Intn(6))
		_, d, _ = stores.Sync(j, d)
		_, m, e := stores.Open(disk.Restart(d))
		if _, differ, _ := chain.Part(l, m); e != api.OK || len(m) < synced || differ {
			t.Error(len(m), differ, e)
		}
	}
	hand := func(time int) api.Hand {
		h, _ := handover.Make(22, api.Hand{Run: api.Run{Line: 1, At: 5, Arrive: 9}, From: 1, To: 2, Many: 3, Time: time})
		return h
	}
	key, _ := elgamal.Public(22)
	room, _ := gossip.New(3)
	for i, h := range []api.Hand{hand(5), hand(6)} {
		room, _ = gossip.Do(room, api.Act{Kind: api.TellA, Peer: i, Hand: h})
	}
	for len(room.Net.Queue) > 0 {
		room, _ = gossip.Do(room, api.Act{Kind: api.DeliverA, At: r.Intn(len(room.Net.Queue))})
	}
	for n, p := range room.Peers {
		lies, e := copies.Find([]int{0, key, 0}, p.Hands)
		trusted, f := copies.Trust([]int{0, key, 0}, p.Hands)
		if e != api.OK || f != api.OK || len(lies) != 1 || !copies.Check(key, lies[0]) || len(trusted) > 0 {
			t.Error("a lie is not found by the node", n, e, f)
		}
	}
}

// complaint returns the case of the letter of an order, as the offices show it.
func complaint(t *testing.T, w api.World, o api.Outcome, i int) (offices []int, c api.Case) {
	run := o.Plan.Of[i]
	offices = lineOf(w, o, run)
	l, _, e := post.Letters(w, o.Plan, run)
	if e != api.OK {
		t.Fatal(e)
	}
	place := 0
	for k := range i {
		if o.Plan.Of[k] == run {
			place++
		}
	}
	c = api.Case{Run: o.Plan.Runs[run], First: l}
	batch := l
	for leg, no := range offices {
		key, _ := elgamal.Public(w.Secrets[no])
		j := o.Relays[run].Jobs[leg]
		if slices.Contains(o.Relays[run].Failed, no) || len(j.Bare) == 0 {
			j = api.Job{}
			j.Bare, j.Proofs, _ = equal.Bare(w.Secrets[no], batch)
			batch = j.Bare
		} else {
			batch = j.Mix.Out
		}
		c.Keys, c.Jobs = append(c.Keys, key), append(c.Jobs, j)
	}
	if c.Path, e = paths.Show(w, o.Plan, run, place); e != api.OK {
		t.Fatal(e)
	}
	return offices, c
}

// TestBlamed: the office that is named did break the way of the letter (P0.9); the period and the arbiter name the same one (P0.10).
func TestBlamed(t *testing.T) {
	named := 0
	periods(t, 9, 80, true, func(w api.World, o api.Outcome) {
		for i := range w.Orders {
			offices, c := complaint(t, w, o, i)
			v, e := arbiter.Judge(offices, c)
			last := o.Events[3*i+2]
			if e != api.OK || (v.Office >= 0) != (last.Kind == api.BlamedV) || v.Office >= 0 && offices[v.Office] != last.Office {
				t.Error("a verdict", v, last, e)
			}
			if v.Office < 0 {
				continue
			}
			named++
			run := o.Plan.Of[i]
			if !slices.ContainsFunc(w.Faults, func(s api.Slip) bool { return s.Run == run && s.Fault.Leg == v.Office }) {
				t.Error("an office that worked rightly is named", v)
			}
		}
	})
	if named < 5 {
		t.Error(named)
	}
}

// TestWhole: a period depends on its world alone (P0.10).
func TestWhole(t *testing.T) {
	periods(t, 10, 20, true, func(w api.World, o api.Outcome) {
		if again, e := post.Play(w); e != api.OK || !reflect.DeepEqual(again, o) {
			t.Error("another outcome", e)
		}
	})
}
