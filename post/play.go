package post

import (
	"slices"

	"franking/api"
	"franking/elgamal"
	"franking/forward"
	"franking/plans"
	"franking/relay"
	"franking/settle"
	"franking/shuffle"
)

// outcome is what has happened so far.
type outcome struct{ api.Outcome }

// happen adds an event.
func (o *outcome) happen(letter, kind, time, office int) {
	o.Events = append(o.Events, api.Event{Letter: letter, Kind: kind, Time: time, Office: office})
}

// period is a period that is being played.
type period struct {
	outcome
	w     api.World
	keys  []int // of the lines
	trips []trip
}

// trip is how the letters of a run go.
type trip struct {
	run    api.Run
	line   api.Line
	batch  []api.Sealed
	words  []api.Words
	relay  api.Relay
	places [][]int // after each office, the places of the letters
}

// Play plays the period.
func Play(w api.World) (o api.Outcome, e api.Errno) {
	defer func() {
		if r := recover(); r != nil {
			o = api.Outcome{}
			e, _ = r.(api.Errno)
		}
	}()
	must(Check(w))
	p := &period{w: w}
	p.plan()
	for _, l := range w.Table.Lines {
		p.keys = append(p.keys, lineKey(w, l))
	}
	for run := range p.Plan.Runs {
		p.play(run)
	}
	p.settle()
	for i := range w.Orders {
		p.follow(i)
	}
	p.draw()
	return p.Outcome, api.OK
}

// plan makes the plan.
func (p *period) plan() {
	x, ok, e := plans.Make(p.w.Table, p.w.Tariff, p.w.Orders, p.w.Covers)
	must(e)
	require(ok, api.ErrPlan)
	all := len(p.w.Orders)
	for _, n := range x.Covers {
		all += n
	}
	require(all <= api.MaxSenders, api.ErrWorld)
	missing := func(s api.Slip) bool { return s.Run >= len(x.Runs) }
	require(!slices.ContainsFunc(p.w.Faults, missing), api.ErrWorld)
	p.Plan = x
}

// play brings the batch of a run along its line.
func (p *period) play(run int) {
	r := p.Plan.Runs[run]
	t := trip{run: r, line: p.w.Table.Lines[r.Line]}
	t.batch, t.words = letters(p.w, p.Plan, run)
	var faults []api.Fault
	for _, s := range p.w.Faults {
		if s.Run == run {
			faults = append(faults, s.Fault)
		}
	}
	var e api.Errno
	t.relay, e = relay.Run(p.w.Table, p.w.Secrets, r, t.batch, faults, p.w.Seed)
	must(e)
	t.trace(p.w.Seed)
	p.trips = append(p.trips, t)
	p.Relays = append(p.Relays, t.relay)
}

// isZero reports whether an office shows nothing of its work.
func isZero(j api.Job) bool {
	m := j.Mix
	return len(j.Bare)+len(j.Proofs)+len(m.In)+len(m.Mid)+len(m.Out)+len(m.Left)+len(m.Right) == 0 && j.Hand == api.Hand{}
}

// worked reports whether an office of the line has worked.
func (t *trip) worked(leg int) bool {
	return !slices.Contains(t.relay.Failed, t.line.Offices[leg]) && !isZero(t.relay.Jobs[leg])
}

// trace finds the places of all letters after each office.
func (t *trip) trace(seed api.Digest) {
	at := make([]int, len(t.batch))
	for k := range at {
		at[k] = k
	}
	for leg := range t.line.Offices {
		if t.worked(leg) {
			perm, e := shuffle.Trace(relay.Turn(seed, t.run, leg, len(at)))
			must(e)
			next := make([]int, len(at))
			for k := range at {
				next[k] = perm[at[k]]
			}
			at = next
		}
		t.places = append(t.places, at)
	}
}

// last returns the last office of the line.
func (t *trip) last() int { return t.line.Offices[len(t.line.Offices)-1] }

// says reports whether a letter says words, when some keys were taken off.
func says(s api.Sealed, secrets []int, words api.Words) bool {
	for _, secret := range secrets {
		x, e := elgamal.Strip(secret, s)
		must(e)
		s = x
	}
	got, e := elgamal.Read(s)
	must(e)
	return got == words
}

// through reports whether a letter has come through.
func (t *trip) through(k int) bool {
	at := t.places[len(t.places)-1][k]
	return says(t.relay.Out[at], nil, t.words[k])
}

// loser returns the first office of the line that lost a letter.
func (t *trip) loser(k int, secrets []int) int {
	for leg, no := range t.line.Offices {
		var rest []int
		for _, n := range t.line.Offices[leg+1:] {
			rest = append(rest, secrets[n])
		}
		if t.worked(leg) && !says(t.relay.Jobs[leg].Mix.Out[t.places[leg][k]], rest, t.words[k]) {
			return no
		}
	}
	return t.last()
}

// ending is a way in which a letter can end: if it applies, the event is of this kind, at this office.
type ending struct {
	kind    int
	applies func() bool
	office  func() int
}

// follow adds what happens to the letter of an order.
func (p *period) follow(i int) {
	o, t := p.w.Orders[i], &p.trips[p.Plan.Of[i]]
	k := slices.Index(ordersOf(p.Plan, p.Plan.Of[i]), i)
	p.happen(i, api.PostedV, o.After, -1)
	p.happen(i, api.MixedV, t.run.Arrive, t.last())
	x, e := forward.Next(p.w.Table, p.keys, registrySecret(p.w), p.w.Entries, p.w.People, t.last(), t.words[k][0], t.run.Arrive, t.run.Arrive, hash("forward", p.w.Seed, i))
	must(e)
	delivers := x.Home.Kind == api.DeliverH
	for _, y := range []ending{
		{api.BlamedV, func() bool { return !t.through(k) }, func() int { return t.loser(k, p.w.Secrets) }},
		{api.DeliveredV, func() bool { return delivers && x.Home.Office == t.last() }, t.last},
		{api.ForwardedV, func() bool { return delivers && o.Else == api.ForwardX }, func() int { return x.Home.Office }},
		{api.ReturnedV, func() bool { return x.Home.Kind == api.ReturnH || o.Else == api.ReturnX }, t.last},
		{api.DeadV, func() bool { return true }, t.last},
	} {
		if y.applies() {
			p.happen(i, y.kind, t.run.Arrive, y.office())
			return
		}
	}
}

// handed returns how many legs a run was handed on.
func (t *trip) handed() int {
	n := 0
	for n < len(t.line.Legs) && !isZero(t.relay.Jobs[n]) {
		n++
	}
	return n
}

// settle makes the book of the period.
func (p *period) settle() {
	var handed []int
	for _, t := range p.trips {
		handed = append(handed, t.handed())
	}
	m, e := settle.All(p.w.Table, p.w.Tariff, p.w.Orders, p.Plan, handed)
	must(e)
	p.Moves = m
}

// draw makes the flow of the period.
func (p *period) draw() {
	p.Flow.Senders = len(p.w.Orders)
	for run, t := range p.trips {
		in := ordersOf(p.Plan, run)
		for range p.Plan.Covers[run] {
			in = append(in, p.Flow.Senders)
			p.Flow.Senders++
		}
		p.Flow.Lots = append(p.Flow.Lots, api.Lot{In: in, Known: true, Perm: t.places[len(t.places)-1]})
	}
}
