package console

import (
	"cmp"
	"slices"
	"strconv"

	"franking/api"
	"franking/books"
	"franking/breakers"
	"franking/disk"
	"franking/flows"
	"franking/homes"
	"franking/journal"
	"franking/orders"
	"franking/plans"
	"franking/post"
	"franking/reach"
	"franking/refusals"
	"franking/registry"
	"franking/reports"
	"franking/syntax"
	"franking/timetable"
)

// What lines of the console are like, and how much there can be.
const (
	legMinutes = 10
	allClasses = 255
	lineRoom   = 6
	lineEvery  = 60
	lineLong   = 600
	maxFaults  = 64
	purse      = 1000000 // what each sender has at first
)

// change makes a world the current one; this can be taken back.
func (c *console) change(w api.World) {
	b := c.now()
	b.past.push(b.world)
	b.world = w
	c.line("ok")
}

// numbered returns names that begin with a letter.
func numbered(letter string, n int) (l []string) {
	for i := range n {
		l = append(l, letter+strconv.Itoa(i))
	}
	return l
}

// namesOf returns the names of a world.
func namesOf(w api.World) (n api.Names) {
	n = api.Names{Offices: numbered("o", w.Table.Offices), People: numbered("p", w.People), Classes: numbered("c", len(w.Tariff.Base))}
	for i := range w.People {
		h, e := homes.Where(w.Entries, i, 0, 0)
		must(e)
		if h.Kind != api.DeliverH {
			h.Office = i % w.Table.Offices
		}
		n.Homes = append(n.Homes, h.Office)
	}
	return n
}

func (c *console) order(x api.Command) {
	w := c.now().world
	wishes, _, e := syntax.Parse(x.Text)
	must(e)
	require(len(wishes) == 1, api.ErrOrder)
	l, e := orders.Resolve(namesOf(w), wishes)
	must(e)
	require(len(w.Orders) < api.MaxOrders, api.ErrLimit)
	w.Orders = append(slices.Clip(w.Orders), l...)
	c.change(w)
}

func (c *console) railway(x api.Command) {
	w := c.now().world
	over := []int{x.A, x.C, x.B}
	if x.C == x.A {
		over = []int{x.A, x.B}
	}
	l := api.Line{
		Offices: over, Legs: slices.Repeat([]int{legMinutes}, len(over)-1), Classes: allClasses, Room: lineRoom,
		Rules: []api.Rule{{First: x.D, Until: x.D + lineLong, Every: lineEvery}},
	}
	w.Table.Lines = append(slices.Clip(w.Table.Lines), l)
	must(timetable.Check(w.Table))
	c.change(w)
}

func (c *console) entry(x api.Command) {
	w := c.now().world
	no := 0
	if last := len(w.Entries) - 1; last >= 0 {
		no = w.Entries[last].No + 1
	}
	l, e := registry.Add(w.Entries, api.Entry{No: no, Kind: x.A, A: x.B, B: x.C, From: x.D, Until: api.End, Known: 0, Gone: api.End})
	must(e)
	w.Entries = l
	c.change(w)
}

func (c *console) fault(x api.Command) {
	w := c.now().world
	s := api.Slip{Run: x.A, Fault: api.Fault{Leg: x.B, Kind: x.C, At: x.D}}
	i, found := slices.BinarySearchFunc(w.Faults, s, func(a, b api.Slip) int {
		return cmp.Or(cmp.Compare(a.Run, b.Run), cmp.Compare(a.Fault.Leg, b.Fault.Leg))
	})
	require(!found, api.ErrTwice)
	require(len(w.Faults) < maxFaults, api.ErrLimit)
	w.Faults = slices.Insert(slices.Clip(w.Faults), i, s)
	c.change(w)
}

func (c *console) plan(api.Command) {
	w := c.now().world
	p, ok, e := plans.Make(w.Table, w.Tariff, w.Orders, w.Covers)
	must(e)
	if !ok {
		core, _, _, e := refusals.Least(w.Table, w.Tariff, w.Orders, w.Covers)
		must(e)
		c.line("no", "plan", core)
		return
	}
	for i, n := range p.Of {
		r := p.Runs[n]
		c.line("order", i, "run", r.Line, r.At, r.Arrive)
	}
	for n, r := range p.Runs {
		c.line("covers", r.Line, r.At, p.Covers[n])
	}
}

// played returns the outcome of the current world.
func (c *console) played() api.Outcome {
	o, e := post.Play(c.now().world)
	must(e)
	return o
}

// lines returns the lines of the runs of an outcome.
func (c *console) lines(o api.Outcome) (l [][]int) {
	for _, r := range o.Plan.Runs {
		l = append(l, c.now().world.Table.Lines[r.Line].Offices)
	}
	return l
}

func (c *console) play(api.Command) {
	for _, v := range c.played().Events {
		c.line("letter", v.Letter, "kind", v.Kind, "time", v.Time, "office", v.Office)
	}
}

func (c *console) ask(x api.Command) {
	o := c.played()
	var coalition []int
	for n := range c.now().world.Table.Offices {
		if x.B>>n&1 == 1 {
			coalition = append(coalition, n)
		}
	}
	seen, e := flows.View(o.Flow, c.lines(o), coalition)
	must(e)
	ends, e := reach.Ends(seen, x.A)
	must(e)
	c.line("crowd", len(ends))
}

func (c *console) breakers(x api.Command) {
	o := c.played()
	l, e := breakers.Least(o.Flow, c.lines(o), c.now().world.Table.Offices, x.A, x.B)
	must(e)
	for _, coalition := range l {
		c.line("coalition", coalition)
	}
	if len(l) == 0 {
		c.line("none")
	}
}

func (c *console) money(api.Command) {
	start := make([]int, api.Account)
	for i := range api.MaxOrders {
		start[api.SenderA+i] = purse
	}
	b, e := books.Balances(start, c.played().Moves)
	must(e)
	none := true
	for i, n := range b {
		if n != start[i] {
			c.line("account", i, n)
			none = false
		}
	}
	if none {
		c.line("none")
	}
}

func (c *console) back(api.Command) {
	b := c.now()
	w, ok := b.past.pop()
	require(ok, api.ErrArg)
	b.world = w
	c.line("ok")
}

func (c *console) branch(x api.Command) {
	require(x.A < branches, api.ErrArg)
	world := c.now().world
	c.current = x.A
	if b := c.now(); !b.set {
		*b = branch{set: true, world: world}
	}
	c.line("ok")
}

// printed returns the report of the current world.
func (c *console) printed() string {
	src, e := reports.Print(c.now().world)
	must(e)
	return src
}

func (c *console) report(api.Command) { c.out.WriteString(c.printed()) }

func (c *console) save(api.Command) {
	j, e := journal.Append(c.journal, []byte(c.printed()))
	must(e)
	j, d, e := journal.Sync(j, c.disk)
	must(e)
	c.journal, c.disk = j, d
	c.line("ok")
}

func (c *console) crash(x api.Command) {
	j, e := journal.Append(c.journal, []byte(c.printed()))
	must(e)
	d, e := disk.Stop(c.disk, x.A)
	must(e)
	// Whether the disk stops or not, it is restarted, and what is on it is read.
	_, d, _ = journal.Sync(j, d)
	c.disk = disk.Restart(d)
	c.journal, e = journal.Open(c.disk)
	must(e)
	w := firstWorld()
	if last := len(c.journal.Records) - 1; last >= 0 {
		w, _, e = reports.Read(string(c.journal.Records[last]))
		must(e)
	}
	*c.now() = branch{set: true, world: w}
	c.line("ok")
}
