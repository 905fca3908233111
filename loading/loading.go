// Package loading keeps how runs are loaded while orders are put into them, one after the other, and sees early where no plan can follow.
//
// A plan of so many orders and covers has at most as many letters together. A run has as many letters as the greatest crowd in it needs, or as it has orders. So runs that are opened cost letters, which later orders can use.
package loading

import (
	"cmp"
	"slices"

	"franking/api"
)

// enough is more covers than any plan needs.
const enough = api.MaxOrders * api.MaxRoom

// nowhere is the run of an order that has none yet.
const nowhere = -1

// load is what is in a run: orders, and the greatest number of letters that one of them needs.
type load struct{ orders, crowd int }

func (l load) letters() int { return max(l.orders, l.crowd) }

// with returns the load with a further order.
func (l load) with(crowd int) load {
	return load{orders: l.orders + 1, crowd: max(l.crowd, crowd)}
}

// step is what putting an order has changed.
type step struct {
	run   int
	old   load
	seats []int
}

// State is orders of which the first ones have been put into runs.
type State struct {
	runs    []api.Run
	rooms   []int
	crowds  []int    // how many letters each order needs
	options [][]int  // the runs with which each order can go, in order
	users   []uint64 // the orders that can go with each run, as a set of bits
	rivals  []uint64 // the orders, itself among them, that share an option with each order
	loads   []load
	open    []int // the runs that have orders
	seats   []int // for each order a run, such that no run has too many
	taken   []int // how many orders have a seat in each run
	letters int   // in all runs
	most    int   // letters that there may be
	steps   []step
	failed  map[string]int
}

// New returns a state in which no order has been put; ok is false, if it is clear that there is no plan. Each order can go with its options alone, and the room of a run is enough for each of them.
func New(t api.Timetable, l []api.Order, options [][]api.Run, covers int) (s *State, ok bool) {
	s = &State{most: len(l) + min(covers, enough), failed: map[string]int{}}
	for _, o := range l {
		s.crowds = append(s.crowds, o.Crowd+1)
	}
	s.number(options)
	for _, r := range s.runs {
		s.rooms = append(s.rooms, t.Lines[r.Line].Room)
	}
	s.loads, s.taken = make([]load, len(s.runs)), make([]int, len(s.runs))
	s.seats = slices.Repeat([]int{nowhere}, len(l))
	for j := range l {
		if !s.seat(j, 0, make([]bool, len(s.runs))) {
			return nil, false
		}
	}
	return s, covers >= 0 && s.hopeful()
}

// Compare compares runs by At, then by Line.
func Compare(a, b api.Run) int {
	return cmp.Or(cmp.Compare(a.At, b.At), cmp.Compare(a.Line, b.Line))
}

// number gives numbers to all runs of the options.
func (s *State) number(options [][]api.Run) {
	numbers := map[api.Run]int{}
	for _, l := range options {
		for _, r := range l {
			if _, known := numbers[r]; !known {
				numbers[r] = len(s.runs)
				s.runs = append(s.runs, r)
			}
		}
	}
	s.users = make([]uint64, len(s.runs))
	for j, l := range options {
		var list []int
		for _, r := range l {
			list = append(list, numbers[r])
			s.users[numbers[r]] |= 1 << j
		}
		s.options = append(s.options, list)
	}
	for _, list := range s.options {
		rivals := uint64(0)
		for _, r := range list {
			rivals |= s.users[r]
		}
		s.rivals = append(s.rivals, rivals)
	}
}

// Next returns the order that is put next: how many have been put.
func (s *State) Next() int { return len(s.steps) }

// Done reports whether all orders have been put.
func (s *State) Done() bool { return s.Next() == len(s.crowds) }

// Options returns the numbers of the runs with which the next order can go, in order.
func (s *State) Options() []int { return s.options[s.Next()] }

// Run returns the run with a number.
func (s *State) Run(number int) api.Run { return s.runs[number] }

// Put puts the next order into a run. If it is clear that no plan follows, it returns false, and nothing changes.
func (s *State) Put(run int) bool {
	k := s.Next()
	if s.loads[run].orders == s.rooms[run] {
		return false
	}
	x := step{run: run, old: s.loads[run], seats: slices.Clone(s.seats)}
	if !s.settle(k, run) {
		s.reseat(x.seats)
		return false
	}
	s.steps = append(s.steps, x)
	s.change(run, x.old.with(s.crowds[k]))
	if x.old.orders == 0 {
		s.open = append(s.open, run)
	}
	if !s.hopeful() {
		s.Back()
		return false
	}
	return true
}

// Back takes the order that was put last out again.
func (s *State) Back() {
	last := len(s.steps) - 1
	x := s.steps[last]
	s.steps = s.steps[:last]
	s.change(x.run, x.old)
	if x.old.orders == 0 {
		s.open = s.open[:len(s.open)-1]
	}
	s.reseat(x.seats)
}

func (s *State) change(run int, l load) {
	s.letters += l.letters() - s.loads[run].letters()
	s.loads[run] = l
}

// Fail remembers that no plan follows.
func (s *State) Fail() {
	// With fewer letters that are left it fails as well.
	key, spent := s.key()
	s.failed[key] = max(s.failed[key], s.most-spent)
}

// key returns what matters for the orders that have not been put, and the letters of the runs that do not matter for them.
func (s *State) key() (key string, spent int) {
	b := []byte{byte(s.Next())}
	spent = s.letters
	for _, r := range slices.Sorted(slices.Values(s.open)) {
		if l := s.loads[r]; s.users[r]>>s.Next() != 0 {
			spent -= l.letters()
			b = append(b, byte(r>>16), byte(r>>8), byte(r), byte(l.orders), byte(l.crowd))
		}
	}
	return string(b), spent
}

// hopeful reports whether a plan may follow.
func (s *State) hopeful() bool {
	if s.letters+max(s.together(), s.apart()) > s.most {
		return false
	}
	if len(s.failed) == 0 {
		return true
	}
	key, spent := s.key()
	left, known := s.failed[key]
	return !known || s.most-spent > left
}
