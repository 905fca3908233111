package loading

import (
	"math/bits"

	"franking/api"
)

// seat finds a seat for an order that has none. Orders from first on may have to leave their seats for others; nobody is asked to leave a run twice.
func (s *State) seat(j, first int, visited []bool) bool {
	for _, r := range s.options[j] {
		if visited[r] {
			continue
		}
		visited[r] = true
		if s.taken[r] < s.rooms[r] || s.leave(r, first, visited) {
			s.move(j, r)
			return true
		}
	}
	return false
}

// leave finds another seat for some order of a run.
func (s *State) leave(r, first int, visited []bool) bool {
	for i := first; i < len(s.seats); i++ {
		if s.seats[i] == r && s.seat(i, first, visited) {
			return true
		}
	}
	return false
}

func (s *State) move(j, r int) {
	if s.seats[j] != nowhere {
		s.taken[s.seats[j]]--
	}
	s.seats[j] = r
	if r != nowhere {
		s.taken[r]++
	}
}

// settle gives the order k a seat in a run, for good; an order after it may have to leave.
func (s *State) settle(k, r int) bool {
	s.move(k, r)
	if s.taken[r] <= s.rooms[r] {
		return true
	}
	for j := k + 1; j < len(s.seats); j++ {
		if s.seats[j] == r {
			s.move(j, nowhere)
			return s.seat(j, k+1, make([]bool, len(s.runs)))
		}
	}
	return false
}

// reseat gives all orders the seats that they had.
func (s *State) reseat(seats []int) {
	for j, r := range seats {
		s.move(j, r)
	}
}

// together returns how many letters the orders that have not been put add at least, all together: some of them use letters that runs have anyway, some make runs of more letters, and the others need runs of their own.
func (s *State) together() int {
	rest := len(s.crowds) - s.Next()
	free, wide, room, least := 0, 0, 1, api.MaxRoom+1
	for _, r := range s.open {
		l, users := s.loads[r], bits.OnesCount64(s.users[r]>>s.Next())
		free += min(l.letters()-l.orders, users)
		wide += min(s.rooms[r]-l.letters(), users)
	}
	for _, n := range s.rooms {
		room = max(room, n)
	}
	for _, c := range s.crowds[s.Next():] {
		least = min(least, c)
	}
	best := rest * (api.MaxRoom + 1)
	for own := max(0, rest-free-wide); own <= rest; own++ {
		runs := (own + room - 1) / room
		best = min(best, max(0, rest-free-own)+max(runs*least, own))
	}
	return best
}

// apart returns how many letters orders that have not been put add at least, if no two of them can go with one run: each one adds letters of its own.
func (s *State) apart() int {
	all, left := 0, ^uint64(0)<<s.Next()&(1<<len(s.crowds)-1)
	adds := make([]int, len(s.crowds))
	for j := s.Next(); j < len(s.crowds); j++ {
		adds[j] = s.adds(j)
	}
	for left != 0 {
		hardest := bits.TrailingZeros64(left)
		for j := hardest + 1; j < len(adds); j++ {
			if left>>j&1 == 1 && adds[j] > adds[hardest] {
				hardest = j
			}
		}
		all += adds[hardest]
		left &^= s.rivals[hardest]
	}
	return all
}

// adds returns how many letters an order adds at least.
func (s *State) adds(j int) int {
	least := s.crowds[j]
	for _, r := range s.open {
		if s.users[r]>>j&1 == 1 {
			least = min(least, s.loads[r].with(s.crowds[j]).letters()-s.loads[r].letters())
		}
	}
	return least
}
