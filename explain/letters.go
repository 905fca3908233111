package explain

import (
	"iter"
	"slices"

	"franking/api"
)

// letters are the letters of a flow, each of which is to come to an end.
type letters struct {
	f       api.Flow
	a       []int
	unknown []int          // the unknown lots
	first   []int          // how many spots there are before each lot
	settled []int          // for each spot the one to which known lots lead
	ends    map[int]int    // the indices of the ends
	sets    map[int]uint64 // the ends to which spots lead, as sets of bits
	at      []int          // the places of the letters
}

func newLetters(f api.Flow, a []int) *letters {
	x := &letters{f: f, a: a, ends: map[int]int{}, sets: map[int]uint64{}}
	spots := f.Senders
	for k, lot := range f.Lots {
		if !lot.Known {
			x.unknown = append(x.unknown, k)
		}
		x.first = append(x.first, spots)
		spots += len(lot.In)
	}
	for spot := range spots {
		x.settled = append(x.settled, spot)
	}
	x.lead()
	for s := range f.Senders {
		x.at = append(x.at, x.settled[s])
	}
	return x
}

// lead finds where spots lead, from the last lot on.
func (x *letters) lead() {
	gone := make([]bool, len(x.settled))
	for _, lot := range x.f.Lots {
		for _, spot := range lot.In {
			gone[spot] = true
		}
	}
	for spot, g := range gone {
		if !g {
			x.sets[spot] = 1 << len(x.ends)
			x.ends[spot] = len(x.ends)
		}
	}
	for k, lot := range slices.Backward(x.f.Lots) {
		set := uint64(0)
		for i := range lot.In {
			set |= x.sets[x.settled[x.first[k]+i]]
		}
		for i, spot := range lot.In {
			if lot.Known {
				x.settled[spot] = x.settled[x.first[k]+lot.Perm[i]]
			} else {
				x.sets[spot] = set
			}
		}
	}
}

// leads reports whether the place of a sender leads to its end.
func (x *letters) leads(sender int) bool {
	end, ok := x.ends[x.a[sender]]
	return ok && x.sets[x.at[sender]]>>end&1 == 1
}

// lost returns the least sender whose place does not lead to its end.
func (x *letters) lost() (sender int, ok bool) {
	for s := range x.at {
		if !x.leads(s) {
			return s, true
		}
	}
	return 0, false
}

// hopeful reports whether the places of some senders lead to their ends.
func (x *letters) hopeful(senders []int) bool {
	return !slices.ContainsFunc(senders, func(s int) bool { return !x.leads(s) })
}

// shuffle moves the letters of an unknown lot, and returns their senders.
func (x *letters) shuffle(k int, p []int) (senders []int) {
	for _, spot := range x.f.Lots[k].In {
		senders = append(senders, slices.Index(x.at, spot))
	}
	for i, s := range senders {
		x.at[s] = x.settled[x.first[k]+p[i]]
	}
	return senders
}

// takeBack puts the letters of a lot back into it.
func (x *letters) takeBack(k int, senders []int) {
	for i, s := range senders {
		x.at[s] = x.f.Lots[k].In[i]
	}
}

// input is an input of an unknown lot: the first one that is not decided, and the places that the ones before it have.
type input struct {
	lot, in int
	places  []int
}

// lot returns the lot of an input.
func (x *letters) lot(next input) int { return x.unknown[next.lot] }

// free yields the places that no decided input has.
func (x *letters) free(next input) iter.Seq[int] {
	return func(yield func(place int) bool) {
		for place := range x.f.Lots[x.lot(next)].In {
			if !slices.Contains(next.places, place) && !yield(place) {
				return
			}
		}
	}
}

// put decides an input, and returns the sender of its letter.
func (x *letters) put(next input, place int) (sender int) {
	k := x.lot(next)
	sender = slices.Index(x.at, x.f.Lots[k].In[next.in])
	x.at[sender] = x.settled[x.first[k]+place]
	return sender
}

// back takes back what was decided.
func (x *letters) back(next input, sender int) {
	x.at[sender] = x.f.Lots[x.lot(next)].In[next.in]
}

// after returns the input that is decided next.
func (x *letters) after(next input, place int) input {
	if next.in+1 == len(x.f.Lots[x.lot(next)].In) {
		return input{lot: next.lot + 1}
	}
	return input{lot: next.lot, in: next.in + 1, places: append(slices.Clip(next.places), place)}
}
