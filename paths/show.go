package paths

import (
	"slices"

	"franking/api"
	"franking/group"
	"franking/post"
	"franking/relay"
	"franking/shuffle"
)

// sealedWith returns the numbers with which the letter at a place of a run was sealed.
func sealedWith(seed api.Digest, run, place int) (r [3]int) {
	for c := range r {
		r[c] = group.Hash("seal", text(seed, run, place, c))
	}
	return r
}

// worked reports whether an office with a job has worked.
func worked(r api.Relay, leg, no int) bool {
	j := r.Jobs[leg]
	zero := isBare(j) && len(j.Bare)+len(j.Proofs)+len(j.Mix.Left)+len(j.Mix.Right) == 0 && j.Hand == api.Hand{}
	return !zero && !slices.Contains(r.Failed, no)
}

// step returns what an office shows of the letter that has come to it at a place.
func step(t api.Turn, at int) (x api.Step) {
	n := len(t.Left)
	x = api.Step{At: at, Mid: slices.Index(t.Left, at)}
	left, _ := shuffle.Open(t, make([]int, n))
	right, _ := shuffle.Open(t, slices.Repeat([]int{1}, n))
	x.Left, x.Right = left[x.Mid], right[x.Mid]
	return x
}

// Show returns the path of a letter, as the offices and the sender reveal it.
func Show(w api.World, p api.Plan, run, place int) (x api.Path, e api.Errno) {
	l, words, e := post.Letters(w, p, run)
	if e != api.OK {
		return api.Path{}, e
	}
	if !index(place, len(l)) {
		return api.Path{}, api.ErrArg
	}
	var faults []api.Fault
	for _, s := range w.Faults {
		if s.Run == run {
			faults = append(faults, s.Fault)
		}
	}
	r := p.Runs[run]
	y, e := relay.Run(w.Table, w.Secrets, r, l, faults, w.Seed)
	if e != api.OK {
		return api.Path{}, e
	}
	x = api.Path{Place: place, Words: words[place], R: sealedWith(w.Seed, run, place)}
	at := place
	for leg, no := range w.Table.Lines[r.Line].Offices {
		s := api.Step{At: at, Mid: -1}
		if worked(y, leg, no) {
			s = step(relay.Turn(w.Seed, r, leg, len(l)), at)
			at = s.Right.At
		}
		x.Steps = append(x.Steps, s)
	}
	return x, api.OK
}
