package relay

import (
	"franking/api"
	"franking/beacon"
	"franking/codec"
	"franking/digest"
	"franking/group"
)

// draws is what is drawn for a leg.
type draws struct {
	seed api.Digest
	run  api.Run
	leg  int
}

// text returns the encoding of the list of the seed, the run, the leg and further numbers.
func (d draws) text(l ...int) []byte {
	v := api.Value{Kind: api.ListV, L: []api.Value{{Kind: api.TextV, S: string(d.seed[:])}}}
	for _, n := range append([]int{d.run.Line, d.run.At, d.run.Arrive, d.leg}, l...) {
		v.L = append(v.L, api.Value{Kind: api.IntV, N: n})
	}
	b, _ := codec.Encode(v)
	return b
}

// Kinds of numbers that are drawn for a turn.
const (
	leftN   = 0
	rightN  = 1
	leftRN  = 2
	rightRN = 3
)

func (d draws) number(kind, j int) int { return group.Hash("turn", d.text(kind, j)) }

// numbers returns the numbers with which the letter i is sealed again.
func (d draws) numbers(kind, i int) (r [3]int) {
	for k := range r {
		r[k] = d.number(kind, 3*i+k)
	}
	return r
}

func (d draws) salt(i, side int) api.Digest { return digest.Tagged("salt", d.text(i, side)) }

// Turn returns the turn that an office takes, by a seed.
func Turn(seed api.Digest, run api.Run, leg, n int) (t api.Turn) {
	if n < 0 || n > api.MaxRoom {
		return api.Turn{}
	}
	d := draws{seed: seed, run: run, leg: leg}
	t.Left = order(n, func(i int) int { return d.number(leftN, i) })
	t.Right = order(n, func(i int) int { return d.number(rightN, i) })
	for i := range n {
		t.RL = append(t.RL, d.numbers(leftRN, i))
		t.RR = append(t.RR, d.numbers(rightRN, i))
		t.Salts = append(t.Salts, [2]api.Digest{d.salt(i, 0), d.salt(i, 1)})
	}
	return t
}

// Bits returns the bits that are drawn for a leg.
func Bits(seed api.Digest, run api.Run, leg, n int) (l []int) {
	if n < 0 || n > api.MaxRoom {
		return nil
	}
	d := draws{seed: seed, run: run, leg: leg}
	l, _ = beacon.Bits(digest.Tagged("bits of", d.text()), n)
	return l
}
