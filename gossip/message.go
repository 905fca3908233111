package gossip

import (
	"franking/api"
	"franking/codec"
	"franking/handover"
)

// rootAt is the place of the root in a message.
const rootAt = 7

// numbers are the integers of a message, in order: rootAt of them stand before the root.
func numbers(h *api.Hand) [10]*int {
	return [10]*int{&h.Run.Line, &h.Run.At, &h.Run.Arrive, &h.Leg, &h.From, &h.To, &h.Many, &h.Time, &h.Sig.E, &h.Sig.S}
}

// message returns the message of a hand-over.
func message(h api.Hand) []byte {
	v := api.Value{Kind: api.ListV}
	for i, n := range numbers(&h) {
		if i == rootAt {
			v.L = append(v.L, api.Value{Kind: api.TextV, S: string(h.Root[:])})
		}
		v.L = append(v.L, api.Value{Kind: api.IntV, N: *n})
	}
	b, _ := codec.Encode(v)
	return b
}

// inForm reports whether a hand-over is: only then it clashes with one that differs in its root alone.
func inForm(h api.Hand) bool {
	other := h
	other.Root[0]++
	return handover.Clash(h, other)
}

// handOf returns the hand-over of a message.
func handOf(data []byte) (h api.Hand, ok bool) {
	v, e := codec.Decode(data)
	fields := numbers(&h)
	if e != api.OK || len(v.L) != len(fields)+1 {
		return api.Hand{}, false
	}
	root := v.L[rootAt]
	if root.Kind != api.TextV || len(root.S) != len(h.Root) {
		return api.Hand{}, false
	}
	copy(h.Root[:], root.S)
	for i, x := range append(v.L[:rootAt:rootAt], v.L[rootAt+1:]...) {
		if x.Kind != api.IntV {
			return api.Hand{}, false
		}
		*fields[i] = x.N
	}
	if !inForm(h) {
		return api.Hand{}, false
	}
	return h, true
}
