package reports

import (
	"iter"
	"slices"
	"strconv"
	"strings"

	"franking/api"
	"franking/post"
)

// wrong is the panic at a line that is wrong.
type wrong struct{ line int }

// Kinds of lines, in the order of a report.
const (
	noneL = iota
	worldL
	classL
	tierL
	lineL
	ruleL
	gapL
	orderL
	entryL
	secretL
	faultL
)

// kind says how lines with one first word are read.
type kind struct {
	no     int
	follow func(last int) bool // whether it may stand after a line of another kind
	form   func(n []int) bool  // whether its numbers have the right form
	read   func(w *api.World, n []int)
}

// upTo lets a line stand after all kinds up to one, but not at the beginning.
func upTo(no int) func(last int) bool {
	return func(last int) bool { return last >= worldL && last <= no }
}

// from lets a line stand after all kinds from one up to another one.
func from(first, no int) func(last int) bool {
	return func(last int) bool { return last >= first && last <= no }
}

// exactly asks for so many numbers.
func exactly(k int) func(n []int) bool { return func(n []int) bool { return len(n) == k } }

func kinds() map[string]kind {
	return map[string]kind{
		"world":  {worldL, func(last int) bool { return last == noneL }, exactly(3), readWorld},
		"class":  {classL, upTo(classL), exactly(2), readClass},
		"tier":   {tierL, upTo(tierL), exactly(2), readTier},
		"line":   {lineL, upTo(gapL), func(n []int) bool { return len(n) > 2 && n[2] >= 1 && len(n)-3 == 2*n[2]-1 }, readLine},
		"rule":   {ruleL, from(lineL, ruleL), exactly(3), readRule},
		"gap":    {gapL, from(lineL, gapL), exactly(2), readGap},
		"order":  {orderL, upTo(orderL), func(n []int) bool { return len(n) >= 10 && (n[8] == 0 || n[8] == 1) }, readOrder},
		"entry":  {entryL, upTo(entryL), exactly(8), readEntry},
		"secret": {secretL, upTo(secretL), exactly(1), readSecret},
		"fault":  {faultL, upTo(faultL), exactly(4), readFault},
	}
}

func readWorld(w *api.World, n []int) { w.People, w.Covers, w.Table.Offices = n[0], n[1], n[2] }

func readClass(w *api.World, n []int) {
	w.Tariff.Base, w.Tariff.Leg = append(w.Tariff.Base, n[0]), append(w.Tariff.Leg, n[1])
}

func readTier(w *api.World, n []int) {
	w.Tariff.Tiers = append(w.Tariff.Tiers, api.Tier{From: n[0], Extra: n[1]})
}

func readLine(w *api.World, n []int) {
	k := n[2]
	w.Table.Lines = append(w.Table.Lines, api.Line{Classes: n[0], Room: n[1], Offices: n[3 : 3+k], Legs: n[3+k:]})
}

// lastLine returns the line of the timetable to which rules and gaps belong.
func lastLine(w *api.World) *api.Line { return &w.Table.Lines[len(w.Table.Lines)-1] }

func readRule(w *api.World, n []int) {
	l := lastLine(w)
	l.Rules = append(l.Rules, api.Rule{First: n[0], Until: n[1], Every: n[2]})
}

func readGap(w *api.World, n []int) {
	l := lastLine(w)
	l.Off = append(l.Off, api.Gap{From: n[0], Until: n[1]})
}

func readOrder(w *api.World, n []int) {
	w.Orders = append(w.Orders, api.Order{
		From: n[0], Person: n[1], Dest: n[2], Class: n[3], After: n[4], By: n[5], Crowd: n[6], Pay: n[7], Back: n[8] == 1, Else: n[9], Against: n[10:],
	})
}

func readEntry(w *api.World, n []int) {
	w.Entries = append(w.Entries, api.Entry{No: n[0], Kind: n[1], A: n[2], B: n[3], From: n[4], Until: n[5], Known: n[6], Gone: n[7]})
}

func readSecret(w *api.World, n []int) { w.Secrets = append(w.Secrets, n[0]) }

func readFault(w *api.World, n []int) {
	w.Faults = append(w.Faults, api.Slip{Run: n[0], Fault: api.Fault{Leg: n[1], Kind: n[2], At: n[3]}})
}

// lines yields the lines of a text; ok tells whether a line has a line feed at its end.
func lines(src string) iter.Seq2[string, bool] {
	return func(yield func(line string, ok bool) bool) {
		for rest := src; rest != ""; {
			line, after, ok := strings.Cut(rest, "\n")
			if !yield(line, ok) {
				return
			}
			rest = after
		}
	}
}

// number returns the number of a word; each number is written in one way.
func number(word string) (n int, ok bool) {
	n, err := strconv.Atoi(word)
	return n, err == nil && inRange(n) && strconv.Itoa(n) == word
}

// seed returns the seed of a word.
func seed(word string) (d api.Digest, ok bool) {
	if len(word) != 2*len(d) {
		return api.Digest{}, false
	}
	for i := range len(word) {
		x := strings.IndexByte(hexDigits, word[i])
		if x < 0 {
			return api.Digest{}, false
		}
		d[i/2] = d[i/2]<<4 | byte(x)
	}
	return d, true
}

// reader reads lines; last is the kind of the line before.
type reader struct {
	table map[string]kind
	w     api.World
	last  int
}

// read reads a line, and reports whether it is right.
func (r *reader) read(line string) bool {
	words := strings.Split(line, " ")
	k, ok := r.table[words[0]]
	if !ok || !k.follow(r.last) {
		return false
	}
	words = words[1:]
	if k.no == worldL {
		if len(words) == 0 {
			return false
		}
		if r.w.Seed, ok = seed(words[len(words)-1]); !ok {
			return false
		}
		words = words[:len(words)-1]
	}
	n := make([]int, len(words))
	for i, word := range words {
		if n[i], ok = number(word); !ok {
			return false
		}
	}
	if !k.form(n) {
		return false
	}
	k.read(&r.w, slices.Clip(n))
	r.last = k.no
	return true
}

// Read reads a world.
func Read(src string) (w api.World, line int, e api.Errno) {
	defer func() {
		if p := recover(); p != nil {
			x, _ := p.(wrong)
			w, line, e = api.World{}, x.line, api.ErrReport
		}
	}()
	r, at := &reader{table: kinds()}, 0
	for text, ok := range lines(src) {
		at++
		if !ok || !r.read(text) {
			panic(wrong{line: at})
		}
	}
	if at == 0 {
		panic(wrong{line: 1})
	}
	if e = post.Check(r.w); e != api.OK {
		return api.World{}, 0, e
	}
	return r.w, 0, api.OK
}
