package relay

import (
	"cmp"
	"math"
	"math/rand"
	"reflect"
	"slices"
	"testing"

	"franking/api"
	"franking/beacon"
	"franking/codec"
	"franking/digest"
	"franking/elgamal"
	"franking/group"
	"franking/handover"
	"franking/office"
	"franking/shuffle"
)

func table() api.Timetable {
	return api.Timetable{Offices: 5, Lines: []api.Line{
		{Offices: []int{0, 1}, Legs: []int{5}, Classes: 1, Room: 9},
		{Offices: []int{3, 0, 4, 1}, Legs: []int{10, 20, 30}, Classes: 1, Room: 9, Rules: []api.Rule{{First: 100, Until: 101, Every: 1}}},
	}}
}

func line() []int { return []int{3, 0, 4, 1} }

func run() api.Run { return api.Run{Line: 1, At: 100, Arrive: 160} }

func secrets() []int { return []int{11, 22, 33, 44, 55} }

func key(offices ...int) int {
	k := 1
	for _, n := range offices {
		p, _ := elgamal.Public(secrets()[n])
		k, _ = group.Mul(k, p)
	}
	return k
}

func seed(n int) api.Digest { return digest.Sum([]byte{byte(n), byte(n >> 8)}) }

func letters(r *rand.Rand, n int) (l []api.Sealed, words []api.Words) {
	for range n {
		w := api.Words{1 + r.Intn(api.Q), 1 + r.Intn(api.Q), 1 + r.Intn(api.Q)}
		s, _ := elgamal.Seal(key(line()...), w, [3]int{r.Intn(api.Q), r.Intn(api.Q), r.Intn(api.Q)})
		l, words = append(l, s), append(words, w)
	}
	return l, words
}

func text(seed api.Digest, l ...int) []byte {
	v := api.Value{Kind: api.ListV, L: []api.Value{{Kind: api.TextV, S: string(seed[:])}}}
	for _, n := range l {
		v.L = append(v.L, api.Value{Kind: api.IntV, N: n})
	}
	b, _ := codec.Encode(v)
	return b
}

func TestTurnBits(t *testing.T) {
	d, r := seed(1), api.Run{Line: -3, At: math.MaxInt, Arrive: 7}
	for n := range 65 {
		x := Turn(d, r, 2, n)
		if _, e := shuffle.Trace(x); e != api.OK || len(x.Left) != n {
			t.Fatal(n, e)
		}
		number := func(kind, j int) int { return group.Hash("turn", text(d, -3, math.MaxInt, 7, 2, kind, j)) }
		sorted := func(kind int) []int {
			l := make([]int, n)
			for i := range l {
				l[i] = i
			}
			slices.SortStableFunc(l, func(a, b int) int { return cmp.Compare(number(kind, a), number(kind, b)) })
			return l
		}
		if !slices.Equal(x.Left, sorted(0)) || !slices.Equal(x.Right, sorted(1)) {
			t.Error(n, x.Left, x.Right)
		}
		for i := range n {
			for k := range 3 {
				if x.RL[i][k] != number(2, 3*i+k) || x.RR[i][k] != number(3, 3*i+k) {
					t.Error(n, i, k)
				}
			}
			for s := range 2 {
				if x.Salts[i][s] != digest.Tagged("salt", text(d, -3, math.MaxInt, 7, 2, i, s)) {
					t.Error(n, i, s)
				}
			}
		}
		want, _ := beacon.Bits(digest.Tagged("bits of", text(d, -3, math.MaxInt, 7, 2)), n)
		if !slices.Equal(Bits(d, r, 2, n), want) {
			t.Error("bits", n)
		}
	}
	for _, n := range []int{-1, 65, math.MaxInt, math.MinInt} {
		if x := Turn(d, r, 0, n); len(x.Left)+len(x.Salts) > 0 || len(Bits(d, r, 0, n)) > 0 {
			t.Error(n)
		}
	}
}

func TestOrder(t *testing.T) {
	if l := order(5, func(i int) int { return []int{3, 1, 3, 0, 1}[i] }); !slices.Equal(l, []int{3, 1, 4, 0, 2}) {
		t.Error(l)
	}
}

func TestErrors(t *testing.T) {
	r := rand.New(rand.NewSource(62))
	l, _ := letters(r, 65)
	bad := table()
	bad.Lines[0].Room = 0
	zero := slices.Clone(secrets())
	zero[4] = 0
	big := slices.Clone(secrets())
	big[2] = api.Q
	twice := []api.Sealed{l[0], l[1], l[0]}
	fault := func(l ...int) (f []api.Fault) {
		for i := 0; i < len(l); i += 3 {
			f = append(f, api.Fault{Leg: l[i], Kind: l[i+1], At: l[i+2]})
		}
		return f
	}
	odd := fault(9, 9, 9)
	for i, x := range []struct {
		t       api.Timetable
		secrets []int
		run     api.Run
		in      []api.Sealed
		faults  []api.Fault
		want    api.Errno
	}{
		{bad, nil, api.Run{}, l, odd, api.ErrLine}, {table(), zero[1:], api.Run{}, l, odd, api.ErrArg}, {table(), append(zero, 1), api.Run{}, l, odd, api.ErrArg}, {table(), zero, api.Run{}, l, odd, api.ErrKey}, {table(), big, run(), l, odd, api.ErrKey}, {table(), secrets(), api.Run{}, l, odd, api.ErrArg}, {table(), secrets(), api.Run{Line: 9}, l, odd, api.ErrArg},
		{table(), secrets(), run(), l, odd, api.ErrLimit}, {table(), secrets(), run(), make([]api.Sealed, 2), odd, api.ErrCipher}, {table(), secrets(), run(), twice, odd, api.ErrSeen}, {table(), secrets(), run(), l[:3], odd, api.ErrFault},
		{table(), secrets(), run(), l[:3], fault(4, 1, 0), api.ErrFault}, {table(), secrets(), run(), l[:3], fault(-1, 1, 0), api.ErrFault}, {table(), secrets(), run(), l[:3], fault(1, 1, 0, 1, 2, 0), api.ErrFault}, {table(), secrets(), run(), l[:3], fault(2, 1, 0, 1, 1, 0), api.ErrFault},
		{table(), secrets(), run(), l[:3], fault(0, 0, 0), api.ErrFault}, {table(), secrets(), run(), l[:3], fault(0, 7, 0), api.ErrFault}, {table(), secrets(), run(), l[:3], fault(0, 5, 1), api.ErrFault}, {table(), secrets(), run(), l[:3], fault(0, 5, -1), api.ErrFault},
		{table(), secrets(), run(), l[:3], fault(0, 3, 2), api.ErrFault}, {table(), secrets(), run(), l[:3], fault(0, 3, -1), api.ErrFault}, {table(), secrets(), run(), l[:3], fault(0, 3, 1), api.OK}, {table(), secrets(), run(), l[:1], fault(0, 3, 0), api.ErrFault},
		{table(), secrets(), run(), nil, fault(0, 1, 0), api.ErrFault}, {table(), secrets(), run(), nil, fault(0, 5, 0), api.OK}, {table(), secrets(), run(), nil, nil, api.OK}, {table(), secrets(), run(), l[:64], fault(3, 6, 63), api.OK},
		{table(), secrets(), run(), l[:3], fault(math.MinInt, math.MaxInt, 0), api.ErrFault},
	} {
		y, e := Run(x.t, x.secrets, x.run, x.in, x.faults, seed(0))
		if e != x.want || e != api.OK && len(y.Jobs)+len(y.Out)+len(y.Failed) > 0 {
			t.Error(i, e)
		}
	}
	for _, kind := range []int{1, 2, 4, 6} {
		for at, want := range map[int]api.Errno{-1: api.ErrFault, 0: api.OK, 2: api.OK, 3: api.ErrFault} {
			if _, e := Run(table(), secrets(), run(), l[:3], fault(0, kind, at), seed(0)); e != want {
				t.Error(kind, at, e)
			}
		}
	}
}

// honest is the job of an office by the definition.
func honest(s api.Digest, leg int, in []api.Sealed) api.Job {
	no := line()[leg]
	to := -1
	if leg < 3 {
		to = line()[leg+1]
	}
	o, _ := office.New(no, secrets()[no])
	h := api.Hand{Run: run(), Leg: leg, From: no, To: to, Time: []int{100, 110, 130, 160}[leg]}
	_, j, e := office.Work(o, key(line()[leg+1:]...), h, in, Turn(s, run(), leg, len(in)))
	if e != api.OK {
		panic(e)
	}
	return j
}

func strip(leg int, in []api.Sealed) (out []api.Sealed) {
	for _, s := range in {
		x, _ := elgamal.Strip(secrets()[line()[leg]], s)
		out = append(out, x)
	}
	return out
}

func TestWithoutFaults(t *testing.T) {
	r := rand.New(rand.NewSource(63))
	for n := range 7 {
		in, words := letters(r, n)
		x, e := Run(table(), secrets(), run(), in, nil, seed(n))
		if e != api.OK || len(x.Failed) > 0 || len(x.Jobs) != 4 || len(x.Out) != n {
			t.Fatal(e)
		}
		at, batch := make([]int, n), in
		for i := range at {
			at[i] = i
		}
		for leg, j := range x.Jobs {
			if !reflect.DeepEqual(j, honest(seed(n), leg, batch)) || j.Hand.Root != handover.Root(j.Mix.Out) {
				t.Error("a job", n, leg)
			}
			perm, _ := shuffle.Trace(Turn(seed(n), run(), leg, n))
			for i := range at {
				at[i] = perm[at[i]]
			}
			batch = j.Mix.Out
		}
		for i, w := range words {
			if got, _ := elgamal.Read(x.Out[at[i]]); got != w {
				t.Error("a letter", n, i)
			}
		}
	}
}

// TestFault plays one fault, and compares with what it must lead to.
func TestFault(t *testing.T) {
	r := rand.New(rand.NewSource(64))
	n, leg := 4, 1
	unnoticed := map[int]int{}
	for s := range 40 {
		in, _ := letters(r, n)
		first := honest(seed(s), 0, in)
		batch := first.Mix.Out
		good := honest(seed(s), leg, batch)
		turn, bits := Turn(seed(s), run(), leg, n), Bits(seed(s), run(), leg, n)
		rest := key(4, 1)
		for kind := api.DropF; kind <= api.OpenF; kind++ {
			at := s % 3
			if kind == api.RefuseF {
				at = 0
			}
			want, failed := good, true
			want.Mix.Out = slices.Clone(good.Mix.Out)
			opened := func(place int) bool { return bits[slices.Index(turn.Right, place)] == 1 }
			switch kind {
			case api.DropF:
				want.Mix.Out[at], _ = elgamal.Seal(rest, api.Words{1, 1, 1}, [3]int{1, 1, 1})
				failed = opened(at)
			case api.SwapF:
				want.Mix.Out[at], _ = elgamal.Seal(rest, api.Words{2, 2, 2}, [3]int{2, 2, 2})
				failed = opened(at)
			case api.TwiceF:
				want.Mix.Out[at+1] = want.Mix.Out[at]
				failed = opened(at + 1)
			case api.BareF:
				want.Bare = slices.Clone(good.Bare)
				want.Bare[at] = batch[at]
				want.Mix, _ = shuffle.Make(rest, want.Bare, turn)
			case api.RefuseF:
				want = api.Job{}
			}
			if kind < api.RefuseF {
				want.Hand.Root = handover.Root(want.Mix.Out)
				want.Hand, _ = handover.Make(secrets()[0], want.Hand)
			}
			x, e := Run(table(), secrets(), run(), in, []api.Fault{{Leg: leg, Kind: kind, At: at}}, seed(s))
			if e != api.OK || !reflect.DeepEqual(x.Jobs[leg], want) || !reflect.DeepEqual(x.Jobs[0], first) {
				t.Fatal("the job", kind, e)
			}
			next := want.Mix.Out
			if failed {
				next = strip(leg, batch)
				if !slices.Equal(x.Failed, []int{0}) {
					t.Error(kind, x.Failed)
				}
			} else {
				unnoticed[kind]++
				if len(x.Failed) > 0 {
					t.Error(kind, x.Failed)
				}
			}
			if kind == api.TwiceF && !failed {
				// Two letters are equal: nobody works on them any more, but nobody else fails.
				if !reflect.DeepEqual(x.Jobs[2:], make([]api.Job, 2)) || !slices.Equal(x.Out, strip(3, strip(2, next))) {
					t.Error("two equal letters")
				}
				continue
			}
			third := honest(seed(s), 2, next)
			if !reflect.DeepEqual(x.Jobs[2], third) || !reflect.DeepEqual(x.Jobs[3], honest(seed(s), 3, third.Mix.Out)) || !slices.Equal(x.Out, x.Jobs[3].Mix.Out) {
				t.Error("the offices behind", kind)
			}
		}
	}
	if unnoticed[api.DropF] == 0 || unnoticed[api.SwapF] == 0 || unnoticed[api.TwiceF] == 0 || unnoticed[api.BareF] > 0 || unnoticed[api.OpenF] > 0 || unnoticed[api.RefuseF] > 0 {
		t.Error(unnoticed)
	}
}

func TestSeenWithFault(t *testing.T) {
	r := rand.New(rand.NewSource(65))
	for s := range 200 {
		in, _ := letters(r, 2)
		x, _ := Run(table(), secrets(), run(), in, []api.Fault{{Leg: 0, Kind: api.TwiceF}}, seed(s))
		if len(x.Failed) > 0 {
			continue
		}
		// An office that cannot work has not failed, whatever its fault.
		for _, kind := range []int{api.RefuseF, api.DropF, api.OpenF} {
			y, e := Run(table(), secrets(), run(), in, []api.Fault{{Leg: 0, Kind: api.TwiceF}, {Leg: 1, Kind: kind}}, seed(s))
			if e != api.OK || !reflect.DeepEqual(y, x) {
				t.Error(kind, y.Failed, e)
			}
		}
		return
	}
	t.Error("no batch with two equal letters")
}

func TestWhatComesOut(t *testing.T) {
	r := rand.New(rand.NewSource(66))
	for s := range 150 {
		n := r.Intn(6)
		in, words := letters(r, n)
		var faults []api.Fault
		faulty := map[int]api.Fault{}
		for leg := range 4 {
			f := api.Fault{Leg: leg, Kind: 1 + r.Intn(6)}
			if f.Kind != api.RefuseF {
				if n < 2 {
					continue
				}
				f.At = r.Intn(n - 1)
			}
			if r.Intn(2) == 0 {
				faults = append(faults, f)
				faulty[line()[leg]] = f
			}
		}
		x, e := Run(table(), secrets(), run(), in, faults, seed(1000+s))
		if e != api.OK || len(x.Out) != n {
			t.Fatal(e)
		}
		harm := 0
		for no, f := range faulty {
			if f.Kind <= api.BareF && !slices.Contains(x.Failed, no) {
				harm++
			}
		}
		for _, no := range x.Failed {
			if _, ok := faulty[no]; !ok {
				t.Error("an office without a fault has failed", no)
			}
		}
		for leg, j := range x.Jobs {
			k, _ := elgamal.Public(secrets()[line()[leg]])
			if !reflect.DeepEqual(j, api.Job{}) && (!handover.Check(k, j.Hand) || j.Hand.Root != handover.Root(j.Mix.Out)) {
				t.Error("a hand-over", leg)
			}
		}
		said := map[api.Words]int{}
		for _, o := range x.Out {
			w, _ := elgamal.Read(o)
			said[w]++
		}
		lost := 0
		for _, w := range words {
			if said[w] == 0 {
				lost++
			}
		}
		if lost > harm {
			t.Error(faults, lost, harm)
		}
	}
}
