package stamps

import (
	"bytes"
	"math"
	"math/rand"
	"slices"
	"testing"

	"franking/api"
	"franking/blind"
	"franking/codec"
	"franking/digest"
	"franking/group"
	"franking/sign"
)

const secret = 4711

func bank() int {
	k, _ := group.Pow(api.G, secret)
	return k
}

func serial(n int) api.Digest { return digest.Sum([]byte{byte(n), byte(n >> 8)}) }

func text(d api.Digest, value int) []byte {
	l := []api.Value{{Kind: api.TextV, S: string(d[:])}, {Kind: api.IntV, N: value}}
	b, _ := codec.Encode(api.Value{Kind: api.ListV, L: l})
	return b
}

func signed(d api.Digest, value int) api.Stamp {
	x, _ := sign.Sign(secret, text(d, value))
	return api.Stamp{Serial: d, Value: value, Sig: x}
}

func TestCheck(t *testing.T) {
	for value, want := range map[int]bool{0: true, 5: true, 1 << 40: true, -1: false, 1<<40 + 1: false, math.MaxInt: false, math.MinInt: false} {
		s := signed(serial(1), value)
		if Check(bank(), s) != want {
			t.Error(value)
		}
		other := s
		other.Value++
		moved := s
		moved.Serial[0]++
		if Check(bank(), other) || Check(bank(), moved) || Check(4, s) || Check(2, s) || Check(0, s) {
			t.Error(value, "another stamp, or another key")
		}
	}
}

func TestIssue(t *testing.T) {
	r := rand.New(rand.NewSource(45))
	for i := range 30 {
		nonce, u, v, value := 1+r.Intn(api.Q-1), int(r.Uint64()), int(r.Uint64()), r.Intn(1<<40+1)
		begin, _ := blind.Begin(nonce)
		c, e := Ask(bank(), begin, serial(i), value, u, v)
		want, _ := blind.Ask(bank(), begin, text(serial(i), value), u, v)
		if c != want || e != api.OK {
			t.Error(c, e)
		}
		s, _ := blind.Answer(secret, nonce, c)
		x, e := Take(bank(), begin, serial(i), value, u, v, s)
		if e != api.OK || x.Serial != serial(i) || x.Value != value || !Check(bank(), x) {
			t.Error(x, e)
		}
		if x, e := Take(bank(), begin, serial(i), value, u, v, s+1); e != api.ErrBlind || x != (api.Stamp{}) {
			t.Error(e)
		}
		// Each right stamp fits each answer.
		other := signed(serial(100+i), i)
		a, b, ok := blind.Link(bank(), begin, c, s, text(other.Serial, other.Value), other.Sig)
		if y, e := Take(bank(), begin, other.Serial, other.Value, a, b, s); !ok || e != api.OK || y != other {
			t.Error("another stamp from this answer", e)
		}
		if c2, _ := Ask(bank(), begin, other.Serial, other.Value, a, b); c2 != c {
			t.Error("the same challenge")
		}
	}
	for i, x := range []struct {
		key, r, value int
		want          api.Errno
	}{{4, 4, -1, api.ErrStamp}, {2, 4, -1, api.ErrStamp}, {4, 4, 1<<40 + 1, api.ErrStamp}, {2, 4, 5, api.ErrGroup}, {4, 2, 5, api.ErrGroup}, {0, 0, 0, api.ErrGroup}, {4, 4, math.MinInt, api.ErrStamp}} {
		c, e := Ask(x.key, x.r, serial(1), x.value, 0, 0)
		y, f := Take(x.key, x.r, serial(1), x.value, 0, 0, 0)
		if e != x.want || f != x.want || c != 0 || y != (api.Stamp{}) {
			t.Error(i, e, f)
		}
	}
}

func compare(a, b api.Digest) int { return bytes.Compare(a[:], b[:]) }

func TestSpend(t *testing.T) {
	r := rand.New(rand.NewSource(46))
	used := []api.Digest{}
	for n, i := range r.Perm(30) {
		old := slices.Clone(used)
		y, e := Spend(used, bank(), signed(serial(i), i))
		if e != api.OK || len(y) != n+1 || !slices.IsSortedFunc(y, compare) || !slices.Contains(y, serial(i)) || !slices.Equal(used, old) {
			t.Fatal(i, e)
		}
		for _, d := range used {
			if !slices.Contains(y, d) {
				t.Error("a serial was lost")
			}
		}
		if z, e := Spend(y, bank(), signed(serial(i), i+1)); e != api.ErrUsed || len(z) > 0 {
			t.Error(e)
		}
		used = y
	}
	s := signed(serial(50), 5)
	for i, x := range []struct {
		used []api.Digest
		key  int
		s    api.Stamp
	}{{[]api.Digest{{1}, {1}}, bank(), s}, {[]api.Digest{{2}, {1}}, bank(), s}, {nil, 4, s}, {nil, bank(), signed(serial(1), -1)}, {[]api.Digest{s.Serial}, 4, s}, {[]api.Digest{{}, {}}, 4, api.Stamp{}}} {
		if y, e := Spend(x.used, x.key, x.s); e != api.ErrStamp || len(y) > 0 {
			t.Error(i, e)
		}
	}
	full := []api.Digest{}
	for i := range 4096 {
		full = append(full, api.Digest{byte(i >> 8), byte(i)})
	}
	if y, e := Spend(full, bank(), s); e != api.ErrLimit || len(y) > 0 {
		t.Error(e)
	}
	if y, e := Spend(full[1:], bank(), s); e != api.OK || len(y) != 4096 {
		t.Error(e)
	}
	full = append(full, s.Serial)
	slices.SortFunc(full, compare)
	if _, e := Spend(full, bank(), s); e != api.ErrUsed {
		t.Error(e)
	}
}
