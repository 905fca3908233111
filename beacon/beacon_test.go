package beacon

import (
	"math"
	"slices"
	"testing"

	"franking/api"
	"franking/digest"
)

func value(n int) api.Digest { return digest.Sum([]byte{byte(n)}) }

func pledges(t *testing.T, offices ...int) (l []api.Pledge, m []api.Reveal) {
	for _, n := range offices {
		p, e := Make(n, value(n))
		if e != api.OK {
			t.Fatal(n, e)
		}
		l, m = append(l, p), append(m, api.Reveal{Office: n, Value: value(n)})
	}
	return l, m
}

func TestMake(t *testing.T) {
	for _, n := range []int{-1, 24, math.MaxInt, math.MinInt} {
		if p, e := Make(n, value(1)); e != api.ErrBeacon || p != (api.Pledge{}) {
			t.Error(n, e)
		}
	}
	for _, n := range []int{0, 23} {
		d := value(n)
		want := digest.Tagged("pledge", append([]byte{3, 2, 1, byte(2 * n), 2, 32}, d[:]...))
		if p, e := Make(n, d); e != api.OK || p.Office != n || p.Commit != want {
			t.Error(n, e)
		}
	}
}

// drawn is the value for offices that open their pledges.
func drawn(offices ...int) api.Digest {
	b := []byte{3, byte(len(offices))}
	for _, n := range offices {
		d := value(n)
		b = append(append(b, 3, 2, 1, byte(2*n), 2, 32), d[:]...)
	}
	return digest.Tagged("beacon", b)
}

func TestValue(t *testing.T) {
	l, m := pledges(t, 0, 3, 7, 23)
	wrong := slices.Clone(m)
	wrong[1].Value[31]++
	swapped := slices.Clone(l)
	swapped[1].Commit = l[2].Commit
	for i, x := range []struct {
		l       []api.Pledge
		m       []api.Reveal
		want    api.Digest
		missing []int
	}{
		{nil, nil, drawn(), nil},
		{nil, m, drawn(), nil},
		{l, m, drawn(0, 3, 7, 23), nil},
		{l, nil, drawn(), []int{0, 3, 7, 23}},
		{l[1:2], nil, drawn(), []int{3}},
		{l, m[1:3], drawn(3, 7), []int{0, 23}},
		{l[1:3], m, drawn(3, 7), nil},
		{l, wrong, drawn(0, 7, 23), []int{3}},
		{swapped, m, drawn(0, 7, 23), []int{3}},
	} {
		if d, missing, e := Value(x.l, x.m); e != api.OK || d != x.want || !slices.Equal(missing, x.missing) {
			t.Error(i, missing, e)
		}
	}
}

func TestForm(t *testing.T) {
	l, m := pledges(t, 1, 2)
	for i, x := range []struct {
		l []api.Pledge
		m []api.Reveal
	}{
		{[]api.Pledge{l[0], l[0]}, nil}, {[]api.Pledge{l[1], l[0]}, nil}, {[]api.Pledge{{Office: -1}}, nil}, {[]api.Pledge{{Office: 24}}, nil}, {[]api.Pledge{{Office: math.MaxInt}}, nil},
		{l, []api.Reveal{m[0], m[0]}}, {l, []api.Reveal{m[1], m[0]}}, {nil, []api.Reveal{{Office: -1}}}, {nil, []api.Reveal{{Office: 24}}}, {nil, []api.Reveal{m[0], {Office: math.MinInt}}},
	} {
		if d, missing, e := Value(x.l, x.m); e != api.ErrBeacon || d != (api.Digest{}) || len(missing) > 0 {
			t.Error(i, e)
		}
	}
}

func TestBits(t *testing.T) {
	d := value(5)
	all, e := Bits(d, 4096)
	if e != api.OK || len(all) != 4096 {
		t.Fatal(e, len(all))
	}
	for i := range 16 {
		code := append(append([]byte{3, 2, 2, 32}, d[:]...), 1, byte(2*i))
		h := digest.Tagged("bits", code)
		for k := range 256 {
			if all[256*i+k] != int(h[k/8]>>(k%8))&1 {
				t.Error(i, k)
			}
		}
	}
	for _, n := range []int{0, 1, 7, 255, 256, 257, 4095} {
		if l, e := Bits(d, n); e != api.OK || !slices.Equal(l, all[:n]) {
			t.Error(n, e)
		}
	}
	for _, n := range []int{-1, 4097, math.MaxInt, math.MinInt} {
		if l, e := Bits(d, n); e != api.ErrArg || len(l) > 0 {
			t.Error(n, e)
		}
	}
}
