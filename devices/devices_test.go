package devices

import (
	"math"
	"math/rand"
	"reflect"
	"slices"
	"testing"

	"franking/api"
	"franking/digest"
)

func device(t *testing.T, secret int, orders ...int) (d api.Device) {
	for _, n := range orders {
		x, p, e := Post(d, secret, n)
		if e != api.OK || p != (api.Posting{Order: n, Serial: Serial(secret, n)}) || !slices.Contains(x.Posted, p) || len(x.Posted) != len(d.Posted)+1 || Check(x) != api.OK {
			t.Fatal(n, e)
		}
		d = x
	}
	return d
}

func got(t *testing.T, d api.Device, orders ...int) api.Device {
	for _, n := range orders {
		x, e := Got(d, n)
		if e != api.OK || !slices.Contains(x.Got, n) || Check(x) != api.OK {
			t.Fatal(n, e)
		}
		d = x
	}
	return d
}

func many(n int) (d api.Device) {
	for i := range n {
		d.Posted = append(d.Posted, api.Posting{Order: 2 * i, Serial: Serial(1, 2*i)})
	}
	return d
}

func TestSerial(t *testing.T) {
	if Serial(5, -1) != digest.Tagged("serial", []byte{3, 2, 1, 10, 1, 1}) || Serial(math.MinInt, math.MaxInt) == Serial(math.MaxInt, math.MinInt) {
		t.Error("serial")
	}
}

func TestCheck(t *testing.T) {
	good := got(t, device(t, 9, 3, 5, 8), 5)
	for i, x := range []struct {
		d    api.Device
		want api.Errno
	}{
		{api.Device{}, api.OK}, {good, api.OK}, {api.Device{Got: []int{3}}, api.ErrDevice}, {api.Device{Posted: good.Posted, Got: []int{3, 5, 8}}, api.OK}, {api.Device{Posted: good.Posted, Got: []int{5, 3}}, api.ErrDevice}, {api.Device{Posted: good.Posted, Got: []int{3, 3}}, api.ErrDevice}, {api.Device{Posted: good.Posted, Got: []int{4}}, api.ErrDevice},
		{api.Device{Posted: []api.Posting{{Order: 3}, {Order: 3}}}, api.ErrDevice}, {api.Device{Posted: []api.Posting{{Order: 4}, {Order: 3}}}, api.ErrDevice}, {api.Device{Posted: []api.Posting{{Order: -1}}}, api.ErrDevice}, {api.Device{Posted: []api.Posting{{Order: 1<<20 + 1}}}, api.ErrDevice}, {api.Device{Posted: []api.Posting{{Order: 1 << 20}}}, api.OK},
		{many(4096), api.OK}, {many(4097), api.ErrLimit}, {api.Device{Posted: make([]api.Posting, 4097)}, api.ErrLimit},
	} {
		y, p, e1 := Post(x.d, 1, 7)
		z, e2 := Merge(x.d, api.Device{})
		_, e3 := Merge(api.Device{}, x.d)
		_, e4 := Got(x.d, -1)
		l, e5 := Owed(x.d)
		if x.want != api.OK {
			if Check(x.d) != x.want || e1 != x.want || e2 != x.want || e3 != x.want || e4 != x.want || e5 != x.want || len(y.Posted)+len(z.Posted)+len(l) > 0 || p != (api.Posting{}) {
				t.Error(i, Check(x.d), e1, e2, e3, e4, e5)
			}
		} else if Check(x.d) != api.OK || e2 != api.OK || e3 != api.OK || e4 != api.ErrArg || e5 != api.OK || !reflect.DeepEqual(z, x.d) {
			t.Error(i, Check(x.d), e2, e3, e4, e5)
		}
	}
	if _, e := Merge(many(4097), api.Device{Got: []int{1}}); e != api.ErrLimit {
		t.Error(e)
	}
	if _, e := Merge(api.Device{Got: []int{1}}, many(4097)); e != api.ErrDevice {
		t.Error(e)
	}
}

func TestPost(t *testing.T) {
	d := device(t, 9, 5, 3)
	if !slices.IsSortedFunc(d.Posted, byOrder) || d.Posted[0].Order != 3 {
		t.Error(d)
	}
	for _, x := range []struct {
		order int
		want  api.Errno
	}{{-1, api.ErrArg}, {1<<20 + 1, api.ErrArg}, {math.MinInt, api.ErrArg}, {3, api.ErrTwice}, {1 << 20, api.OK}, {0, api.OK}} {
		if _, _, e := Post(d, 9, x.order); e != x.want {
			t.Error(x, e)
		}
	}
	full := many(4096)
	for order, want := range map[int]api.Errno{1: api.ErrLimit, 4: api.ErrTwice, -1: api.ErrArg} {
		if _, _, e := Post(full, 1, order); e != want {
			t.Error(order, e)
		}
	}
	if x, _, e := Post(got(t, d, 3), 9, 4); e != api.OK || !slices.Equal(x.Got, []int{3}) || len(d.Posted) != 2 {
		t.Error(e)
	}
}

func TestGotOwed(t *testing.T) {
	d := got(t, device(t, 9, 3, 5), 5)
	if l, e := Owed(d); e != api.OK || !slices.Equal(l, []int{3}) {
		t.Error(l, e)
	}
	if l, e := Owed(api.Device{}); e != api.OK || len(l) > 0 {
		t.Error(l, e)
	}
	if x, e := Got(d, 5); e != api.OK || !reflect.DeepEqual(x, d) {
		t.Error(x, e)
	}
	for _, n := range []int{0, 4, -1, math.MaxInt} {
		if x, e := Got(d, n); e != api.ErrArg || len(x.Posted) > 0 {
			t.Error(n, e)
		}
	}
	if _, e := Got(api.Device{}, 0); e != api.ErrArg {
		t.Error(e)
	}
}

func TestMerge(t *testing.T) {
	a, b := got(t, device(t, 9, 3, 5, 8), 3), got(t, device(t, 9, 1, 5, 9), 5, 9)
	x, e := Merge(a, b)
	if want := got(t, device(t, 9, 1, 3, 5, 8, 9), 3, 5, 9); e != api.OK || !reflect.DeepEqual(x, want) {
		t.Error(x, e)
	}
	if y, e := Merge(a, device(t, 8, 1, 5)); e != api.ErrDevice || len(y.Posted) > 0 {
		t.Error(e)
	}
	odd := api.Device{}
	for i := range 2000 {
		odd.Posted = append(odd.Posted, api.Posting{Order: 2*i + 1})
	}
	if _, e := Merge(many(2096), odd); e != api.OK {
		t.Error(e)
	}
	if _, e := Merge(many(2097), odd); e != api.ErrLimit {
		t.Error(e)
	}
	if _, e := Merge(many(4096), many(4096)); e != api.OK {
		t.Error(e)
	}
	clash := odd
	clash.Posted = slices.Clone(odd.Posted)
	clash.Posted[0] = api.Posting{Order: 0}
	if _, e := Merge(many(4096), clash); e != api.ErrDevice {
		t.Error(e)
	}
}

func TestTake(t *testing.T) {
	r := rand.New(rand.NewSource(51))
	used := []api.Digest{}
	for n, i := range r.Perm(40) {
		p := api.Posting{Order: -r.Intn(5), Serial: Serial(3, i)}
		y, ok := Take(used, p)
		if !ok || len(y) != n+1 || len(used) != n || !slices.IsSortedFunc(y, bySerial) || !slices.Contains(y, p.Serial) {
			t.Fatal(i, ok)
		}
		p.Order = 7
		if z, ok := Take(y, p); ok || !slices.Equal(z, y) {
			t.Error("the same posting from a second device")
		}
		used = y
	}
	for _, l := range [][]api.Digest{{{1}, {1}}, {{2}, {1}}} {
		if y, ok := Take(l, api.Posting{Serial: api.Digest{9}}); ok || len(y) > 0 {
			t.Error(l, ok)
		}
	}
	full := []api.Digest{}
	for i := range 4096 {
		full = append(full, api.Digest{byte(i >> 8), byte(i)})
	}
	if y, ok := Take(full, api.Posting{Serial: api.Digest{255, 255}}); ok || !slices.Equal(y, full) {
		t.Error("4096 serials")
	}
	if y, ok := Take(full[1:], api.Posting{Serial: api.Digest{255, 255}}); !ok || len(y) != 4096 {
		t.Error("4095 serials")
	}
}

// TestOnce lets devices post, merge, forget and be restored: an office accepts each order once.
func TestOnce(t *testing.T) {
	r := rand.New(rand.NewSource(52))
	for range 60 {
		devices, old := make([]api.Device, 3), make([]api.Device, 3)
		used, accepted, given := []api.Digest{}, map[int]int{}, map[int]bool{}
		for range 60 {
			i, k, order := r.Intn(3), r.Intn(3), r.Intn(8)
			switch r.Intn(5) {
			case 0, 1:
				x, p, e := Post(devices[i], 77, order)
				if e == api.ErrTwice {
					continue
				}
				devices[i] = x
				given[order] = true
				y, ok := Take(used, p)
				if ok {
					accepted[order]++
				}
				used = y
			case 2:
				x, e := Merge(devices[i], devices[k])
				y, f := Merge(devices[k], devices[i])
				z, g := Merge(x, devices[i])
				if e != api.OK || f != api.OK || g != api.OK || !reflect.DeepEqual(x, y) || !reflect.DeepEqual(x, z) {
					t.Fatal("merging", e, f, g)
				}
				devices[i] = x
			case 3:
				old[i], devices[i] = devices[i], old[i]
			case 4:
				if x, e := Got(devices[i], order); e == api.OK {
					devices[i] = x
				}
			}
			for _, d := range devices {
				owed, _ := Owed(d)
				for _, n := range owed {
					if slices.Contains(d.Got, n) {
						t.Error("a receipt that has come is owed", n)
					}
				}
			}
		}
		for order := range given {
			if accepted[order] != 1 {
				t.Error(order, accepted[order])
			}
		}
	}
}
