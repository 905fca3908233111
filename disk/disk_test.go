package disk

import (
	"bytes"
	"math"
	"math/rand"
	"reflect"
	"testing"

	"franking/api"
)

func fresh(t *testing.T, n int) api.Disk {
	d, e := New(n)
	if e != api.OK {
		t.Fatal(e)
	}
	return d
}

func write(t *testing.T, d api.Disk, at int, b ...byte) api.Disk {
	x, e := Write(d, at, b)
	if e != api.OK || Check(x) != api.OK {
		t.Fatal(at, e)
	}
	return x
}

func full(b byte) []byte { return bytes.Repeat([]byte{b}, 128) }

func TestNew(t *testing.T) {
	for _, n := range []int{0, -1, 4097, math.MaxInt, math.MinInt} {
		if d, e := New(n); e != api.ErrArg || len(d.Sectors) != 0 || d.Left != 0 {
			t.Error(n, e)
		}
	}
	for _, n := range []int{1, 7, 4096} {
		d := fresh(t, n)
		if len(d.Sectors) != n || d.Left != -1 || d.Stopped || len(d.Pending) != 0 || Check(d) != api.OK {
			t.Error(n)
		}
		if b, e := Read(d, n-1); e != api.OK || !bytes.Equal(b, full(0)) {
			t.Error(n, e)
		}
	}
}

func TestCheck(t *testing.T) {
	good := fresh(t, 2)
	for i, change := range []func(d *api.Disk){
		func(d *api.Disk) { d.Sectors = nil },
		func(d *api.Disk) { d.Sectors = [][]byte{full(1), full(1)[:127]} },
		func(d *api.Disk) { d.Sectors = [][]byte{nil, full(1)} },
		func(d *api.Disk) { d.Sectors = make([][]byte, 4097) },
		func(d *api.Disk) { d.Left = -2 },
		func(d *api.Disk) { d.Left = 65537 },
		func(d *api.Disk) { d.Pending = []api.Write{{At: 2, Data: full(1)}} },
		func(d *api.Disk) { d.Pending = []api.Write{{At: -1, Data: full(1)}} },
		func(d *api.Disk) { d.Pending = []api.Write{{At: 0, Data: full(1)[:5]}} },
		func(d *api.Disk) {
			for range 4097 {
				d.Pending = append(d.Pending, api.Write{Data: full(1)})
			}
		},
	} {
		d := good
		change(&d)
		_, e1 := Read(d, 0)
		_, e2 := Write(d, 0, full(1)[:4])
		_, e3 := Sync(d)
		_, e4 := Stop(d, -1)
		for _, e := range []api.Errno{Check(d), e1, e2, e3, e4} {
			if e != api.ErrDisk {
				t.Error(i, e)
			}
		}
	}
	d := Restart(api.Disk{})
	if !reflect.DeepEqual(d, api.Disk{Left: -1}) || Check(api.Disk{}) != api.ErrDisk {
		t.Error(d)
	}
}

func TestStopped(t *testing.T) {
	d := write(t, fresh(t, 2), 0, 1)
	d.Stopped = true
	_, e1 := Read(d, 0)
	_, e2 := Write(d, 0, make([]byte, 200))
	x, e3 := Sync(d)
	_, e4 := Stop(d, -1)
	if e1 != api.ErrDisk || e2 != api.ErrDisk || e3 != api.ErrDisk || e4 != api.ErrDisk || Check(d) != api.OK || x.Sectors != nil {
		t.Error(e1, e2, e3, e4)
	}
	r := Restart(d)
	if b, e := Read(r, 0); e != api.OK || !bytes.Equal(b, full(0)) || r.Stopped || r.Left != -1 || len(r.Pending) != 0 {
		t.Error("what was not synced is lost")
	}
}

func TestReadWrite(t *testing.T) {
	d := write(t, fresh(t, 2), 1, 7, 8)
	d = write(t, d, 1, 9)
	if b, e := Read(d, 1); e != api.OK || !bytes.Equal(b, append([]byte{9}, make([]byte, 127)...)) {
		t.Error(b, e)
	}
	for _, at := range []int{-1, 2, math.MaxInt} {
		_, e := Read(d, at)
		_, f := Write(d, at, make([]byte, 129))
		if e != api.ErrDisk || f != api.ErrDisk {
			t.Error(at, e, f)
		}
	}
	if _, e := Write(d, 0, make([]byte, 129)); e != api.ErrArg {
		t.Error(e)
	}
	for range 4094 {
		d = write(t, d, 0, 1)
	}
	if _, e := Write(d, 0, nil); e != api.ErrLimit {
		t.Error(e)
	}
	if _, e := Write(d, 0, make([]byte, 129)); e != api.ErrArg {
		t.Error(e)
	}
}

func TestShared(t *testing.T) {
	d := write(t, fresh(t, 2), 0, 1)
	a, b := write(t, d, 0, 2), write(t, d, 0, 3)
	x, _ := Read(a, 0)
	y, _ := Read(b, 0)
	if x[0] != 2 || y[0] != 3 {
		t.Error("two continuations of one disk share their writes")
	}
	if s, _ := Sync(a); d.Sectors[0][0] != 0 || s.Sectors[0][0] != 2 {
		t.Error("a sync changes its argument")
	}
}

func TestSync(t *testing.T) {
	base := fresh(t, 3)
	base = write(t, base, 0, full(1)...)
	base = write(t, base, 1, full(2)...)
	base, _ = Sync(base)
	for left := -1; left < 5; left++ {
		d := base
		if left >= 0 {
			d, _ = Stop(d, left)
		}
		d = write(t, d, 0, full(5)...)
		d = write(t, d, 1, full(6)...)
		d = write(t, d, 0, full(7)...)
		x, e := Sync(d)
		half := func(a, b byte) []byte { return append(full(a)[:64:64], full(b)[:64]...) }
		want := [][2][]byte{
			{full(7), full(6)}, {half(5, 1), full(2)}, {full(5), half(6, 2)}, {half(7, 5), full(6)}, {full(7), full(6)}, {full(7), full(6)},
		}[left+1]
		if !bytes.Equal(x.Sectors[0], want[0]) || !bytes.Equal(x.Sectors[1], want[1]) || len(x.Pending) != 0 || Check(x) != api.OK {
			t.Error(left)
		}
		stops := left >= 0 && left < 3
		rest := map[int]int{-1: -1, 0: 0, 1: 0, 2: 0, 3: 0, 4: 1}[left]
		if (e == api.ErrDisk) != stops || x.Stopped != stops || x.Left != rest || e != api.OK && e != api.ErrDisk {
			t.Error(left, e, x.Stopped, x.Left)
		}
	}
	x, e := Stop(base, 0)
	if x, e = Sync(x); e != api.OK || x.Stopped || x.Left != 0 {
		t.Error("no writes are always performed", e)
	}
	for _, left := range []int{-1, 65537, math.MinInt} {
		if _, e := Stop(base, left); e != api.ErrArg {
			t.Error(left, e)
		}
	}
	if x, e := Stop(base, 65536); e != api.OK || x.Left != 65536 {
		t.Error(e)
	}
}

func TestConsequences(t *testing.T) {
	r := rand.New(rand.NewSource(4))
	for range 100 {
		one, all, last := fresh(t, 4), fresh(t, 4), map[int]byte{}
		for range r.Intn(12) {
			at, b := r.Intn(4), byte(r.Intn(256))
			last[at] = b
			one, all = write(t, one, at, b), write(t, all, at, b)
			one, _ = Sync(one)
		}
		for k := range 2 {
			for at, b := range last {
				if x, e := Read(all, at); e != api.OK || x[0] != b {
					t.Error(k, at, x[0], b)
				}
			}
			all, _ = Sync(all)
		}
		if !reflect.DeepEqual(one.Sectors, all.Sectors) {
			t.Error("one by one, or together")
		}
	}
}
