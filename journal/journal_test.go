package journal

import (
	"bytes"
	"hash/crc32"
	"math"
	"math/rand"
	"slices"
	"testing"

	"franking/api"
	"franking/disk"
)

func fresh(n int) api.Disk {
	d, _ := disk.New(n)
	return d
}

func open(t *testing.T, d api.Disk) api.Journal {
	j, e := Open(d)
	if e != api.OK || Check(j) != api.OK || j.Synced != len(j.Records) || j.Many != len(d.Sectors) {
		t.Fatal(e, j.Synced)
	}
	return j
}

func same(a, b [][]byte) bool { return slices.EqualFunc(a, b, bytes.Equal) }

func record(n int, b byte) []byte { return bytes.Repeat([]byte{b}, n) }

// save puts records on a new disk, one sync for each.
func save(t *testing.T, sectors int, l ...[]byte) (api.Journal, api.Disk) {
	d := fresh(sectors)
	j := open(t, d)
	for _, b := range l {
		var e api.Errno
		if j, e = Append(j, b); e != api.OK {
			t.Fatal(e)
		}
		if j, d, e = Sync(j, d); e != api.OK {
			t.Fatal(e)
		}
	}
	return j, d
}

func TestOpen(t *testing.T) {
	if j := open(t, fresh(3)); len(j.Records) != 0 || j.Many != 3 {
		t.Error(j)
	}
	stopped := fresh(1)
	stopped.Stopped = true
	pending, _ := disk.Write(fresh(1), 0, nil)
	both := pending
	both.Stopped = true
	for i, x := range []struct {
		d    api.Disk
		want api.Errno
	}{{api.Disk{}, api.ErrDisk}, {stopped, api.ErrDisk}, {pending, api.ErrArg}, {both, api.ErrDisk}} {
		if j, e := Open(x.d); e != x.want || j.Many != 0 {
			t.Error(i, e)
		}
	}
}

// raw is a sector, written by the definition.
func raw(generation uint32, number int, flags, count byte, data ...byte) []byte {
	s := make([]byte, 128)
	copy(s[12:124], data)
	s[8], s[9], s[10], s[11] = byte(number>>8), byte(number), flags, count
	c := crc32.ChecksumIEEE(s[8:124])
	for k := range 4 {
		s[k], s[124+k], s[4+k] = byte(generation>>(24-8*k)), byte(generation>>(24-8*k)), byte(c>>(24-8*k))
	}
	return s
}

func on(sectors ...[]byte) api.Disk {
	d := fresh(len(sectors))
	d.Sectors = sectors
	return d
}

func TestForm(t *testing.T) {
	if checksum([]byte("123456789")) != 3421780262 {
		t.Error("checksum")
	}
	_, d := save(t, 300, []byte{1, 2}, nil, record(113, 9))
	for i, want := range [][]byte{raw(1, 0, 3, 2, 1, 2), raw(2, 1, 3, 0), raw(3, 2, 1, 112, record(112, 9)...), raw(3, 3, 2, 1, 9)} {
		if !bytes.Equal(d.Sectors[i], want) {
			t.Error(i, d.Sectors[i])
		}
	}
	_, d = save(t, 300, record(112*257, 1))
	if !bytes.Equal(d.Sectors[256], raw(1, 256, 2, 112, record(112, 1)...)) {
		t.Error("the last sector of a record that fills it")
	}
}

func TestSectors(t *testing.T) {
	torn := func(s []byte, at int) []byte {
		s[at]++
		return s
	}
	whole := record(112, 1)
	for i, x := range []struct {
		d    api.Disk
		want [][]byte
	}{
		{on(raw(5, 0, 3, 1, 7), raw(5, 1, 3, 1, 8)), [][]byte{{7}, {8}}},
		{on(raw(5, 0, 3, 1, 7), raw(6, 1, 3, 1, 8)), [][]byte{{7}, {8}}},
		{on(raw(5, 0, 3, 1, 7), raw(4, 1, 3, 1, 8)), [][]byte{{7}}},
		{on(raw(0, 0, 3, 1, 7)), nil},
		{on(raw(5, 1, 3, 1, 7)), nil},
		{on(raw(5, 0, 7, 1, 7)), nil},
		{on(raw(5, 0, 2, 1, 7)), nil},
		{on(raw(5, 0, 3, 1, 7, 8)), nil},
		{on(raw(5, 0, 3, 113, whole...)), nil},
		{on(raw(5, 0, 3, 112, whole...)), [][]byte{whole}},
		{on(raw(5, 0, 1, 112, whole...)), nil},
		{on(raw(5, 0, 1, 111, whole[1:]...), raw(5, 1, 2, 1, 8)), nil},
		{on(raw(5, 0, 1, 112, whole...), raw(5, 1, 2, 1, 8)), [][]byte{append(whole[:112:112], 8)}},
		{on(raw(5, 0, 1, 112, whole...), raw(5, 1, 2, 0)), nil},
		{on(raw(5, 0, 1, 112, whole...), raw(6, 1, 2, 1, 8)), nil},
		{on(raw(5, 0, 1, 112, whole...), raw(5, 2, 2, 1, 8)), nil},
		{on(raw(5, 0, 1, 112, whole...), raw(5, 1, 3, 1, 8)), nil},
		{on(raw(5, 0, 1, 112, whole...), raw(5, 1, 0, 112, whole...), raw(5, 2, 2, 1, 8)), [][]byte{append(append(whole[:112:112], whole...), 8)}},
		{on(raw(5, 0, 1, 112, whole...), raw(5, 1, 0, 112, whole...)), nil},
		{on(torn(raw(5, 0, 3, 1, 7), 0)), nil},
		{on(torn(raw(5, 0, 3, 1, 7), 127)), nil},
		{on(torn(raw(5, 0, 3, 1, 7), 4)), nil},
		{on(torn(raw(5, 0, 3, 1, 7), 12)), nil},
		{on(raw(math.MaxUint32, 0, 3, 0)), [][]byte{{}}},
	} {
		if j := open(t, x.d); !same(j.Records, x.want) {
			t.Error(i, j.Records)
		}
	}
}

func TestCheckRoomAppend(t *testing.T) {
	for i, j := range []api.Journal{
		{}, {Many: -1}, {Many: 4097}, {Many: 1, Synced: 1}, {Many: 1, Synced: -1}, {Many: 1, Records: [][]byte{nil, nil}}, {Many: 2, Records: [][]byte{record(225, 1)}},
		{Many: math.MaxInt}, {Many: math.MinInt},
	} {
		x, e := Append(j, nil)
		if Check(j) != api.ErrArg || Room(j) != 0 || e != api.ErrArg || x.Many != 0 {
			t.Error(i)
		}
		if _, _, e := Sync(j, api.Disk{}); e != api.ErrArg {
			t.Error(i, e)
		}
	}
	j := api.Journal{Many: 1}
	if Room(j) != 112 || Check(j) != api.OK {
		t.Error(Room(j))
	}
	if x, e := Append(j, record(113, 1)); e != api.ErrLimit || x.Many != 0 {
		t.Error(e)
	}
	j, e := Append(j, record(112, 1))
	if e != api.OK || Room(j) != 0 || len(j.Records) != 1 || j.Synced != 0 || j.Many != 1 {
		t.Error(e)
	}
	if _, e := Append(j, nil); e != api.ErrLimit {
		t.Error(e)
	}
	j, _ = Append(api.Journal{Many: 10}, nil)
	j, _ = Append(j, record(113, 1))
	if Room(j) != 7*112 {
		t.Error(Room(j))
	}
	a, _ := Append(j, []byte{1})
	b, _ := Append(j, []byte{2})
	if a.Records[2][0] != 1 || b.Records[2][0] != 2 {
		t.Error("two continuations share records")
	}
}

func TestSyncErrors(t *testing.T) {
	j, d := save(t, 3, []byte{1})
	stopped, pending := d, d
	stopped.Stopped = true
	pending, _ = disk.Write(pending, 2, nil)
	fewer := j
	fewer.Synced = 0
	other := j
	other.Records = [][]byte{{2}}
	more := api.Journal{Many: 3, Records: [][]byte{{1}, {2}}, Synced: 2}
	last := d
	last.Sectors = slices.Clone(d.Sectors)
	last.Sectors[2] = append(make([]byte, 124), 255, 255, 255, 255)
	full := j
	full.Many = 4
	for i, x := range []struct {
		j    api.Journal
		d    api.Disk
		want api.Errno
	}{
		{j, api.Disk{}, api.ErrDisk}, {j, stopped, api.ErrDisk}, {full, stopped, api.ErrDisk}, {j, pending, api.ErrArg}, {full, d, api.ErrArg},
		{fewer, d, api.ErrLog}, {other, d, api.ErrLog}, {more, d, api.ErrLog}, {j, last, api.ErrLog}, {j, d, api.OK},
	} {
		y, z, e := Sync(x.j, x.d)
		if e != x.want || e != api.OK && (y.Many != 0 || len(z.Sectors) != 0) {
			t.Error(i, e)
		}
	}
	if x, y, e := Sync(j, d); e != api.OK || !same(x.Records, j.Records) || !same(y.Sectors, d.Sectors) {
		t.Error("nothing to write", e)
	}
	last.Sectors[2][127] = 254
	k, _ := Append(j, []byte{5})
	if _, y, e := Sync(k, last); e != api.OK || !bytes.Equal(y.Sectors[1], raw(math.MaxUint32, 1, 3, 1, 5)) {
		t.Error("the last generation", e)
	}
}

func TestCrash(t *testing.T) {
	r := rand.New(rand.NewSource(5))
	for range 300 {
		d := fresh(40)
		j := open(t, d)
		for range 4 {
			for range r.Intn(4) {
				if x, e := Append(j, record(r.Intn(300), byte(r.Intn(256)))); e == api.OK {
					j = x
				}
			}
			old := slices.Clone(d.Sectors)
			left := r.Intn(12)
			d, _ = disk.Stop(d, left)
			x, y, e := Sync(j, d)
			writes := used(j.Records) - used(j.Records[:j.Synced])
			if (e == api.OK) != (left >= writes) || e == api.ErrDisk && (x.Many != 0 || !y.Stopped) {
				t.Fatal(e, left, writes)
			}
			if left == 0 && writes > 0 {
				again := disk.Restart(y)
				if !same(open(t, again).Records, j.Records[:j.Synced]) || len(old) != 40 {
					t.Error("a disk that stops before the first write")
				}
			}
			d = disk.Restart(y)
			k := open(t, d)
			if len(k.Records) < j.Synced || len(k.Records) > len(j.Records) || !same(k.Records, j.Records[:len(k.Records)]) || e == api.OK && len(k.Records) != len(j.Records) {
				t.Fatal(j.Synced, len(k.Records))
			}
			j = k
		}
	}
}

func TestChangedByte(t *testing.T) {
	j, d := save(t, 9, record(5, 1), record(300, 2), nil, record(112, 3))
	places := []int{0, 1, 1, 1, 2, 3}
	for s, n := range places {
		for i := range 128 {
			x := d
			x.Sectors = slices.Clone(d.Sectors)
			x.Sectors[s] = bytes.Clone(d.Sectors[s])
			x.Sectors[s][i] ^= 1 << (i % 8)
			if k := open(t, x); !same(k.Records, j.Records[:n]) {
				t.Error(s, i, len(k.Records))
			}
		}
	}
}
