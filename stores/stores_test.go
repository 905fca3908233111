package stores

import (
	"bytes"
	"math/rand"
	"slices"
	"testing"

	"franking/api"
	"franking/chain"
	"franking/codec"
	"franking/disk"
	"franking/journal"
)

func fresh(t *testing.T, sectors int) (api.Journal, api.Disk) {
	d, _ := disk.New(sectors)
	j, l, e := Open(d)
	if e != api.OK || len(l)+len(j.Records) > 0 || j.Many != sectors {
		t.Fatal(e)
	}
	return j, d
}

func record(l ...api.Value) []byte {
	b, _ := codec.Encode(api.Value{Kind: api.ListV, L: l})
	return b
}

func num(n int) api.Value { return api.Value{Kind: api.IntV, N: n} }

func text(s string) api.Value { return api.Value{Kind: api.TextV, S: s} }

func same(a, b []api.Link) bool {
	return slices.EqualFunc(a, b, func(x, y api.Link) bool {
		return x.Node == y.Node && x.No == y.No && x.Prev == y.Prev && bytes.Equal(x.Data, y.Data)
	})
}

// on returns a disk with records, whatever they are.
func on(t *testing.T, records ...[]byte) (api.Journal, api.Disk) {
	j, d := fresh(t, 30)
	var e api.Errno
	for _, b := range records {
		j, e = journal.Append(j, b)
		if e != api.OK {
			t.Fatal(e)
		}
	}
	x, y, e := journal.Sync(j, d)
	if e != api.OK {
		t.Fatal(e)
	}
	return x, y
}

func TestOpen(t *testing.T) {
	none := chain.Head(nil)
	prev := string(none[:])
	good := record(num(3), num(0), text(prev), text("a"))
	_, d := on(t, good)
	if j, l, e := Open(d); e != api.OK || len(j.Records) != 1 || !same(l, []api.Link{{Node: 3, Prev: none, Data: []byte("a")}}) {
		t.Error(e)
	}
	for i, b := range [][]byte{
		{1}, nil, {9, 9}, record(), record(num(3), num(0), text(prev)), record(num(3), num(0), text(prev), text("a"), num(1)), record(num(3), text("0"), text(prev), text("a")), record(text(""), num(0), text(prev), text("a")), record(num(3), num(0), num(0), text("a")), record(num(3), num(0), text(prev), num(1)),
		record(num(3), num(0), text(prev[1:]), text("a")), record(num(3), num(0), text(prev+"x"), text("a")), record(num(3), num(1), text(prev), text("a")), record(num(24), num(0), text(prev), text("a")), record(num(3), num(0), text("x"+prev[1:]), text("a")), append(slices.Clip(good), 0),
	} {
		j, d := on(t, b)
		x, l, e := Open(d)
		_, y, f := Sync(j, d)
		if e != api.ErrStore || f != api.ErrStore || len(l)+len(x.Records)+len(y.Sectors) > 0 || x.Many != 0 {
			t.Error(i, e, f)
		}
		if _, _, e := Write(j, nil, 3, nil); e != api.ErrStore {
			t.Error(i, e)
		}
	}
	stopped := d
	stopped.Stopped = true
	pending, _ := disk.Write(d, 0, nil)
	for i, x := range []struct {
		d    api.Disk
		want api.Errno
	}{{api.Disk{}, api.ErrDisk}, {stopped, api.ErrDisk}, {pending, api.ErrArg}} {
		if _, _, e := Open(x.d); e != x.want {
			t.Error(i, e)
		}
	}
}

func TestWrite(t *testing.T) {
	j, _ := fresh(t, 20)
	x, l, e := Write(j, nil, 3, []byte("a"))
	if e != api.OK || len(x.Records) != 1 || x.Synced != 0 || !keeps(x, l) {
		t.Fatal(e)
	}
	y, m, e := Write(x, l, 3, []byte("b"))
	want, _ := chain.Add(l, 3, []byte("b"))
	head := chain.Head(l)
	if e != api.OK || !same(m, want) || !bytes.Equal(y.Records[1], record(num(3), num(1), text(string(head[:])), text("b"))) {
		t.Error(e)
	}
	other, _ := chain.Add(nil, 3, []byte("c"))
	one, _ := fresh(t, 1)
	for i, z := range []struct {
		j    api.Journal
		l    []api.Link
		node int
		data int
		want api.Errno
	}{
		{api.Journal{}, other, 99, 0, api.ErrArg}, {x, nil, 3, 0, api.ErrStore}, {x, other, 3, 0, api.ErrStore}, {j, l, 3, 0, api.ErrStore}, {x, m, 3, 0, api.ErrStore}, {y, l, 3, 0, api.ErrStore}, {j, make([]api.Link, 1), 3, 0, api.ErrStore}, {j, make([]api.Link, 1025), 3, 0, api.ErrStore},
		{x, l, 4, 0, api.ErrArg}, {j, nil, 24, 0, api.ErrArg}, {j, nil, 0, 65537, api.ErrArg}, {one, nil, 3, 100, api.ErrLimit}, {one, nil, 3, 60, api.OK}, {one, nil, 24, 100, api.ErrArg},
	} {
		x, l, e := Write(z.j, z.l, z.node, make([]byte, z.data))
		if e != z.want || e != api.OK && (len(l) > 0 || x.Many != 0) {
			t.Error(i, e)
		}
	}
}

func TestSync(t *testing.T) {
	j, d := fresh(t, 20)
	x, l, _ := Write(j, nil, 3, []byte("a"))
	y, e1, e := Sync(x, d)
	if e != api.OK || y.Synced != 1 {
		t.Fatal(e)
	}
	if k, m, e := Open(e1); e != api.OK || !same(m, l) || k.Synced != 1 {
		t.Error(e)
	}
	other := y
	other.Synced = 0
	for i, z := range []struct {
		j    api.Journal
		d    api.Disk
		want api.Errno
	}{{api.Journal{}, api.Disk{}, api.ErrArg}, {x, api.Disk{}, api.ErrDisk}, {other, e1, api.ErrLog}, {api.Journal{Many: 20, Records: [][]byte{{1}}}, api.Disk{}, api.ErrStore}, {api.Journal{Many: 3, Records: x.Records}, d, api.ErrArg}} {
		if x, y, e := Sync(z.j, z.d); e != z.want || x.Many != 0 || len(y.Sectors) > 0 {
			t.Error(i, e)
		}
	}
	stop, _ := disk.Stop(d, 0)
	if z, y, e := Sync(x, stop); e != api.ErrDisk || !y.Stopped || z.Many != 0 {
		t.Error("the disk of journal.Sync, also with an error", e)
	}
}

// TestABeginning lets disks stop at all times.
func TestABeginning(t *testing.T) {
	r := rand.New(rand.NewSource(60))
	for range 200 {
		j, d := fresh(t, 60)
		var l []api.Link
		for range 4 {
			for range r.Intn(4) {
				x, m, e := Write(j, l, 7, bytes.Repeat([]byte{byte(r.Intn(256))}, r.Intn(200)))
				if e == api.OK {
					j, l = x, m
				}
			}
			d, _ = disk.Stop(d, r.Intn(12))
			x, y, e := Sync(j, d)
			if e == api.OK && x.Synced != len(l) || e != api.OK && e != api.ErrDisk {
				t.Fatal(e)
			}
			k, m, f := Open(disk.Restart(y))
			if f != api.OK || len(m) < j.Synced || len(m) > len(l) || !same(m, l[:len(m)]) || e == api.OK && len(m) != len(l) {
				t.Fatal(f, len(m), j.Synced, len(l))
			}
			j, d, l = k, disk.Restart(y), m
		}
	}
}
