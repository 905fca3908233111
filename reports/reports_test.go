package reports

import (
	"math"
	"math/rand"
	"reflect"
	"slices"
	"strings"
	"testing"

	"franking/api"
	"franking/digest"
	"franking/post"
)

func zeros() string { return strings.Repeat("0", 64) }

func world() api.World {
	return api.World{
		Table: api.Timetable{Offices: 4, Lines: []api.Line{
			{Offices: []int{0, 1, 2}, Legs: []int{10, 20}, Classes: 3, Room: 6, Rules: []api.Rule{{First: 30, Until: 100, Every: 50}, {First: 1, Until: 2, Every: 3}}, Off: []api.Gap{{From: 5, Until: 7}, {From: 9, Until: 11}}},
			{Offices: []int{3, 0}, Legs: []int{5}, Classes: 1, Room: 64},
			{Offices: []int{2, 3}, Legs: []int{7}, Classes: 255, Room: 1, Off: []api.Gap{{From: 0, Until: 1}}},
		}},
		Tariff:  api.Tariff{Base: []int{20, 30}, Leg: []int{1, 2}, Tiers: []api.Tier{{From: 3, Extra: 5}}},
		Orders:  []api.Order{{From: 0, Person: 1, Dest: 2, Class: 1, After: 5, By: 900, Crowd: 2, Pay: 1 << 40, Against: []int{1, 3}, Back: true, Else: 2}, {From: 2, Person: 0, Dest: 3, After: 0, By: 1, Crowd: 64}},
		People:  2,
		Entries: []api.Entry{{No: 4, Kind: 1, A: 0, B: 2, From: 0, Until: api.End, Known: 1, Gone: 9}, {No: 7, Kind: 3, A: 1, Until: 4, Gone: 5}},
		Covers:  -3,
		Secrets: []int{11, 22, 33, 44},
		Seed:    digest.Sum(nil),
		Faults:  []api.Slip{{Run: 0, Fault: api.Fault{Leg: 1, Kind: 2, At: -1}}, {Run: 9, Fault: api.Fault{Leg: 0, Kind: 0, At: 5}}},
	}
}

func report() string {
	return "world 2 -3 4 e3b0c44298fc1c149afbf4c8996fb92427ae41e4649b934ca495991b7852b855\n" +
		"class 20 1\nclass 30 2\ntier 3 5\n" +
		"line 3 6 3 0 1 2 10 20\nrule 30 100 50\nrule 1 2 3\ngap 5 7\ngap 9 11\n" +
		"line 1 64 2 3 0 5\nline 255 1 2 2 3 7\ngap 0 1\n" +
		"order 0 1 2 1 5 900 2 1099511627776 1 2 1 3\norder 2 0 3 0 0 1 64 0 0 0\n" +
		"entry 4 1 0 2 0 2097152 1 9\nentry 7 3 1 0 0 4 0 5\n" +
		"secret 11\nsecret 22\nsecret 33\nsecret 44\n" +
		"fault 0 1 2 -1\nfault 9 0 0 5\n"
}

func TestPrint(t *testing.T) {
	if src, e := Print(world()); src != report() || e != api.OK {
		t.Error(src, e)
	}
	small := api.World{Tariff: api.Tariff{Base: []int{10}, Leg: []int{3}}}
	if src, e := Print(small); src != "world 0 0 0 "+zeros()+"\nclass 10 3\n" || e != api.OK {
		t.Error(src, e)
	}
	for i, x := range []struct {
		f    func(w *api.World)
		want api.Errno
	}{
		{func(w *api.World) { w.Covers = 1 << 40 }, api.OK}, {func(w *api.World) { w.Covers = -1 << 40 }, api.OK}, {func(w *api.World) { w.Covers = 1<<40 + 1 }, api.ErrReport}, {func(w *api.World) { w.Covers = math.MinInt }, api.ErrReport}, {func(w *api.World) { w.Tariff.Tiers[0].From = 1<<40 + 1 }, api.ErrReport}, {func(w *api.World) { w.Faults[1].Run = math.MaxInt }, api.ErrReport}, {func(w *api.World) { w.Faults[0].Fault.Kind = -1<<40 - 1 }, api.ErrReport}, {func(w *api.World) { w.Faults[0].Fault.At = 1<<40 + 1 }, api.ErrReport}, {func(w *api.World) { w.Faults[1].Fault.Leg = 1<<40 + 1 }, api.ErrReport},
		{func(w *api.World) { w.Covers, w.People = math.MinInt, -1 }, api.ErrWorld}, {func(w *api.World) { w.Tariff = api.Tariff{} }, api.ErrTariff}, {func(w *api.World) { w.Orders[0].Class = 7 }, api.ErrPlan},
	} {
		w := world()
		x.f(&w)
		src, e := Print(w)
		if e != x.want || e != api.OK && src != "" {
			t.Error(i, e)
		}
		if y, line, f := Read(src); e == api.OK && (f != api.OK || line != 0 || !equal(y, w)) {
			t.Error(i, line, f)
		}
	}
}

// equal compares worlds, where nil and empty lists are equal.
func equal(a, b api.World) bool {
	x, e := Print(a)
	y, f := Print(b)
	return e == api.OK && f == api.OK && x == y && len(a.Orders) == len(b.Orders)
}

func TestRead(t *testing.T) {
	w, line, e := Read(report())
	want := world()
	want.Orders[1].Against = []int{}
	if e != api.OK || line != 0 || !reflect.DeepEqual(w, want) {
		t.Error(w, line, e)
	}
	z := zeros()
	for i, x := range []struct {
		src  string
		line int
		e    api.Errno
	}{
		{"", 1, api.ErrReport}, {"world 0 0 0 " + z + "\n", 0, api.ErrTariff}, {"world 0 0 0 " + z + "\nclass 10 3\n", 0, api.OK}, {"world 0 0 00 " + z + "\n", 1, api.ErrReport}, {"world 0 0 0 " + z + "\nclass 10\n", 2, api.ErrReport}, {"world 0 0 0 " + z + "\nrule 1 2 3\n", 2, api.ErrReport},
		{"world 0 0 0 " + z, 1, api.ErrReport}, {"world 0 0 0 " + z + "\nclass 10 3", 2, api.ErrReport}, {"\n", 1, api.ErrReport}, {"world 0 0 0 " + z + "\n\n", 2, api.ErrReport}, {" world 0 0 0 " + z + "\n", 1, api.ErrReport}, {"world 0 0 0 " + z + " \n", 1, api.ErrReport}, {"world  0 0 0 " + z + "\n", 1, api.ErrReport}, {"world 0 0 0 " + z + "\r\n", 1, api.ErrReport}, {"World 0 0 0 " + z + "\n", 1, api.ErrReport}, {"world\n", 1, api.ErrReport}, {"world 0 0 0\n", 1, api.ErrReport}, {"world 0 0 " + z + "\n", 1, api.ErrReport}, {"world 0 0 0 0 " + z + "\n", 1, api.ErrReport},
		{"world 0 0 0 " + z[1:] + "\n", 1, api.ErrReport}, {"world 0 0 0 " + z + "0\n", 1, api.ErrReport}, {"world 0 0 0 A" + z[1:] + "\n", 1, api.ErrReport}, {"world 0 0 0 g" + z[1:] + "\n", 1, api.ErrReport}, {"world 0 0 0 f" + z[1:] + "\nclass 10 3\n", 0, api.OK},
		{"world 0 1099511627776 0 " + z + "\nclass 10 3\n", 0, api.OK}, {"world 0 1099511627777 0 " + z + "\nclass 10 3\n", 1, api.ErrReport}, {"world 0 -1099511627776 0 " + z + "\nclass 10 3\n", 0, api.OK}, {"world 0 -1099511627777 0 " + z + "\nclass 10 3\n", 1, api.ErrReport}, {"world 0 -0 0 " + z + "\nclass 10 3\n", 1, api.ErrReport}, {"world 0 +1 0 " + z + "\nclass 10 3\n", 1, api.ErrReport}, {"world 0 -01 0 " + z + "\nclass 10 3\n", 1, api.ErrReport}, {"world 0 - 0 " + z + "\nclass 10 3\n", 1, api.ErrReport}, {"world 0 1_0 0 " + z + "\nclass 10 3\n", 1, api.ErrReport}, {"world 0 99999999999999999999 0 " + z + "\nclass 10 3\n", 1, api.ErrReport},
		{"world 0 0 -1 " + z + "\nclass 10 3\n", 0, api.ErrLine}, {"world -1 0 0 " + z + "\nclass 10 3\n", 0, api.ErrWorld},
		{"class 10 3\n", 1, api.ErrReport}, {"foo\n", 1, api.ErrReport},
	} {
		w, line, e := Read(x.src)
		if line != x.line || e != x.e || e != api.OK && len(w.Tariff.Base) > 0 {
			t.Errorf("%d %q %v %v", i, x.src, line, e)
		}
	}
}

// TestForms replaces one line by another one.
func TestForms(t *testing.T) {
	lines := strings.SplitAfter(strings.TrimSuffix(report(), "\n"), "\n")
	for i, bad := range []string{
		"class 1 2 3\n", "class 1\n", "class\n", "tier 1\n", "tier 1 2 3\n", "line 1 2\n", "line 1 2 0\n", "line 1 2 -1\n", "line 1 2 2 0 1\n", "line 1 2 2 0 1 5 6\n", "line 1 2 1099511627776 1\n", "rule 1 2\n", "rule 1 2 3 4\n", "gap 1\n", "gap 1 2 3\n",
		"order 0 1 2 1 5 900 2 7 1\n", "order 0 1 2 1 5 900 2 7 2 2\n", "order 0 1 2 1 5 900 2 7 -1 2\n", "order 0 1 2 1 5 900 2 7 1 2 x\n", "order 0 1 2 1 5 900 2 7 true 2\n", "entry 1 2 3 4 5 6 7\n", "entry 1 2 3 4 5 6 7 8 9\n", "secret\n", "secret 1 2\n", "fault 1 2 3\n", "fault 1 2 3 4 5\n", "other 1\n", "\n", "class 1 2 \n", "class 1  2\n", "class\t1 2\n", "class 1 2\x00\n",
	} {
		for k := range lines {
			l := slices.Clone(lines)
			l[k] = bad
			if w, line, e := Read(strings.Join(l, "") + "\n"); e != api.ErrReport || line != k+1 && k+1 < len(l) || w.People != 0 {
				t.Errorf("%d %q %d %d %v", i, bad, k, line, e)
			}
		}
	}
	for _, good := range []string{"line 1 2 1 0\n"} {
		if _, line, e := Read("world 0 0 0 " + zeros() + "\nclass 1 2\n" + good); line != 0 || e != api.ErrLine {
			t.Error(good, line, e)
		}
	}
}

func TestPlaces(t *testing.T) {
	example := map[string]string{
		"world": "world 0 0 0 " + zeros(), "class": "class 1 2", "tier": "tier 1 2", "line": "line 1 2 2 0 1 5", "rule": "rule 1 2 3", "gap": "gap 1 2",
		"order": "order 0 1 2 1 5 900 2 7 1 2", "entry": "entry 1 2 3 4 5 6 7 8", "secret": "secret 5", "fault": "fault 1 2 3 4",
	}
	before := map[string][]string{
		"world": {"world"}, "class": {"world", "class"}, "tier": {"world", "tier"}, "line": {"world", "line"}, "rule": {"world", "line", "rule"}, "gap": {"world", "line", "gap"}, "order": {"world", "order"}, "entry": {"world", "entry"}, "secret": {"world", "secret"}, "fault": {"world", "fault"},
	}
	may := map[string]string{
		"class": "world class", "tier": "world class tier", "line": "world class tier line rule gap", "rule": "line rule", "gap": "line rule gap", "order": "world class tier line rule gap order",
		"entry": "world class tier line rule gap order entry", "secret": "world class tier line rule gap order entry secret", "fault": "world class tier line rule gap order entry secret fault", "world": "",
	}
	for last, l := range before {
		src := ""
		for _, name := range l {
			src += example[name] + "\n"
		}
		for name, after := range may {
			_, line, e := Read(src + example[name] + "\n")
			if right := slices.Contains(strings.Fields(after), last); right == (e == api.ErrReport) || !right && line != len(l)+1 {
				t.Error(last, name, line, e)
			}
		}
	}
}

func TestBack(t *testing.T) {
	r := rand.New(rand.NewSource(74))
	for range 200 {
		w := world()
		w.Seed = digest.Sum([]byte{byte(r.Intn(256)), byte(r.Intn(256))})
		w.Covers, w.People = r.Intn(1<<41)-1<<40, 2+r.Intn(9)
		w.Tariff.Tiers = w.Tariff.Tiers[:r.Intn(2)]
		w.Table.Lines = slices.Clone(w.Table.Lines)
		r.Shuffle(3, func(i, k int) { w.Table.Lines[i], w.Table.Lines[k] = w.Table.Lines[k], w.Table.Lines[i] })
		w.Orders, w.Entries, w.Faults = w.Orders[:r.Intn(3)], w.Entries[:r.Intn(3)], w.Faults[:r.Intn(3)]
		src, e := Print(w)
		x, line, f := Read(src)
		again, g := Print(x)
		if e != api.OK || f != api.OK || g != api.OK || line != 0 || again != src {
			t.Fatal(src, e, f, g)
		}
		a, f1 := post.Play(w)
		b, f2 := post.Play(x)
		if f1 != f2 || !reflect.DeepEqual(a.Events, b.Events) {
			t.Error("one report, one outcome")
		}
		lines := strings.SplitAfter(src, "\n")
		k := 1 + r.Intn(len(lines)-1)
		if _, line, _ := Read(strings.Join(lines[:k], "")); line != 0 {
			t.Error("a report without its last lines", line)
		}
	}
}
