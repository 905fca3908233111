package console

import (
	"fmt"
	"math"
	"math/rand"
	"slices"
	"strings"
	"testing"

	"franking/api"
	"franking/books"
	"franking/breakers"
	"franking/flows"
	"franking/plans"
	"franking/post"
	"franking/reach"
	"franking/refusals"
	"franking/reports"
)

func script(l ...string) string {
	if len(l) == 0 {
		return ""
	}
	return strings.Join(l, "\n") + "\n"
}

func play(t *testing.T, l ...string) string {
	t.Helper()
	out, e := Play(script(l...))
	if e != api.OK {
		t.Fatal(e)
	}
	return out
}

func expect(t *testing.T, want []string, l ...string) {
	t.Helper()
	if out := play(t, l...); out != script(want...) {
		t.Errorf("%q prints %q, not %q", l, out, want)
	}
}

func letter(name, from, to string, crowd int) string {
	return fmt.Sprintf("order letter %s from %s to %s class c0 after 0 by 900 crowd %d pay 100 ;", name, from, to, crowd)
}

func TestParse(t *testing.T) {
	long := strings.Repeat("x", 1000)
	for i, x := range []struct {
		src  string
		want []api.Command
		line int
		e    api.Errno
	}{
		{"", nil, 0, api.OK}, {"ask 0 3\n", []api.Command{{Kind: api.AskW, B: 3}}, 0, api.OK}, {"line 1 2 3 4\nplan\nplay\nmoney\nback\nreport\nsave\nbreak 5 6\nbranch 7\ncrash 8\nentry 0 0 0 0\nfault 9 9 9 1099511627776\norder a b\n", []api.Command{
			{Kind: api.LineW, A: 1, B: 2, C: 3, D: 4}, {Kind: api.PlanW}, {Kind: api.PlayW}, {Kind: api.MoneyW}, {Kind: api.BackW}, {Kind: api.ReportW}, {Kind: api.SaveW}, {Kind: api.BreakW, A: 5, B: 6}, {Kind: api.BranchW, A: 7}, {Kind: api.CrashW, A: 8}, {Kind: api.EntryW}, {Kind: api.FaultW, A: 9, B: 9, C: 9, D: 1 << 40}, {Kind: api.OrderW, Text: "a b"},
		}, 0, api.OK},
		{"order  \x00 \n", []api.Command{{Kind: api.OrderW, Text: " \x00 "}}, 0, api.OK}, {"order " + long + "\n", []api.Command{{Kind: api.OrderW, Text: long}}, 0, api.OK},
		{"order " + long + "x\n", nil, 1, api.ErrCommand}, {"order \n", nil, 1, api.ErrCommand}, {"order\n", nil, 1, api.ErrCommand}, {"plan", nil, 1, api.ErrCommand}, {"plan\nplay", nil, 2, api.ErrCommand}, {"plan \n", nil, 1, api.ErrCommand}, {" plan\n", nil, 1, api.ErrCommand}, {"plan 1\n", nil, 1, api.ErrCommand}, {"\n", nil, 1, api.ErrCommand}, {"plan\n\n", nil, 2, api.ErrCommand}, {"plan\r\n", nil, 1, api.ErrCommand}, {"Plan\n", nil, 1, api.ErrCommand}, {"jump\n", nil, 1, api.ErrCommand},
		{"ask 1\n", nil, 1, api.ErrCommand}, {"ask 1 2 3\n", nil, 1, api.ErrCommand}, {"ask 1  2\n", nil, 1, api.ErrCommand}, {"ask 1 2 \n", nil, 1, api.ErrCommand}, {"ask 01 2\n", nil, 1, api.ErrCommand}, {"ask 00 2\n", nil, 1, api.ErrCommand}, {"ask -1 2\n", nil, 1, api.ErrCommand}, {"ask +1 2\n", nil, 1, api.ErrCommand}, {"ask x 2\n", nil, 1, api.ErrCommand}, {"ask 1 1099511627777\n", nil, 1, api.ErrCommand}, {"ask 1 99999999999999999999\n", nil, 1, api.ErrCommand}, {"ask\n", nil, 1, api.ErrCommand}, {"branch\n", nil, 1, api.ErrCommand}, {"line 1 2 3\n", nil, 1, api.ErrCommand},
		{strings.Repeat("plan\n", 200), slices.Repeat([]api.Command{{Kind: api.PlanW}}, 200), 0, api.OK}, {strings.Repeat("plan\n", 201), nil, 201, api.ErrCommand}, {strings.Repeat("plan\n", 200) + "x", nil, 201, api.ErrCommand}, {strings.Repeat("x", 65537), nil, 0, api.ErrCommand}, {strings.Repeat("x", 65536), nil, 1, api.ErrCommand},
	} {
		l, line, e := Parse(x.src)
		if !slices.Equal(l, x.want) || line != x.line || e != x.e {
			t.Errorf("%d %q %v %v %v", i, x.src[:min(len(x.src), 50)], l, line, e)
		}
		out, f := Play(x.src)
		if x.e != api.OK && (f != api.ErrCommand || out != "") || x.e == api.OK && f != api.OK {
			t.Error(i, f)
		}
		if src, f := Say(x.want); x.e == api.OK && (src != x.src || f != api.OK) {
			t.Errorf("%d %q %v", i, src, f)
		}
	}
}

func TestSay(t *testing.T) {
	long := api.Command{Kind: api.OrderW, Text: strings.Repeat("x", 994)}
	for i, x := range []struct {
		l  []api.Command
		ok bool
	}{
		{[]api.Command{{}}, false}, {[]api.Command{{Kind: 15}}, false}, {[]api.Command{{Kind: -1}}, false}, {[]api.Command{{Kind: api.PlanW, A: 1}}, false}, {[]api.Command{{Kind: api.PlanW, Text: "x"}}, false}, {[]api.Command{{Kind: api.AskW, C: 1}}, false}, {[]api.Command{{Kind: api.AskW, A: -1}}, false}, {[]api.Command{{Kind: api.AskW, B: 1<<40 + 1}}, false}, {[]api.Command{{Kind: api.BranchW, B: 1}}, false}, {[]api.Command{{Kind: api.LineW, D: math.MinInt}}, false}, {[]api.Command{{Kind: api.LineW, D: 1 << 40}}, true},
		{[]api.Command{{Kind: api.OrderW}}, false}, {[]api.Command{{Kind: api.OrderW, Text: "a\nb"}}, false}, {[]api.Command{{Kind: api.OrderW, Text: strings.Repeat("x", 1001)}}, false}, {[]api.Command{{Kind: api.OrderW, Text: "a", A: 1}}, false}, {[]api.Command{{Kind: api.OrderW, Text: "a", D: -1}}, false},
		{make([]api.Command, 201), false}, {slices.Repeat([]api.Command{{Kind: api.SaveW}}, 201), false}, {slices.Repeat([]api.Command{{Kind: api.SaveW}}, 200), true}, {slices.Repeat([]api.Command{long}, 65), true}, {slices.Repeat([]api.Command{long}, 66), false},
	} {
		src, e := Say(x.l)
		if (e == api.OK) != x.ok || !x.ok && (e != api.ErrCommand || src != "") {
			t.Error(i, e)
		}
		if l, line, f := Parse(src); x.ok && (f != api.OK || line != 0 || !slices.Equal(l, x.l)) {
			t.Error(i, line, f)
		}
	}
	if src, e := Say(slices.Repeat([]api.Command{long}, 65)); len(src) != 65*1001 || e != api.OK {
		t.Error(len(src), e)
	}
}

func TestExamples(t *testing.T) {
	expect(t, nil)
	expect(t, []string{"error 1"}, "back")
	expect(t, nil, "plan", "play")
	expect(t, []string{"error 1"}, "branch 4")
	expect(t, []string{"ok", "ok", "error 1"}, "line 0 1 0 30", "back", "back")
	expect(t, []string{"none", "error 1", "error 1"}, "money", "ask 0 0", "break 0 1")
	first := "world 8 8 6 " + strings.Repeat("0", 64) + "\nclass 20 1\nclass 30 2\ntier 4 5\nsecret 1000\nsecret 1001\nsecret 1002\nsecret 1003\nsecret 1004\nsecret 1005"
	expect(t, []string{first}, "report")
}

func TestOrder(t *testing.T) {
	good := letter("a", "o0", "p1", 2)
	for i, x := range []struct {
		line string
		want string
	}{
		{good, "ok"}, {"order x", "error 170"}, {"order $", "error 30"}, {"order //", "error 182"}, {good + good[6:], "error 182"}, {letter("a", "o6", "p1", 2), "error 180"}, {letter("a", "o0", "p8", 2), "error 180"}, {letter("a", "o1", "p1", 2), "error 182"}, {letter("a", "o1", "p7", 2), "error 182"}, {letter("a", "o0", "p7", 2), "ok"}, {strings.Replace(good, "c0", "c2", 1), "error 180"}, {strings.Replace(good, "by 900", "by 0", 1), "error 182"}, {strings.Replace(good, "c0", "c1", 1), "ok"},
	} {
		if out := play(t, x.line); out != x.want+"\n" {
			t.Error(i, x.line, out)
		}
	}
	full := append(slices.Repeat([]string{good}, 65), "back", good, good)
	if out := play(t, full...); out != strings.Repeat("ok\n", 64)+"error 2\nok\nok\nerror 2\n" {
		t.Error(out)
	}
	// Names come before the number of orders.
	if out := play(t, append(slices.Repeat([]string{good}, 64), letter("a", "o9", "p1", 2))...); !strings.HasSuffix(out, "error 180\n") {
		t.Error(out)
	}
	// The homes of people: by the registry on the day 0, and otherwise by their indices.
	report := play(t, "entry 1 1 3 0", "entry 1 2 4 1", "entry 2 3 1 0", letter("a", "o0", "p1", 2), letter("a", "o0", "p2", 2), letter("a", "o0", "p3", 2), letter("a", "o0", "p7", 2), "report")
	for _, want := range []string{"order 0 1 3 0 ", "order 0 2 2 0 ", "order 0 3 3 0 ", "order 0 7 1 0 "} {
		if !strings.Contains(report, want) {
			t.Error(want, report)
		}
	}
	expect(t, []string{"ok", "error 180"}, "entry 1 1 9 0", good)
}

func TestLineEntryFault(t *testing.T) {
	report := play(t, "line 0 1 0 30", "line 0 1 2 40", "line 5 1 0 2096552", "report")
	for _, want := range []string{"line 255 6 2 0 1 10\nrule 30 630 60\n", "line 255 6 3 0 2 1 10 10\nrule 40 640 60\n", "rule 2096552 2097152 60\n"} {
		if !strings.Contains(report, want) {
			t.Error(want, report)
		}
	}
	expect(t, []string{"error 200", "error 200", "error 200", "error 190", "error 200"}, "line 0 0 0 5", "line 0 1 1 5", "line 0 6 0 5", "line 0 1 0 2096553", "line 0 1 7 5")
	if out := play(t, slices.Repeat([]string{"line 0 1 0 5"}, 65)...); out != strings.Repeat("ok\n", 64)+"error 2\n" {
		t.Error(out)
	}
	report = play(t, "entry 1 3 5 7", "entry 2 3 5 0", "back", "entry 3 4 0 1", "report")
	if !strings.Contains(report, "entry 0 1 3 5 7 2097152 0 2097152\nentry 1 3 4 0 1 2097152 0 2097152\n") {
		t.Error(report)
	}
	expect(t, []string{"error 330", "error 330", "error 330", "error 330"}, "entry 5 1 1 0", "entry 1 1 24 0", "entry 2 3 3 0", "entry 1 1 1 2097152")
	report = play(t, "fault 1 2 3 4", "fault 1 0 5 6", "fault 0 9 7 8", "fault 1 2 9 9", "report")
	if !strings.Contains(report, "ok\nok\nok\nerror 181\n") || !strings.Contains(report, "fault 0 9 7 8\nfault 1 0 5 6\nfault 1 2 3 4\n") {
		t.Error(report)
	}
	l := []string{}
	for i := range 66 {
		l = append(l, fmt.Sprint("fault ", i, " 0 1 0"))
	}
	if out := play(t, append(l, "fault 3 0 1 0")...); out != strings.Repeat("ok\n", 64)+"error 2\nerror 2\nerror 181\n" {
		t.Error(out)
	}
}

// worldOf returns the world that a script leads to.
func worldOf(t *testing.T, l ...string) api.World {
	t.Helper()
	out := play(t, append(slices.Clip(l), "report")...)
	w, _, e := reports.Read(out[strings.Index(out, "world"):])
	if e != api.OK {
		t.Fatal(e)
	}
	return w
}

func scene() []string {
	return []string{"line 0 1 2 30", "line 0 3 0 40", "line 4 3 5 50", letter("a", "o0", "p1", 2), letter("b", "o0", "p3", 1), letter("c", "o0", "p7", 3), letter("d", "o4", "p3", 1), "entry 1 3 3 0", "entry 1 1 1 0"}
}

func spaced(l []int) string {
	s := ""
	for _, n := range l {
		s += fmt.Sprint(" ", n)
	}
	return s
}

func TestPlanPlay(t *testing.T) {
	w := worldOf(t, scene()...)
	p, ok, e := plans.Make(w.Table, w.Tariff, w.Orders, w.Covers)
	if !ok || e != api.OK {
		t.Fatal(e)
	}
	want := ""
	for i, n := range p.Of {
		want += fmt.Sprintln("order", i, "run", p.Runs[n].Line, p.Runs[n].At, p.Runs[n].Arrive)
	}
	for n, r := range p.Runs {
		want += fmt.Sprintln("covers", r.Line, r.At, p.Covers[n])
	}
	after := func(line string) string {
		out := play(t, append(scene(), line)...)
		return out[len(strings.Repeat("ok\n", len(scene()))):]
	}
	if out := after("plan"); out != want {
		t.Errorf("%q %q", out, want)
	}
	o, e := post.Play(w)
	if e != api.OK {
		t.Fatal(e)
	}
	want = ""
	for _, v := range o.Events {
		want += fmt.Sprintln("letter", v.Letter, "kind", v.Kind, "time", v.Time, "office", v.Office)
	}
	if out := after("play"); out != want || len(o.Events) != 12 {
		t.Errorf("%q %q", out, want)
	}
	lines := [][]int{}
	for _, r := range o.Plan.Runs {
		lines = append(lines, w.Table.Lines[r.Line].Offices)
	}
	for a := range 10 {
		for _, b := range []int{0, 1, 2, 3, 7, 9, 63, 64, 64 + 7, 1 << 40} {
			var coalition []int
			for n := range 6 {
				if b>>n&1 == 1 {
					coalition = append(coalition, n)
				}
			}
			seen, _ := flows.View(o.Flow, lines, coalition)
			l, e := reach.Ends(seen, a)
			want := fmt.Sprintln("crowd", len(l))
			if e != api.OK {
				want = fmt.Sprintln("error", int(e))
			}
			if out := after(fmt.Sprint("ask ", a, " ", b)); out != want {
				t.Error(a, b, out, want)
			}
		}
		for need := range 5 {
			l, e := breakers.Least(o.Flow, lines, 6, a, need)
			want := ""
			for _, c := range l {
				want += "coalition" + spaced(c) + "\n"
			}
			if len(l) == 0 {
				want = "none\n"
			}
			if e != api.OK {
				want = fmt.Sprintln("error", int(e))
			}
			if out := after(fmt.Sprint("break ", a, " ", need)); out != want {
				t.Error(a, need, out, want)
			}
		}
	}
	start := make([]int, api.Account)
	for i := range 64 {
		start[51+i] = 1000000
	}
	b, _ := books.Balances(start, o.Moves)
	want = ""
	for i, n := range b {
		if n != start[i] {
			want += fmt.Sprintln("account", i, n)
		}
	}
	if out := after("money"); out != want || want == "" {
		t.Errorf("%q %q", out, want)
	}
}

func TestNoPlan(t *testing.T) {
	// One run leaves in time, with room for 6.
	l := []string{"line 0 1 2 30"}
	for range 7 {
		l = append(l, strings.Replace(letter("a", "o0", "p1", 1), "by 900", "by 60", 1))
	}
	w := worldOf(t, l...)
	core, _, ok, e := refusals.Least(w.Table, w.Tariff, w.Orders, w.Covers)
	if !ok || e != api.OK || len(core) != 7 {
		t.Fatal(core, e)
	}
	out := play(t, append(l, "plan", "play", "ask 0 0", "break 0 1", "money")...)
	if want := strings.Repeat("ok\n", 8) + "no plan" + spaced(core) + "\n" + strings.Repeat("error 220\n", 4); out != want {
		t.Errorf("%q %q", out, want)
	}
	for range 10 {
		l = append(l, l[1])
	}
	if out := play(t, append(l, "plan")...); !strings.HasSuffix(out, "ok\nerror 2\n") {
		t.Error(out)
	}
	if out := play(t, letter("a", "o0", "p1", 1), "plan"); out != "ok\nno plan 0\n" {
		t.Error(out)
	}
	if out := play(t, "fault 0 0 5 0", "plan", "play", "money", "ask 0 0", "report"); !strings.HasPrefix(out, "ok\nerror 530\nerror 530\nerror 530\nworld") {
		t.Error(out)
	}
	// Nothing has come to the fund when covers are to be paid.
	if out := play(t, "line 0 1 2 30", letter("a", "o0", "p1", 2), "fault 0 1 5 0", "play"); out != "ok\nok\nok\nerror 381\n" {
		t.Error(out)
	}
}

func TestBackBranch(t *testing.T) {
	expect(t, []string{"ok", "ok", "ok", "ok", "error 1"}, "line 0 1 0 30", "entry 1 1 1 0", "back", "back", "back")
	expect(t, []string{"error 200", "error 1"}, "line 0 9 0 30", "back")
	a, b := "line 0 1 0 30", "line 1 2 0 30"
	report := func(l ...string) string {
		out := play(t, append(slices.Clip(l), "report")...)
		return out[strings.Index(out, "world"):]
	}
	if report(a, b, "back") != report(a) || report(a, "plan", "back", b) != report(b) {
		t.Error("a change that is taken back leaves no trace")
	}
	if report(a, "branch 1") != report(a) || report(a, "branch 1", b) != report(a, b) || report(a, "branch 1", b, "branch 0") != report(a) || report(a, "branch 1", b, "branch 0", "back", "branch 1") != report(a, b) || report(a, "branch 1", b, "branch 2") != report(a, b) {
		t.Error("branches")
	}
	expect(t, []string{"ok", "ok", "error 1", "ok", "ok", "ok", "error 1", "ok", "ok", "error 1"}, a, "branch 3", "back", b, "branch 3", "back", "back", "branch 0", "back", "back")
	expect(t, []string{"ok", "ok", "ok", "error 1", "ok", "ok", "ok"}, "branch 3", a, "back", "branch 1099511627776", a, "branch 3", "branch 0")
}

func TestDisk(t *testing.T) {
	a, b := "line 0 1 0 30", "line 1 2 0 30"
	report := func(l ...string) string {
		out := play(t, append(slices.Clip(l), "report")...)
		return out[strings.Index(out, "world"):]
	}
	first := report()
	expect(t, []string{"ok", "ok", "error 1"}, "save", "crash 0", "back")
	if report(a, "crash 0") != first || report(a, "save", b, "crash 0") != report(a) || report(a, "save", b, "crash 1000") != report(a, b) || report(a, "save", b, "crash 0", b) != report(a, b) || report(a, "save", b, "crash 65536") != report(a, b) {
		t.Error("behind a crash")
	}
	// However many writes are performed, it is the report that was saved, or the one that was being saved.
	saved, saving := 0, 0
	for n := range 12 {
		switch report(a, "save", b, fmt.Sprint("crash ", n)) {
		case report(a):
			saved++
		case report(a, b):
			saving++
		default:
			t.Error(n)
		}
	}
	if saved < 2 || saving < 2 {
		t.Error(saved, saving)
	}
	expect(t, []string{"ok", "error 1", "ok", "error 1"}, a, "crash 65537", "back", "back")
	if report(a, "crash 65537") != report(a) || report(a, "branch 1", b, "crash 0", "branch 0") != report(a) || report(a, "branch 1", b, "crash 0") != first || report(a, "save", "branch 1", b, "branch 0", "crash 0", "branch 1") != report(a, b) {
		t.Error("a crash and branches")
	}
	// Each report takes at least two sectors of 600; when the journal is full, it stays as it was.
	out := play(t, append(slices.Repeat([]string{"line 0 1 0 30"}, 50), slices.Repeat([]string{"save"}, 150)...)...)
	k := strings.Index(out, "error 2\n")
	if k < 0 || out != strings.Repeat("ok\n", k/3)+strings.Repeat("error 2\n", 200-k/3) {
		t.Error(k, out)
	}
	crash := append(append(slices.Repeat([]string{"line 0 1 0 30"}, 50), slices.Repeat([]string{"save"}, 130)...), "crash 3", "back")
	if out := play(t, crash...); !strings.HasSuffix(out, "error 2\nerror 2\nok\n") {
		t.Error(out[len(out)-40:])
	}
}

func TestConsequences(t *testing.T) {
	r := rand.New(rand.NewSource(75))
	random := func() string {
		switch r.Intn(12) {
		case 0, 1:
			return letter("x", "o0", fmt.Sprint("p", 1+r.Intn(3)), 1+r.Intn(3))
		case 2, 3:
			return fmt.Sprint("line 0 ", 1+r.Intn(3), " 4 ", 10*r.Intn(9))
		case 4:
			return fmt.Sprint("entry 1 ", r.Intn(4), " ", r.Intn(6), " 0")
		case 5:
			return fmt.Sprint("fault ", r.Intn(2), " ", r.Intn(3), " 5 0")
		case 6:
			return "back"
		case 7:
			return fmt.Sprint("branch ", r.Intn(5))
		case 8:
			return "save"
		case 9:
			return fmt.Sprint("crash ", r.Intn(8))
		}
		return []string{"plan", "play", "money", "report", "ask 0 5", "break 0 2"}[r.Intn(6)]
	}
	asks := func(line string) bool {
		return slices.ContainsFunc([]string{"plan", "play", "money", "report", "ask", "break"}, func(s string) bool { return strings.HasPrefix(line, s) })
	}
	changes := func(line string) bool {
		return slices.ContainsFunc([]string{"order", "line", "entry", "fault"}, func(s string) bool { return strings.HasPrefix(line, s) })
	}
	for range 40 {
		l, without := []string{}, []string{}
		for range 14 {
			line := random()
			l = append(l, line)
			if !asks(line) {
				without = append(without, line)
			}
		}
		whole := play(t, l...)
		for n := range l {
			before := play(t, l[:n]...)
			if !strings.HasPrefix(whole, before) {
				t.Fatal("the beginning of a script", l[:n])
			}
			if line := random(); changes(line) && strings.HasSuffix(play(t, append(slices.Clip(l[:n]), line)...), "ok\n") {
				if out := play(t, slices.Concat(l[:n], []string{line, "back"}, l[n:])...); out != before+"ok\nok\n"+whole[len(before):] {
					t.Error("a change that is taken back leaves a trace", l, n, line)
				}
			}
		}
		a, b := play(t, append(slices.Clip(l), "report")...), play(t, append(without, "report")...)
		if a[strings.LastIndex(a, "world"):] != b[strings.LastIndex(b, "world"):] {
			t.Error("what is asked changes something", l)
		}
		if again := play(t, l...); again != whole {
			t.Error("equal scripts print the same")
		}
	}
}
