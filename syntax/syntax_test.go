package syntax

import (
	"math"
	"math/rand"
	"strings"
	"testing"

	"franking/api"
	"franking/lex"
)

const full = "letter a from x to bo class slow after 0 by 9 crowd 2 against x , y pay 7 back else hold ;"

func wish() api.Wish {
	return api.Wish{Name: "a", From: "x", To: "bo", Class: "slow", After: 0, By: 9, Crowd: 2, Pay: 7, Against: []string{"x", "y"}, Back: true, Else: api.HoldX}
}

func with(f func(w *api.Wish)) api.Wish {
	w := wish()
	f(&w)
	return w
}

func TestParse(t *testing.T) {
	plain := with(func(w *api.Wish) { w.Against, w.Back, w.Else = nil, false, api.ReturnX })
	for _, x := range []struct {
		src  string
		want []api.Wish
	}{
		{"", nil},
		{" // nothing", nil},
		{full, []api.Wish{wish()}},
		{strings.ReplaceAll(full, " ", " // x\n\t"), []api.Wish{wish()}},
		{"letter a from x to bo class slow after 0 by 9 crowd 2 pay 7;", []api.Wish{plain}},
		{"letter a from x to bo class slow after 0 by 9 crowd 2 pay 7 else forward;" + full, []api.Wish{with(func(w *api.Wish) { w.Against, w.Back, w.Else = nil, false, api.ForwardX }), wish()}},
		{"letter a from x to bo class slow after 2097151 by 2097151 crowd 64 against x,x,x pay 1099511627776 back;",
			[]api.Wish{with(func(w *api.Wish) {
				w.After, w.By, w.Crowd, w.Pay, w.Against, w.Else = 2097151, 2097151, 64, 1<<40, []string{"x", "x", "x"}, 0
			})}},
		{"letter Letter from From to To class Class after 0 by 0 crowd 0 pay 0;", []api.Wish{{Name: "Letter", From: "From", To: "To", Class: "Class"}}},
	} {
		l, at, e := Parse(x.src)
		if e != api.OK || at != 0 || !Same(l, x.want) {
			t.Errorf("%q %v %v %v", x.src, l, at, e)
		}
	}
}

func TestParseWrong(t *testing.T) {
	for _, x := range []struct {
		src string
		at  int
		e   api.Errno
	}{
		{"letter a to b", 9, api.ErrSyntax},
		{"letter a from x to bo class slow after 2097152", 39, api.ErrSyntax},
		{"letter a from x to bo class slow after 1 by 2097152", 44, api.ErrSyntax},
		{"letter a from x to bo class slow after 1 by 2 crowd 65", 52, api.ErrSyntax},
		{"letter pay", 7, api.ErrSyntax}, {"letter hold", 7, api.ErrSyntax}, {"letter forward", 7, api.ErrSyntax}, {"letter letter", 7, api.ErrSyntax}, {"letter 1", 7, api.ErrSyntax}, {"letter ;", 7, api.ErrSyntax},
		{"letter", 6, api.ErrSyntax}, {"letter  ", 8, api.ErrSyntax}, {"a", 0, api.ErrSyntax}, {" ;", 1, api.ErrSyntax}, {"5", 0, api.ErrSyntax},
		{full + " x", len(full) + 1, api.ErrSyntax},
		{"letter a $", 9, api.ErrText}, {"a $", 2, api.ErrText}, {strings.Repeat(" ", 65537), 0, api.ErrLimit},
		{strings.Replace(full, "against x ,", "against x", 1), strings.Index(full, ", y"), api.ErrSyntax},
		{strings.Replace(full, "against x , y", "against", 1), strings.Index(full, "x ,"), api.ErrSyntax},
		{strings.Replace(full, "against x , y", "against x ,", 1), strings.Index(full, "y pay"), api.ErrSyntax},
		{strings.Replace(full, "else hold", "else", 1), strings.Index(full, "hold"), api.ErrSyntax},
		{strings.Replace(full, "back else", "else hold back", 1), strings.Index(full, "back") + 10, api.ErrSyntax},
		{strings.Replace(full, "back", "back back", 1), strings.Index(full, "else"), api.ErrSyntax},
	} {
		if l, at, e := Parse(x.src); e != x.e || at != x.at || len(l) > 0 {
			t.Errorf("%q %v %v", x.src, at, e)
		}
	}
	for i := range full {
		if i > 0 && full[i-1] == ' ' {
			if _, at, e := Parse(full[:i]); e != api.ErrSyntax || at != i {
				t.Errorf("%q %v %v", full[:i], at, e)
			}
		}
	}
}

func TestPrint(t *testing.T) {
	if s, e := Print([]api.Wish{wish()}); s != full || e != api.OK {
		t.Error(s, e)
	}
	if s, e := Print(nil); s != "" || e != api.OK {
		t.Error(s, e)
	}
	for i, f := range []func(w *api.Wish){
		func(w *api.Wish) { w.Name = "" }, func(w *api.Wish) { w.From = "1" }, func(w *api.Wish) { w.To = "to" }, func(w *api.Wish) { w.Class = strings.Repeat("a", 33) }, func(w *api.Wish) { w.Class = "hold" },
		func(w *api.Wish) { w.After = -1 }, func(w *api.Wish) { w.After = 1 << 21 }, func(w *api.Wish) { w.By = 1 << 21 }, func(w *api.Wish) { w.By = math.MinInt }, func(w *api.Wish) { w.Crowd = 65 }, func(w *api.Wish) { w.Crowd = -1 },
		func(w *api.Wish) { w.Pay = -1 }, func(w *api.Wish) { w.Pay = 1<<40 + 1 }, func(w *api.Wish) { w.Against = []string{"x", "_"} }, func(w *api.Wish) { w.Against = []string{""} },
		func(w *api.Wish) { w.Else = 3 }, func(w *api.Wish) { w.Else = -1 },
	} {
		if s, e := Print([]api.Wish{wish(), with(f)}); s != "" || e != api.ErrSyntax {
			t.Error(i, s, e)
		}
	}
	l := []api.Wish{}
	for range 1000 {
		l = append(l, wish())
	}
	if s, e := Print(l); len(s) != 1000*(len(full)+1)-1 || e != api.OK {
		t.Error("a text that is too long to be parsed", e)
	}
}

func TestSame(t *testing.T) {
	l := []api.Wish{wish()}
	for _, f := range []func(w *api.Wish){
		func(w *api.Wish) { w.Name = "b" }, func(w *api.Wish) { w.From = "b" }, func(w *api.Wish) { w.To = "b" }, func(w *api.Wish) { w.Class = "b" }, func(w *api.Wish) { w.After = -5 }, func(w *api.Wish) { w.By = 8 },
		func(w *api.Wish) { w.Crowd = 8 }, func(w *api.Wish) { w.Pay = 8 }, func(w *api.Wish) { w.Against = nil }, func(w *api.Wish) { w.Against = []string{"y", "x"} }, func(w *api.Wish) { w.Back = false }, func(w *api.Wish) { w.Else = 9 },
	} {
		l = append(l, with(f))
	}
	for i, a := range l {
		for k, b := range l {
			if Same([]api.Wish{a}, []api.Wish{b}) != (i == k) {
				t.Error(i, k)
			}
		}
	}
	if !Same(nil, []api.Wish{}) || Same(l, l[1:]) || Same(l[:2], l[:1]) || !Same([]api.Wish{{Against: []string{}}}, []api.Wish{{}}) {
		t.Error("lengths")
	}
}

func TestConsequences(t *testing.T) {
	r := rand.New(rand.NewSource(27))
	name := func() string { return []string{"a", "b2", "Z_z", "lettre"}[r.Intn(4)] }
	random := func() (l []api.Wish) {
		for range r.Intn(5) {
			w := api.Wish{Name: name(), From: name(), To: name(), Class: name(), After: r.Intn(api.End), By: r.Intn(api.End), Crowd: r.Intn(65), Pay: r.Intn(1<<40 + 1), Back: r.Intn(2) == 0, Else: r.Intn(3)}
			for range r.Intn(3) {
				w.Against = append(w.Against, name())
			}
			l = append(l, w)
		}
		return l
	}
	for range 300 {
		a, b := random(), random()
		s, e := Print(a)
		u, f := Print(b)
		l, _, g := Parse(s)
		if e != api.OK || f != api.OK || g != api.OK || !Same(l, a) {
			t.Fatal(e, f, g, s)
		}
		if again, _ := Print(l); again != s {
			t.Error(again, s)
		}
		if l, _, e := Parse(s + "\n" + u); e != api.OK || !Same(l, append(a, b...)) {
			t.Error(e)
		}
		tokens, _, _ := lex.Lex(s)
		if len(tokens) == 0 {
			continue
		}
		i := r.Intn(len(tokens))
		tokens[i] = []api.Token{{Kind: api.NameT, Text: "pay"}, {Kind: api.SignT, Text: "{"}, {Kind: api.NumberT, N: 1 << 40}, {Kind: api.NameT, Text: "q"}}[r.Intn(4)]
		changed, _ := lex.Text(tokens)
		places, _, _ := lex.Lex(changed)
		if _, at, e := Parse(changed); e != api.OK && at < places[i].At {
			t.Error("a token before the one that was replaced is refused", changed, at)
		}
	}
}
