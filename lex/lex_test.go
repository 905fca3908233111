package lex

import (
	"math/rand"
	"strings"
	"testing"

	"franking/api"
)

func name(s string) api.Token { return api.Token{Kind: api.NameT, Text: s} }

func number(n int) api.Token { return api.Token{Kind: api.NumberT, N: n} }

func mark(s string) api.Token { return api.Token{Kind: api.SignT, Text: s} }

func TestLex(t *testing.T) {
	long := strings.Repeat("a", 32)
	for _, x := range []struct {
		src  string
		want []api.Token
		at   []int
	}{
		{"", nil, nil},
		{"sum 30;", []api.Token{name("sum"), number(30), mark(";")}, []int{0, 4, 6}},
		{" \t\r\n", nil, nil},
		{"a // b", []api.Token{name("a")}, []int{0}},
		{"a//b\nc", []api.Token{name("a"), name("c")}, []int{0, 5}},
		{"a//b\rc\n//", []api.Token{name("a")}, []int{0}},
		{"//", nil, nil},
		{"a/b", []api.Token{name("a"), mark("/"), name("b")}, []int{0, 1, 2}},
		{"/ /", []api.Token{mark("/"), mark("/")}, []int{0, 2}},
		{"*///x", []api.Token{mark("*")}, []int{0}},
		{"0", []api.Token{number(0)}, []int{0}},
		{"0a1", []api.Token{number(0), name("a1")}, []int{0, 1}},
		{"1099511627776", []api.Token{number(1 << 40)}, []int{0}},
		{long, []api.Token{name(long)}, []int{0}},
		{"B_12_", []api.Token{name("B_12_")}, []int{0}},
		{"{}();,=:.<>!+-*/", []api.Token{mark("{"), mark("}"), mark("("), mark(")"), mark(";"), mark(","), mark("="), mark(":"), mark("."), mark("<"), mark(">"), mark("!"), mark("+"), mark("-"), mark("*"), mark("/")},
			[]int{0, 1, 2, 3, 4, 5, 6, 7, 8, 9, 10, 11, 12, 13, 14, 15}},
		{strings.Repeat(" ", 65535) + "x", []api.Token{name("x")}, []int{65535}},
	} {
		l, at, e := Lex(x.src)
		if e != api.OK || at != 0 || !Same(l, x.want) {
			t.Error(x.src, l, at, e)
			continue
		}
		for i, k := range l {
			if k.At != x.at[i] {
				t.Error(x.src, i, k.At)
			}
		}
	}
}

func TestLexWrong(t *testing.T) {
	for _, x := range []struct {
		src string
		at  int
	}{
		{"007", 0}, {"a $", 2}, {"_a", 0}, {"a;_", 2}, {"00", 0}, {"1 01", 2}, {"1099511627777", 0}, {"x 99999999999999999999999999", 2},
		{strings.Repeat("a", 33), 0}, {"x " + strings.Repeat("a", 40) + "$", 2}, {"\x00", 0}, {"a\x80", 1}, {"\xff", 0}, {"é", 0}, {"a\v", 1}, {"\"", 0}, {"a // $\n$", 7}, {"[", 0}, {"@", 0}, {"`", 0},
	} {
		if l, at, e := Lex(x.src); e != api.ErrText || at != x.at || len(l) > 0 {
			t.Errorf("%q %v %v %v", x.src, l, at, e)
		}
		if l, _, e := Lex(x.src[:x.at]); e != api.OK {
			t.Errorf("%q %v", x.src[:x.at], l)
		}
	}
	if l, at, e := Lex(strings.Repeat("$", 65537)); e != api.ErrLimit || at != 0 || len(l) > 0 {
		t.Error(at, e)
	}
}

func TestText(t *testing.T) {
	l, _, _ := Lex("a=1")
	if s, e := Text(l); s != "a = 1" || e != api.OK {
		t.Error(s, e)
	}
	if s, e := Text(nil); s != "" || e != api.OK {
		t.Error(s, e)
	}
	if s, e := Text([]api.Token{number(0), {Kind: api.NumberT, N: 1 << 40, At: -5}}); s != "0 1099511627776" || e != api.OK {
		t.Error(s, e)
	}
	for i, k := range []api.Token{
		{}, {Kind: 4}, {Kind: api.NameT}, name("1"), name("_1"), name(strings.Repeat("a", 33)), {Kind: api.NameT, Text: "a", N: 1},
		number(-1), number(1<<40 + 1), {Kind: api.NumberT, Text: "1", N: 1}, mark(""), mark("//"), mark("a"), mark(" "), mark("[]"), mark("\x80"), {Kind: api.SignT, Text: ";", N: 1},
	} {
		if s, e := Text([]api.Token{name("a"), k}); e != api.ErrText || s != "" {
			t.Error(i, s, e)
		}
	}
}

func TestSameName(t *testing.T) {
	l := []api.Token{name("a"), name("b"), number(1), mark(";"), {}, {Kind: 9}, {Kind: api.NameT, Text: "a", N: 1}}
	for i, a := range l {
		for k, b := range l {
			b.At = 7
			if Same([]api.Token{a}, []api.Token{b}) != (i == k) {
				t.Error(i, k)
			}
		}
	}
	if Same(l, l[:2]) || !Same(nil, []api.Token{}) {
		t.Error("lengths")
	}
	for s, want := range map[string]bool{"B_12": true, "_12": false, "": false, "z": true, "1a": false, "a-b": false, "a\x80": false, strings.Repeat("Z", 32): true, strings.Repeat("Z", 33): false} {
		if Name(s) != want {
			t.Error(s)
		}
	}
}

func TestConsequences(t *testing.T) {
	r := rand.New(rand.NewSource(3))
	parts := []string{"a", "B_9", "0", "17", "1099511627776", ";", "/", "*", " ", "\n", "//", "x y", "=", "$", "01"}
	source := func() string {
		s := ""
		for range r.Intn(12) {
			s += parts[r.Intn(len(parts))]
		}
		return s
	}
	for range 3000 {
		a, b := source(), source()
		l, at, e := Lex(a)
		if e != api.OK {
			if _, _, e := Lex(a[:at]); e != api.OK {
				t.Errorf("%q %d", a, at)
			}
			continue
		}
		s, e := Text(l)
		m, _, f := Lex(s)
		if e != api.OK || f != api.OK || !Same(l, m) {
			t.Errorf("%q %q", a, s)
		}
		last := -1
		for _, k := range l {
			if k.At <= last || k.Kind != api.NumberT && !strings.HasPrefix(a[k.At:], k.Text) {
				t.Errorf("%q %v", a, k)
			}
			last = k.At
		}
		k, _, e := Lex(b)
		both, _, f := Lex(a + "\n" + b)
		if e == api.OK && (f != api.OK || !Same(both, append(l, k...))) {
			t.Errorf("%q %q", a, b)
		}
	}
}
