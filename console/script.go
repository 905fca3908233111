package console

import (
	"iter"
	"strconv"
	"strings"

	"franking/api"
)

// The numbers that scripts have at most.
const (
	maxCommands = 200
	maxText     = 1000
)

// kind says what a line of a script has, and how its command is performed.
type kind struct {
	no      int
	numbers int
	text    bool
	perform func(c *console, x api.Command)
}

// kinds returns the kinds of commands, by the first words of their lines.
func kinds() map[string]kind {
	return map[string]kind{
		"order":  {no: api.OrderW, text: true, perform: (*console).order},
		"line":   {no: api.LineW, numbers: 4, perform: (*console).railway},
		"entry":  {no: api.EntryW, numbers: 4, perform: (*console).entry},
		"fault":  {no: api.FaultW, numbers: 4, perform: (*console).fault},
		"plan":   {no: api.PlanW, perform: (*console).plan},
		"play":   {no: api.PlayW, perform: (*console).play},
		"money":  {no: api.MoneyW, perform: (*console).money},
		"back":   {no: api.BackW, perform: (*console).back},
		"report": {no: api.ReportW, perform: (*console).report},
		"save":   {no: api.SaveW, perform: (*console).save},
		"ask":    {no: api.AskW, numbers: 2, perform: (*console).ask},
		"break":  {no: api.BreakW, numbers: 2, perform: (*console).breakers},
		"branch": {no: api.BranchW, numbers: 1, perform: (*console).branch},
		"crash":  {no: api.CrashW, numbers: 1, perform: (*console).crash},
	}
}

// nameOf returns the first word of the lines of a kind.
func nameOf(table map[string]kind, no int) (name string, ok bool) {
	for name, k := range table {
		if k.no == no {
			return name, true
		}
	}
	return "", false
}

// words yields the words of a line.
func words(line string) iter.Seq[string] {
	return func(yield func(word string) bool) {
		for more := true; more; {
			var word string
			word, line, more = strings.Cut(line, " ")
			if !yield(word) {
				return
			}
		}
	}
}

func isNumber(n int) bool { return n >= 0 && n <= api.MaxNum }

func isText(s string) bool { return s != "" && len(s) <= maxText && !strings.Contains(s, "\n") }

// places are where a command keeps its numbers.
func places(x *api.Command) [4]*int { return [4]*int{&x.A, &x.B, &x.C, &x.D} }

// read returns the command of a line.
func read(table map[string]kind, line string) (x api.Command, ok bool) {
	name, rest, more := strings.Cut(line, " ")
	k, ok := table[name]
	if !ok {
		return api.Command{}, false
	}
	x.Kind = k.no
	if k.text {
		x.Text = rest
		return x, more && isText(rest)
	}
	if !more {
		return x, k.numbers == 0
	}
	count := 0
	for word := range words(rest) {
		n, err := strconv.Atoi(word)
		if count == k.numbers || err != nil || !isNumber(n) || strconv.Itoa(n) != word {
			return api.Command{}, false
		}
		*places(&x)[count] = n
		count++
	}
	return x, count == k.numbers
}

// Parse reads commands.
func Parse(src string) (l []api.Command, line int, e api.Errno) {
	if len(src) > api.MaxSource {
		return nil, 0, api.ErrCommand
	}
	table := kinds()
	for src != "" {
		text, rest, whole := strings.Cut(src, "\n")
		x, ok := read(table, text)
		if !whole || !ok || len(l) == maxCommands {
			return nil, len(l) + 1, api.ErrCommand
		}
		l, src = append(l, x), rest
	}
	return l, 0, api.OK
}

// inForm reports whether a command is of a kind.
func (k kind) inForm(x api.Command) bool {
	if k.text != (x.Text != "") || k.text && !isText(x.Text) {
		return false
	}
	for i, n := range places(&x) {
		if i < k.numbers && !isNumber(*n) || i >= k.numbers && *n != 0 {
			return false
		}
	}
	return true
}

// Say prints commands.
func Say(l []api.Command) (src string, e api.Errno) {
	if len(l) > maxCommands {
		return "", api.ErrCommand
	}
	table, c := kinds(), &console{}
	for _, x := range l {
		name, ok := nameOf(table, x.Kind)
		k := table[name]
		if !ok || !k.inForm(x) {
			return "", api.ErrCommand
		}
		if k.text {
			c.line(name, x.Text)
			continue
		}
		numbers := []int{x.A, x.B, x.C, x.D}
		c.line(name, numbers[:k.numbers])
	}
	if c.out.Len() > api.MaxSource {
		return "", api.ErrCommand
	}
	return c.out.String(), api.OK
}
