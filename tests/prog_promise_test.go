package tests

import (
	"fmt"
	"slices"
	"strings"
	"testing"

	"loop.example/backstitch/impl"
)

// dice tells numbers, always the same ones.
type dice struct{ state uint32 }

func (d *dice) upTo(n int) int {
	d.state = d.state*1664525 + 1013904223
	return int(d.state>>16) % n
}

// thrown is a program of the right form, thrown by dice: names are few, so that they meet, and most of those used are there.
type thrown struct {
	dice
	values, calls []string
}

func (d *thrown) name(there []string) string {
	if len(there) > 0 && d.upTo(40) > 0 {
		return there[d.upTo(len(there))]
	}
	return d.fresh()
}

func (d *thrown) fresh() string {
	return []string{"a", "b", "c", "d", "e", "f", "g", "h", "ab", "A"}[d.upTo(10)]
}

func (d *thrown) expr(depth int) impl.Expr {
	switch k := d.upTo(5); {
	case depth > 1 && k == 0:
		return of(impl.ExprAdd+d.upTo(7), d.expr(depth-1), d.expr(depth-1))
	case depth > 1 && k == 1:
		return nots(1, d.expr(depth-1))
	case k == 2:
		return lit([]impl.Value{{}, num(7), num(-1), text("}")}[d.upTo(4)])
	}
	return name(d.name(d.values))
}

func (d *thrown) step(depth int) impl.Step {
	kind := 1 + d.upTo(13)
	switch kind {
	case impl.StepSet:
		return set(d.name(d.values), d.expr(3))
	case impl.StepIf, impl.StepWhile:
		s := impl.Step{Kind: kind, Expr: d.expr(2)}
		if depth == 1 {
			return done(s.Expr)
		}
		s.Body = d.body(depth - 1)
		if kind == impl.StepIf && d.upTo(2) == 0 {
			s.Else = d.body(depth - 1)
		}
		return s
	case impl.StepSleep, impl.StepDone, impl.StepFail, impl.StepAgain:
		return bare(kind, d.expr(3))
	}
	s := impl.Step{Kind: kind, Name: d.fresh()}
	if kind != impl.StepJoin && kind != impl.StepWait {
		s.Expr = d.expr(3)
	}
	if kind == impl.StepJoin {
		s.What = d.name(d.calls)
	} else if kind != impl.StepLet {
		s.What = []string{"get", "put", "in", "Z", "a"}[d.upTo(5)]
	}
	if kind == impl.StepGo {
		d.calls = append(d.calls, s.Name)
	} else {
		d.values = append(d.values, s.Name)
	}
	return s
}

func (d *thrown) body(depth int) []impl.Step {
	values, calls := slices.Clone(d.values), slices.Clone(d.calls)
	var list []impl.Step
	for range 1 + d.upTo(3) {
		list = append(list, d.step(depth))
	}
	if d.upTo(20) > 0 {
		d.values, d.calls = values, calls
	}
	return list
}

// throwProgs is programs of the right form; many are fine.
func throwProgs(n int) []impl.Prog {
	var list []impl.Prog
	for seed := range n {
		d := &thrown{dice: dice{uint32(seed)}, values: []string{"in"}}
		p := impl.Prog{Name: d.fresh()}
		for range 1 + d.upTo(4) {
			p.Steps = append(p.Steps, d.body(impl.NestMax)...)
		}
		p.Steps = p.Steps[:min(len(p.Steps), impl.BodyMax)]
		list = append(list, p)
	}
	return list
}

// namesMarked tells what steps do with names, one thing behind the other: a sign, and a name.
func namesMarked(list []impl.Step) []string {
	var marks []string
	for _, s := range list {
		for _, n := range impl.ExprNames(s.Expr) {
			marks = append(marks, "?"+n)
		}
		switch s.Kind {
		case impl.StepSet:
			marks = append(marks, "?"+s.Name)
		case impl.StepGo:
			marks = append(marks, "@"+s.Name)
		case impl.StepJoin:
			marks = append(marks, "!"+s.What, "="+s.Name)
		case impl.StepLet, impl.StepCall, impl.StepWait, impl.StepChild:
			marks = append(marks, "="+s.Name)
		case impl.StepIf, impl.StepWhile:
			marks = slices.Concat(marks, []string{"{"}, namesMarked(s.Body), []string{"}", "{"}, namesMarked(s.Else), []string{"}"})
		}
	}
	return marks
}

// codeOf is ProgCheck of a program that has the right form, in another way: one row of names.
func codeOf(p impl.Prog) int {
	there, open := []string{"=in"}, []int{}
	for _, m := range namesMarked(p.Steps) {
		switch n := m[1:]; m[0] {
		case '{':
			open = append(open, len(there))
		case '}':
			there, open = there[:open[len(open)-1]], open[:len(open)-1]
		case '?':
			if !slices.Contains(there, "="+n) {
				return impl.ProgNone
			}
		case '!':
			if !slices.Contains(there, "@"+n) {
				return impl.ProgJoin
			}
		default:
			if slices.Contains(there, "="+n) || slices.Contains(there, "@"+n) {
				return impl.ProgTwice
			}
			there = append(there, m)
		}
	}
	return impl.ProgFine
}

// fineProgs is programs that are fine, by hand and thrown.
func fineProgs() []impl.Prog {
	var list []impl.Prog
	for _, c := range okProgs() {
		list = append(list, c.prog)
	}
	for _, s := range okSteps() {
		list = append(list, prog(s))
	}
	for _, c := range slices.Concat(nameCodes(), withinCodes()) {
		if c.code == impl.ProgFine {
			list = append(list, prog(c.steps...))
		}
	}
	for _, p := range throwProgs(3000) {
		if codeOf(p) == impl.ProgFine {
			list = append(list, p)
		}
	}
	return list
}

func TestProgCheckOfThrown(t *testing.T) {
	var seen [5]int
	for i, p := range throwProgs(3000) {
		want := codeOf(p)
		if code := impl.ProgCheck(p); code != want {
			t.Errorf("program %d is %d, not %d: %v", i, code, want, p)
		}
		seen[want]++
	}
	if seen[impl.ProgFine] < 200 || seen[impl.ProgNone] < 200 || seen[impl.ProgJoin] < 50 || seen[impl.ProgTwice] < 200 {
		t.Errorf("the codes are thrown so often: %v", seen)
	}
}

// Promise 10: a program is read back from its text.
func TestPromise10(t *testing.T) {
	for _, c := range okProgs() {
		if s := impl.ProgPut(c.prog); s != c.text {
			t.Errorf("%s is written as %s", c.text, s)
		}
	}
	for _, p := range fineProgs() {
		s := impl.ProgPut(p)
		if s == "" {
			t.Errorf("%v is not written", p)
		}
		back, ok := impl.ProgGet(s)
		if len(s) > impl.ProgMax {
			if ok || !noProg(back) {
				t.Errorf("%d bytes are read", len(s))
			}
			continue
		}
		if !ok || !sameProg(back, p) {
			t.Errorf("%s is read as %v %v", s, back, ok)
		}
	}
	for _, c := range okProgWritings {
		p, ok := impl.ProgGet(c.text)
		if !ok || impl.ProgCheck(p) != impl.ProgFine || impl.ProgPut(p) != c.put {
			t.Errorf("%q is read as %v %v", c.text, p, ok)
		}
	}
}

// rewritten is rows of words, each with one left out, twice, changed with the next, or another in its place.
func rewritten(words []string) [][]string {
	var rows [][]string
	for i := range words {
		rows = append(rows, slices.Delete(slices.Clone(words), i, i+1), slices.Insert(slices.Clone(words), i, words[i]))
		if i > 0 {
			row := slices.Clone(words)
			row[i-1], row[i] = row[i], row[i-1]
			rows = append(rows, row)
		}
		for _, w := range []string{"in", "a", "b", "1", "-", "=", "==", "(", ")", "{", "}", ";", "else", "if", "while", "done", "let", "set", "go", "call", "join", "wait", "not", "program", `"a"`} {
			row := slices.Clone(words)
			row[i] = w
			rows = append(rows, row, slices.Insert(slices.Clone(words), i, w))
		}
	}
	return rows
}

// Promise 10, of texts near to a program's: what is read is fine, read back, and has the words of the text, no other ones.
func TestPromise10OfRewritten(t *testing.T) {
	read := 0
	for _, c := range okProgs() {
		words, _ := impl.Words(c.text)
		for _, row := range rewritten(words) {
			s := strings.Join(row, " ")
			p, ok := impl.ProgGet(s)
			if !ok {
				if !noProg(p) {
					t.Errorf("%q is false beside %v", s, p)
				}
				continue
			}
			read++
			put := impl.ProgPut(p)
			again, _ := impl.Words(put)
			back, fine := impl.ProgGet(put)
			if impl.ProgCheck(p) != impl.ProgFine || !fine || !sameProg(back, p) || !slices.Equal(again, row) {
				t.Errorf("%q is read as %q", s, put)
			}
		}
	}
	if read < 100 {
		t.Errorf("only %d texts are read", read)
	}
}

// behind is a program with some steps behind.
func behind(p impl.Prog, list ...impl.Step) impl.Prog {
	p.Steps = slices.Concat(p.Steps, list)
	return p
}

// Promise 11: a program that is fine makes no name twice, and uses none that is not there.
func TestPromise11(t *testing.T) {
	in := name("in")
	makers := []func(s string) impl.Step{
		func(s string) impl.Step { return let(s, in) },
		func(s string) impl.Step { return ask(impl.StepCall, s, "f", in) },
		func(s string) impl.Step { return ask(impl.StepGo, s, "f", in) },
		func(s string) impl.Step { return ask(impl.StepChild, s, "f", in) },
		func(s string) impl.Step { return wait(s, "f") },
	}
	users := []impl.Step{done(name("new")), set("new", in), let("more", name("new")), ask(impl.StepGo, "more", "f", of(impl.ExprOr, in, name("new"))), branch(name("new"), steps(done(in)), nil), loop(name("new"), done(in))}
	codes := func(p impl.Prog, want int) {
		t.Helper()
		if len(p.Steps) > impl.BodyMax {
			want = impl.ProgForm
		}
		if code := impl.ProgCheck(p); code != want {
			t.Errorf("%v is %d, not %d", p, code, want)
		}
	}
	for _, p := range fineProgs() {
		codes(p, impl.ProgFine)
		for i, made := range makers {
			codes(behind(p, made("new")), impl.ProgFine)
			codes(behind(p, made("in")), impl.ProgTwice)
			codes(behind(p, made("new"), makers[(i+1)%len(makers)]("new")), impl.ProgTwice)
			codes(behind(p, made("new"), made("new")), impl.ProgTwice)
			want := impl.ProgNone
			if i != 2 {
				want = impl.ProgFine
			}
			codes(behind(p, made("new"), done(name("new"))), want)
			codes(behind(p, made("new"), set("new", in)), want)
		}
		for _, use := range users {
			codes(behind(p, use), impl.ProgNone)
		}
		codes(behind(p, join("more", "new")), impl.ProgJoin)
		codes(behind(p, makers[2]("new"), join("more", "new")), impl.ProgFine)
		codes(behind(p, makers[2]("new"), join("in", "new")), impl.ProgTwice)
	}
}

// Promise 12: a program has as many steps as both its parts.
func TestPromise12(t *testing.T) {
	for _, p := range fineProgs() {
		n := impl.ProgCount(p)
		if n != countSteps(p.Steps) {
			t.Errorf("%d steps: %s", n, impl.ProgPut(p))
		}
		for i := 1; i < len(p.Steps); i++ {
			first, second := prog(p.Steps[:i]...), prog(p.Steps[i:]...)
			if impl.ProgCheck(second) == impl.ProgFine && impl.ProgCount(first)+impl.ProgCount(second) != n {
				t.Errorf("%d steps, %d of them first: %s", n, i, impl.ProgPut(p))
			}
		}
		if depthOf(p.Steps) == impl.NestMax {
			continue
		}
		for i, within := range withins {
			// The ways with another branch have one step more there.
			more := []int{1, 2, 2, 1}[i]
			if got := impl.ProgCount(prog(within(p.Steps...))); got != n+more {
				t.Errorf("%d steps within, way %d: %d", n, i, got)
			}
		}
		if got := impl.ProgCount(prog(branch(name("in"), p.Steps, p.Steps))); got != n+n+1 {
			t.Errorf("%d steps in both branches: %d", n, got)
		}
	}
	if n := impl.ProgCount(prog(wide(impl.NestMax)...)); n != 8+8*16+8*16*16+8*16*16*16 {
		t.Errorf("as many as there can be: %d", n)
	}
}

// asked is all that steps ask for, as they stand.
func asked(list []impl.Step) []string {
	var names []string
	for _, s := range list {
		switch s.Kind {
		case impl.StepCall, impl.StepGo, impl.StepChild, impl.StepWait:
			names = append(names, s.What)
		}
		names = slices.Concat(names, asked(s.Body), asked(s.Else))
	}
	return names
}

func TestProgCalls(t *testing.T) {
	for _, c := range []struct{ text, want string }{
		{"done in;", "[]"},
		{"call a = f(in);", "[f]"},
		{"go a = f(in);", "[f]"},
		{"child a = f(in);", "[f]"},
		{"wait a = f;", "[f]"},
		{"go a = f(in); join b = a;", "[f]"},
		{"go f = a(in); join b = f; call c = b(1);", "[a b]"},
		{"call a = f(1); go b = f(1); child c = f(1); wait d = f;", "[f]"},
		{"call a = z(1); go b = y(1); child c = x(1); wait d = w;", "[w x y z]"},
		{"call a = f(1); call b = F(1); call c = f1(1); call d = ff(1); call e = f10(1); call g = f2(1);", "[F f f1 f10 f2 ff]"},
		{"if in { call a = y(1); wait b = x; } else { child a = z(1); } while in { if in { go c = a(1); } }", "[a x y z]"},
		{"let get = 1; done get;", "[]"},
		{`done "f";`, "[]"},
		{"call a = in(in); call b = one(1);", "[in one]"},
	} {
		if got := fmt.Sprint(impl.ProgCalls(getProg(t, "program one {"+c.text+"}"))); got != c.want {
			t.Errorf("%s asks for %s", c.text, got)
		}
	}
}

// Promise 13: a program asks for no more by name than it has steps.
func TestPromise13(t *testing.T) {
	for _, p := range fineProgs() {
		calls := impl.ProgCalls(p)
		want := slices.Compact(slices.Sorted(slices.Values(asked(p.Steps))))
		if !slices.Equal(calls, want) || len(calls) > impl.ProgCount(p) || !slices.IsSorted(calls) {
			t.Errorf("%q is asked for by %s", calls, impl.ProgPut(p))
		}
		for i := range calls {
			if !impl.NameOk(calls[i]) || i > 0 && calls[i-1] >= calls[i] {
				t.Errorf("%q is asked for by %s", calls, impl.ProgPut(p))
			}
		}
		if len(p.Steps) == impl.BodyMax {
			continue
		}
		for _, what := range []string{"f", "A", "zz", "in", "new", "new1"} {
			for _, kind := range []int{impl.StepCall, impl.StepGo, impl.StepChild} {
				more := impl.ProgCalls(behind(p, ask(kind, "new", what, name("in"))))
				if !slices.Equal(more, slices.Compact(slices.Sorted(slices.Values(append(slices.Clone(calls), what))))) {
					t.Errorf("%q is asked for, with %s behind %q", more, what, calls)
				}
			}
			if more := impl.ProgCalls(behind(p, wait("new", what))); !slices.Contains(more, what) {
				t.Errorf("%q is asked for, with a wait for %s", more, what)
			}
		}
	}
}

// Promise 68: notes and blanks say nothing in a program.
func TestPromise68(t *testing.T) {
	betweens := []string{" ", "  ", "\t", "\n", " \n\t ", "#\n", " # a note\n", "#$\"{};\n", "\n# done 1;\n"}
	arounds := []struct{ ahead, behind string }{{"", ""}, {" ", " "}, {"\n\t", "\t\n"}, {"# a note\n", "# a note"}, {"#\n# $ \" program\n ", "\n# }\n#"}, {"", "#"}, {"\n\n\n", "\n"}}
	read := 0
	for _, p := range fineProgs() {
		put := impl.ProgPut(p)
		words, _ := impl.Words(put)
		texts := []string{put, strings.ReplaceAll(put, "\n", " # a note\n"), strings.ReplaceAll(put, "  ", ""), strings.ReplaceAll(put, ";\n", ";")}
		for _, between := range betweens {
			texts = append(texts, strings.Join(words, between))
		}
		for _, s := range texts {
			for _, around := range arounds {
				s := around.ahead + s + around.behind
				back, ok := impl.ProgGet(s)
				if len(s) > impl.ProgMax {
					if ok || !noProg(back) {
						t.Errorf("%d bytes are read", len(s))
					}
					continue
				}
				read++
				if !ok || !sameProg(back, p) {
					t.Errorf("%q is read as %v %v", s, back, ok)
				}
			}
		}
	}
	if read < 10000 {
		t.Errorf("only %d texts are read", read)
	}
}

// A note within a text, or blanks in it, do say something.
func TestNotesWithinTexts(t *testing.T) {
	for _, s := range []string{"# no note", "  ", "a  b", ";} #", "="} {
		p := getProg(t, "program one { done \""+s+"\"; }")
		if p.Steps[0].Expr.Value != text(s) {
			t.Errorf("%q is read as %v", s, p)
		}
	}
}
