package tests

import (
	"fmt"
	"slices"
	"strings"
	"testing"

	"loop.example/backstitch/impl"
)

// lines is a text of some lines, each with its end.
func lines(list ...string) string {
	return strings.Join(list, "\n") + "\n"
}

func times(n int, s impl.Step) []impl.Step {
	return slices.Repeat(steps(s), n)
}

// The ways in which a step may be within another one.
var withins = []func(s ...impl.Step) impl.Step{
	func(s ...impl.Step) impl.Step { return branch(name("in"), s, nil) },
	func(s ...impl.Step) impl.Step { return branch(name("in"), s, steps(done(name("in")))) },
	func(s ...impl.Step) impl.Step { return branch(name("in"), steps(done(name("in"))), s) },
	func(s ...impl.Step) impl.Step { return loop(name("in"), s...) },
}

// deep is a step within n others, a way of being so after the other.
func deep(n, way int, s impl.Step) impl.Step {
	for i := range n {
		s = withins[(way+i)%len(withins)](s)
	}
	return s
}

// wide is as many steps as there can be, so deep.
func wide(depth int) []impl.Step {
	if depth == 1 {
		return times(impl.BodyMax, done(name("in")))
	}
	return times(impl.BodyMax, branch(name("in"), wide(depth-1), wide(depth-1)))
}

type writtenProg struct {
	prog impl.Prog
	text string
}

// okProgs is programs that are fine, and how they are written.
func okProgs() []writtenProg {
	in, one := name("in"), lit(num(1))
	sum := of(impl.ExprAdd, in, one)
	return []writtenProg{
		{prog(done(in)), "program one {\n  done in;\n}\n"},
		{impl.Prog{Name: "abcdefghij", Steps: steps(bare(impl.StepFail, lit(text("no } # {"))))}, lines("program abcdefghij {", `  fail "no } # {";`, "}")},
		{impl.Prog{Name: "in", Steps: steps(bare(impl.StepAgain, sum))}, lines("program in {", "  again (in + 1);", "}")},
		{prog(bare(impl.StepSleep, lit(num(-5))), done(lit(impl.Value{}))), lines("program one {", "  sleep -5;", "  done none;", "}")},
		{prog(let("a", sum), set("a", one), set("in", name("a"))), lines("program one {", "  let a = (in + 1);", "  set a = 1;", "  set in = a;", "}")},
		{prog(ask(impl.StepCall, "a", "f", in), ask(impl.StepGo, "b", "f", sum), ask(impl.StepChild, "c", "one", name("a"))),
			lines("program one {", "  call a = f(in);", "  go b = f((in + 1));", "  child c = one(a);", "}")},
		{prog(ask(impl.StepGo, "b", "f", lit(num(-1))), join("a", "b"), wait("c", "a"), wait("d", "in")),
			lines("program one {", "  go b = f(-1);", "  join a = b;", "  wait c = a;", "  wait d = in;", "}")},
		{prog(branch(in, steps(done(one)), nil)), lines("program one {", "  if in {", "    done 1;", "  }", "}")},
		{prog(branch(sum, steps(done(one), done(in)), steps(done(in), done(one))), done(in)),
			lines("program one {", "  if (in + 1) {", "    done 1;", "    done in;", "  } else {", "    done in;", "    done 1;", "  }", "  done in;", "}")},
		{prog(loop(of(impl.ExprNot, in), done(one), bare(impl.StepSleep, in))), lines("program one {", "  while (not in) {", "    done 1;", "    sleep in;", "  }", "}")},
		{prog(branch(in, steps(loop(in, branch(one, steps(done(in)), steps(done(one))))), steps(branch(one, steps(done(in)), steps(branch(in, steps(done(one)), nil)))))),
			lines("program one {", "  if in {", "    while in {", "      if 1 {", "        done in;", "      } else {", "        done 1;", "      }", "    }", "  } else {",
				"    if 1 {", "      done in;", "    } else {", "      if in {", "        done 1;", "      }", "    }", "  }", "}")},
		{prog(times(impl.BodyMax, done(in))...), "program one {\n" + strings.Repeat("  done in;\n", impl.BodyMax) + "}\n"},
		{prog(branch(in, times(impl.BodyMax, done(in)), times(impl.BodyMax, done(one)))),
			"program one {\n  if in {\n" + strings.Repeat("    done in;\n", impl.BodyMax) + "  } else {\n" + strings.Repeat("    done 1;\n", impl.BodyMax) + "  }\n}\n"},
		{prog(let("x", in), done(full(impl.ExprMax))), lines("program one {", "  let x = in;", "  done "+fullPut(impl.ExprMax)+";", "}")},
	}
}

// okProgWritings is texts that tell a program in another way than ProgPut.
var okProgWritings = []struct{ text, put string }{
	{"program one { done in; }", lines("program one {", "  done in;", "}")},
	{"program one{done-1;}", lines("program one {", "  done -1;", "}")},
	{`program one{done"a";}`, lines("program one {", `  done "a";`, "}")},
	{"program one{done(in+1);}", lines("program one {", "  done (in + 1);", "}")},
	{"program one{let a=-1;set a=a;}", lines("program one {", "  let a = -1;", "  set a = a;", "}")},
	{"program one{call a=f(1);call b=f((in-1));}", lines("program one {", "  call a = f(1);", "  call b = f((in - 1));", "}")},
	{"program\none\n{\nif\n1\n{\ndone\n2\n;\n}\nelse\n{\ndone\n3\n;\n}\n}", lines("program one {", "  if 1 {", "    done 2;", "  } else {", "    done 3;", "  }", "}")},
	{"program one{if in{done 2;}if in{done 3;}else{done 4;}}", lines("program one {", "  if in {", "    done 2;", "  }", "  if in {", "    done 3;", "  } else {", "    done 4;", "  }", "}")},
	{"program one{while(not in){sleep 2;}}", lines("program one {", "  while (not in) {", "    sleep 2;", "  }", "}")},
	{"# a note\nprogram one { # {\n\tdone in; # }\n} # }", lines("program one {", "  done in;", "}")},
}

// wrongProgWritings is texts that tell no program that is fine.
var wrongProgWritings = []string{
	"", " ", "# program one { done 1; }", "program", "program one", "program one {", "program one { }", "program one {}", "program one done 1;", "program { done 1; }", "one { done 1; }", "done 1;", "{ done 1; }",
	"Program one { done 1; }", "program one { done 1; ", "program one { done 1; } }", "program one { { done 1; }", "program one { done 1; } x", "program one { done 1; } ;", "program one { done 1; } program two { done 1; }", "x program one { done 1; }",
	"program one ( done 1; )", "program one { done 1; )", "program one one { done 1; }", "program one { done 1 }", "program one { done 1;; }", "program one { ; done 1; }", "program one { ; }", "program one { done; }", "program one { done }", "program one { done",
	"program let { done 1; }", "program none { done 1; }", "program program { done 1; }", "program 1 { done 1; }", "program 9a { done 1; }", "program abcdefghijk { done 1; }", `program "a" { done 1; }`, "program { { done 1; }", "program ; { done 1; }",
	"program one { Done 1; }", "program one { dones 1; }", "program one { done1; }", "program one { in; }", "program one { x = 1; }", "program one { program two { done 1; } }", "program one { not 1; }", "program one { none; }", "program one { else { done 1; } }", "program one { return 1; }",
	"program one { done 1 2; }", "program one { done (1); }", "program one { done (1 +); }", "program one { done 1 + 2; }", "program one { done not 1; }", "program one { done done; }", "program one { done -; }", "program one { done -0; }", "program one { done 00; }", "program one { done = 1; }",
	"program one { sleep 1, }", "program one { sleep; }", "program one { sleep 1 }", "program one { fail; }", "program one { again; }", "program one { again in }",
	"program one { let = 1; }", "program one { let a 1; }", "program one { let a == 1; }", "program one { let a = ; }", "program one { let a = 1 }", "program one { let a = = 1; }", "program one { let a; }", "program one { let a = 1, b = 2; }", "program one { let let = 1; }", "program one { let 1 = 1; }", "program one { let abcdefghijk = 1; }", "program one { let a = b; }", "program one { let in = 1; }", "program one { let a = a; }", "program one { let a = 1; let a = 1; }",
	"program one { set = 1; }", "program one { set in 1; }", "program one { set in == 1; }", "program one { set in = ; }", "program one { set in = 1 }", "program one { set x = 1; }", "program one { set in = x; }", "program one { set if = 1; }",
	"program one { call a = f; }", "program one { call a = f(); }", "program one { call a = f(1) }", "program one { call a = f(1; }", "program one { call a = f 1); }", "program one { call a = f 1; }", "program one { call a = (1); }", "program one { call = f(1); }", "program one { call a f(1); }", "program one { call f(1); }", "program one { call a == f(1); }", "program one { call a = f(1, 2); }", "program one { call a = f(1 + 2); }", "program one { call a = f(not 1); }", "program one { call a = f((1)); }", "program one { call a = f{1}; }", "program one { call a = f(1)); }", "program one { call a = go(1); }", "program one { call a = 1(1); }", "program one { call a = abcdefghijk(1); }", "program one { call call = f(1); }", "program one { call a = f(a); }", "program one { call in = f(1); }", "program one { call a = (f); }",
	"program one { go a = f; }", "program one { go a = f(); }", "program one { go f(1); }", "program one { go a = f(1) }", "program one { go a f(1); }", "program one { go a = f(1); done a; }", "program one { go a = f(1); set a = 1; }",
	"program one { child a = f; }", "program one { child a = f(); }", "program one { child f(1); }", "program one { child a = f(1) }", "program one { child a = child(1); }",
	"program one { wait a; }", "program one { wait a = 5; }", "program one { wait a = f(1); }", "program one { wait a = f }", "program one { wait = f; }", "program one { wait a f; }", "program one { wait a == f; }", "program one { wait a = ; }", "program one { wait a = wait; }", "program one { wait a = \"f\"; }", "program one { wait in = f; }", "program one { wait a = f f; }",
	"program one { join a = b; }", "program one { join a; }", "program one { join b; }", "program one { go b = f(1); join a; }", "program one { go b = f(1); join b; }", "program one { go b = f(1); join a b; }", "program one { go b = f(1); join a = b }", "program one { go b = f(1); join a = b(1); }", "program one { go b = f(1); join a = f; }", "program one { go b = f(1); join a == b; }", "program one { call b = f(1); join a = b; }", "program one { go b = f(1); join b = b; }",
	"program one { if { done 1; } }", "program one { if in done 1; }", "program one { if in { } }", "program one { if in { done 1; }; }", "program one { if in { done 1; } else }", "program one { if in { done 1; } else { } }", "program one { if in { done 1; } else { }; }", "program one { if in { done 1; } else done 2; }", "program one { if in { done 1; } else { done 2; } else { done 3; } }", "program one { if in { done 1; } else if in { done 2; } }", "program one { if in { } else { done 1; } }", "program one { if in else { done 1; } }", "program one { if in { done 1; }", "program one { if in { done 1; } else {", "program one { if in { done 1; } else { done 2; }", "program one { if in; }", "program one { if (in) { done 1; } }", "program one { if x { done 1; } }", "program one { if in { let a = 1; } done a; }", "program one { if in { let a = 1; } else { done a; } }", "program one { if in { go a = f(1); } join b = a; }", "program one { if in { go a = f(1); } else { join b = a; } }",
	"program one { while { done 1; } }", "program one { while in done 1; }", "program one { while in { } }", "program one { while in { done 1; }; }", "program one { while in { done 1; } else { done 2; } }", "program one { while in { done 1; }", "program one { while in; }", "program one { while a { let a = 1; } }", "program one { while in { let a = 1; } done a; }",
	"program one { done \"a; }", "program one { done 1; } $", "program one { done 1; }\r\n", "program one { done 'a'; }", "program one { done \"\t\"; }", "program one { done in.x; }",
	"program one {" + strings.Repeat(" done 1;", impl.BodyMax+1) + " }", "program one { if in {" + strings.Repeat(" done 1;", impl.BodyMax+1) + " } }", "program one { if in { done 1; } else {" + strings.Repeat(" done 1;", impl.BodyMax+1) + " } }", "program one { while in {" + strings.Repeat(" done 1;", impl.BodyMax+1) + " } }",
	"program one { if in { if in { if in { if in { done 1; } } } } }", "program one { while in { while in { while in { while in { done 1; } } } } }", "program one { if in { done 1; } else { if in { done 1; } else { if in { done 1; } else { if in { done 1; } } } } }",
	"program one {" + strings.Repeat("if in{", 190), "program one { done " + strings.Repeat("(", 1000), strings.Repeat("{", impl.ProgMax), strings.Repeat("if in { ", 100000),
}

// okSteps is a step of each kind, with each of its parts, and what it is in a program that is fine.
func okSteps() []impl.Step {
	in, body := name("in"), steps(done(name("in")))
	return steps(
		let("a", in), set("in", in), branch(in, body, body), branch(in, body, nil), loop(in, body...),
		ask(impl.StepCall, "a", "b", in), ask(impl.StepGo, "a", "b", in), ask(impl.StepChild, "a", "b", in),
		wait("a", "b"), bare(impl.StepSleep, in), done(in), bare(impl.StepFail, in), bare(impl.StepAgain, in))
}

// spoiled is a step in all ways in which a part is missing, wrong, or there without being asked for.
func spoiled(s impl.Step) []impl.Step {
	var list []impl.Step
	add := func(spoil func(s *impl.Step)) {
		s := s
		spoil(&s)
		list = append(list, s)
	}
	named, asks := s.Name != "", s.What != ""
	takes, holds, either := s.Expr.Kind != 0, len(s.Body) > 0, s.Kind == impl.StepIf
	wrong := append(slices.Clone(wrongNames), keptWords...)
	for _, w := range wrong {
		if named || w != "" {
			add(func(s *impl.Step) { s.Name = w })
		}
		if asks || w != "" {
			add(func(s *impl.Step) { s.What = w })
		}
	}
	if !named {
		add(func(s *impl.Step) { s.Name = "b" })
	}
	if !asks {
		add(func(s *impl.Step) { s.What = "b" })
	}
	for _, e := range append(wrongExprs(), ringExprs()...) {
		if takes || !noExpr(e) {
			add(func(s *impl.Step) { s.Expr = e })
		}
	}
	if !takes {
		add(func(s *impl.Step) { s.Expr = name("in") })
	}
	for _, steps := range wrongBodies() {
		if holds || len(steps) > 0 {
			add(func(s *impl.Step) { s.Body = steps })
		}
		if len(steps) > 0 {
			add(func(s *impl.Step) { s.Else = steps })
		}
	}
	body := steps(done(name("in")))
	if !holds {
		add(func(s *impl.Step) { s.Body = body })
	}
	if !either {
		add(func(s *impl.Step) { s.Else = body })
	}
	return list
}

// wrongBodies is lists that are no Body, no Else, and no program's steps.
func wrongBodies() [][]impl.Step {
	in := name("in")
	list := [][]impl.Step{
		nil, {}, {{}}, {{}, done(in)}, {done(in), {}},
		times(impl.BodyMax+1, done(in)), times(100, done(in)),
		{{Kind: -1, Expr: in}}, {{Kind: 14, Expr: in}}, {{Kind: 14}}, {{Kind: -5}}, {{Kind: 0, Expr: in}}, {{Kind: 0, Name: "a", Expr: in}},
		{join("", "b")}, {join("a", "")}, {join("a", "let")}, {join("none", "b")}, {{Kind: impl.StepJoin, Name: "a", What: "b", Expr: in}},
		{{Kind: impl.StepJoin, Name: "a", What: "b", Body: steps(done(in))}}, {{Kind: impl.StepJoin, Name: "a", What: "b", Else: steps(done(in))}},
	}
	for way := range withins {
		list = append(list, steps(deep(impl.NestMax, way, done(in))), steps(deep(impl.NestMax+1, way, done(in))), steps(done(in), deep(9, way, done(in))))
		ring := steps(withins[way](done(in)))
		ring[0].Body = ring
		list = append(list, ring)
	}
	rings := make([]impl.Step, impl.BodyMax)
	for i := range rings {
		rings[i] = branch(in, rings, rings)
	}
	return append(list, rings)
}

// wrongForms is programs that have not the form they must have, each but for one thing.
func wrongForms() []impl.Prog {
	var list []impl.Prog
	for _, s := range append(slices.Clone(wrongNames), keptWords...) {
		list = append(list, impl.Prog{Name: s, Steps: steps(done(name("in")))})
	}
	for _, steps := range wrongBodies() {
		list = append(list, prog(steps...))
	}
	for _, ok := range okSteps() {
		for _, s := range spoiled(ok) {
			list = append(list, prog(s))
		}
	}
	return list
}

// codedProg is a program that is not fine, or just so, and what ProgCheck tells.
type codedProg struct {
	about string
	steps []impl.Step
	code  int
}

// Names, made and used in each way.
func nameCodes() []codedProg {
	in, one, a, b := name("in"), lit(num(1)), name("a"), name("b")
	goes := func(s string) impl.Step { return ask(impl.StepGo, s, "f", one) }
	return []codedProg{
		{"in is a value", steps(done(in)), impl.ProgFine},
		{"in is set", steps(set("in", one)), impl.ProgFine},
		{"in is made", steps(let("in", one)), impl.ProgTwice},
		{"in is made by a go", steps(goes("in")), impl.ProgTwice},
		{"in is joined", steps(join("a", "in")), impl.ProgJoin},
		{"a name that is not there", steps(done(a)), impl.ProgNone},
		{"only within", steps(done(of(impl.ExprAdd, in, of(impl.ExprNot, a)))), impl.ProgNone},
		{"a name in another case", steps(done(name("In"))), impl.ProgNone},
		{"a name that is longer", steps(let("ab", one), done(a)), impl.ProgNone},
		{"what is asked for is no name here", steps(ask(impl.StepCall, "a", "b", one), done(b)), impl.ProgNone},
		{"the program's name is none", steps(done(name("one"))), impl.ProgNone},
		{"it may be made", steps(let("one", in), done(name("one"))), impl.ProgFine},
		{"used ahead of being made", steps(done(a), let("a", one)), impl.ProgNone},
		{"used in what makes it", steps(let("a", a)), impl.ProgNone},
		{"used in the call that makes it", steps(ask(impl.StepCall, "a", "f", a)), impl.ProgNone},
		{"used in the go that makes it", steps(ask(impl.StepGo, "a", "f", a)), impl.ProgNone},
		{"used in the child that makes it", steps(ask(impl.StepChild, "a", "f", a)), impl.ProgNone},
		{"set, and not there", steps(set("a", one)), impl.ProgNone},
		{"set in itself, and not there", steps(set("a", a)), impl.ProgNone},
		{"set by what is not there", steps(set("in", a)), impl.ProgNone},
		{"set, and a go", steps(goes("a"), set("a", one)), impl.ProgNone},
		{"used, and a go", steps(goes("a"), done(a)), impl.ProgNone},
		{"a go used beside in", steps(goes("a"), let("b", of(impl.ExprSame, in, a))), impl.ProgNone},
		{"a go as what a call is given", steps(goes("a"), ask(impl.StepCall, "b", "f", a)), impl.ProgNone},
		{"a go as what a branch asks", steps(goes("a"), branch(a, steps(done(one)), nil)), impl.ProgNone},
		{"a go as what a loop asks", steps(goes("a"), loop(a, done(one))), impl.ProgNone},
		{"a go that was joined is no value", steps(goes("a"), join("b", "a"), done(a)), impl.ProgNone},
		{"what joins it is one", steps(goes("a"), join("b", "a"), done(b)), impl.ProgFine},
		{"a go joined twice", steps(goes("a"), join("b", "a"), join("c", "a")), impl.ProgFine},
		{"a go joined to its own name", steps(goes("a"), join("a", "a")), impl.ProgTwice},
		{"a join of what is not there", steps(join("a", "b")), impl.ProgJoin},
		{"a join of itself", steps(join("a", "a")), impl.ProgJoin},
		{"a join of a value", steps(let("b", one), join("a", "b")), impl.ProgJoin},
		{"a join of a call's name", steps(ask(impl.StepCall, "b", "f", one), join("a", "b")), impl.ProgJoin},
		{"a join of a child's name", steps(ask(impl.StepChild, "b", "f", one), join("a", "b")), impl.ProgJoin},
		{"a join of a signal's name", steps(wait("b", "f"), join("a", "b")), impl.ProgJoin},
		{"a join of a join's name", steps(goes("b"), join("c", "b"), join("a", "c")), impl.ProgJoin},
		{"a join of what a go asks for", steps(goes("b"), join("a", "f")), impl.ProgJoin},
		{"a join ahead of its go", steps(join("a", "b"), goes("b")), impl.ProgJoin},
		{"a wait for what is not there", steps(wait("a", "b")), impl.ProgFine},
		{"a call of the name of a go", steps(goes("a"), ask(impl.StepCall, "b", "a", one)), impl.ProgFine},
		{"a go of a value's name", steps(let("a", one), goes("a")), impl.ProgTwice},
		{"a value of a go's name", steps(goes("a"), let("a", one)), impl.ProgTwice},
		{"two goes of a name", steps(goes("a"), goes("a")), impl.ProgTwice},
		{"set makes none", steps(set("in", one), set("in", one), let("a", in), set("a", a), let("b", a)), impl.ProgFine},
	}
}

// Names within a Body and an Else, and behind it.
func withinCodes() []codedProg {
	in, one, a := name("in"), lit(num(1)), name("a")
	makes := let("a", one)
	goes := ask(impl.StepGo, "g", "f", one)
	list := []codedProg{
		{"one for the Body, one for the Else", steps(branch(in, steps(makes, done(a)), steps(makes, done(a)))), impl.ProgFine},
		{"made in the Body, used in the Else", steps(branch(in, steps(makes), steps(done(a)))), impl.ProgNone},
		{"made in the Body, set in the Else", steps(branch(in, steps(makes), steps(set("a", one)))), impl.ProgNone},
		{"made in the Body, joined in the Else", steps(branch(in, steps(goes), steps(join("a", "g")))), impl.ProgJoin},
		{"made in the Else, used in the Body", steps(branch(in, steps(done(a)), steps(makes))), impl.ProgNone},
		{"a value in the Body, a go in the Else", steps(branch(in, steps(let("g", one), done(name("g"))), steps(goes, join("a", "g")))), impl.ProgFine},
		{"a go in the Body, a value in the Else", steps(branch(in, steps(goes, join("a", "g")), steps(let("g", one), done(name("g"))))), impl.ProgFine},
		{"the loop asks for what it makes", steps(loop(a, makes)), impl.ProgNone},
		{"the branch asks for what it makes", steps(branch(a, steps(makes), nil)), impl.ProgNone},
	}
	for _, within := range withins {
		list = append(list,
			codedProg{"made within, used there", steps(within(makes, done(a))), impl.ProgFine},
			codedProg{"made within twice", steps(within(makes, makes)), impl.ProgTwice},
			codedProg{"made within, used behind", steps(within(makes), done(a)), impl.ProgNone},
			codedProg{"made within, set behind", steps(within(makes), set("a", one)), impl.ProgNone},
			codedProg{"made within, made behind", steps(within(makes), makes, done(a)), impl.ProgFine},
			codedProg{"made within, and within another", steps(within(makes), within(makes)), impl.ProgFine},
			codedProg{"made within, made deeper", steps(within(makes, within(makes))), impl.ProgTwice},
			codedProg{"made deeper, made within", steps(within(within(makes), makes)), impl.ProgFine},
			codedProg{"made deeper, used within", steps(within(within(makes), done(a))), impl.ProgNone},
			codedProg{"made ahead, used deeper", steps(makes, within(within(within(done(a))))), impl.ProgFine},
			codedProg{"made ahead, set deeper, used behind", steps(makes, within(within(set("a", in))), done(a)), impl.ProgFine},
			codedProg{"made ahead, made deeper", steps(makes, within(within(within(makes)))), impl.ProgTwice},
			codedProg{"in made within", steps(within(let("in", one))), impl.ProgTwice},
			codedProg{"made behind, used within", steps(within(done(a)), makes), impl.ProgNone},
			codedProg{"a go ahead, joined deeper", steps(goes, within(within(join("a", "g"), done(a)))), impl.ProgFine},
			codedProg{"a go within, joined there", steps(within(goes, join("a", "g"))), impl.ProgFine},
			codedProg{"a go within, joined behind", steps(within(goes), join("a", "g")), impl.ProgJoin},
			codedProg{"a go ahead, used within", steps(goes, within(done(name("g")))), impl.ProgNone},
			codedProg{"a go ahead, set within", steps(goes, within(set("g", one))), impl.ProgNone},
			codedProg{"a go ahead, made within", steps(goes, within(let("g", one))), impl.ProgTwice},
			codedProg{"joined within, used behind", steps(goes, within(join("a", "g")), done(a)), impl.ProgNone},
		)
	}
	return list
}

// What is looked for first, if several things are wrong.
func orderCodes() []codedProg {
	in, one, a := name("in"), lit(num(1)), name("a")
	none, joins, twice, form := done(a), join("b", "c"), let("in", one), impl.Step{Kind: 14}
	list := []codedProg{
		{"form behind none", steps(none, form), impl.ProgForm},
		{"form behind join", steps(joins, form), impl.ProgForm},
		{"form behind twice", steps(twice, form), impl.ProgForm},
		{"form deep within, behind none", steps(none, deep(3, 0, form)), impl.ProgForm},
		{"form by one step too many", append(times(impl.BodyMax, none), none), impl.ProgForm},
		{"form by depth, behind twice", steps(twice, deep(impl.NestMax, 1, done(in))), impl.ProgForm},
		{"none and twice in one step", steps(let("in", a)), impl.ProgNone},
		{"none and twice in one call", steps(ask(impl.StepCall, "in", "f", a)), impl.ProgNone},
		{"none and twice in one go", steps(ask(impl.StepGo, "in", "f", a)), impl.ProgNone},
		{"none and twice in one child", steps(ask(impl.StepChild, "in", "f", a)), impl.ProgNone},
		{"join and twice in one step", steps(join("in", "c")), impl.ProgJoin},
		{"a branch's expression ahead of what is within", steps(branch(a, steps(twice), steps(joins))), impl.ProgNone},
		{"a loop's expression ahead of what is within", steps(loop(a, twice)), impl.ProgNone},
		{"Body ahead of Else: twice", steps(branch(in, steps(twice), steps(none))), impl.ProgTwice},
		{"Body ahead of Else: join", steps(branch(in, steps(joins), steps(none))), impl.ProgJoin},
		{"Body ahead of Else: none", steps(branch(in, steps(none), steps(joins))), impl.ProgNone},
		{"Else ahead of what is behind", steps(branch(in, steps(done(in)), steps(twice)), none), impl.ProgTwice},
	}
	wrongs := []codedProg{{"none", steps(none), impl.ProgNone}, {"join", steps(joins), impl.ProgJoin}, {"twice", steps(twice), impl.ProgTwice}}
	for _, first := range wrongs {
		for _, second := range wrongs {
			about := first.about + " ahead of " + second.about
			s := slices.Concat(first.steps, second.steps)
			list = append(list, codedProg{about, s, first.code})
			for i, within := range withins {
				list = append(list,
					codedProg{fmt.Sprint(about, " within, way ", i), steps(within(s...)), first.code},
					codedProg{fmt.Sprint(about, ", the first within, way ", i), steps(within(first.steps...), second.steps[0]), first.code},
					codedProg{fmt.Sprint(about, ", the second within, way ", i), steps(first.steps[0], within(second.steps...)), first.code})
			}
		}
	}
	return list
}

func TestProgCheckOfFine(t *testing.T) {
	for _, c := range okProgs() {
		if code := impl.ProgCheck(c.prog); code != impl.ProgFine {
			t.Errorf("%s is %d", c.text, code)
		}
	}
	for i, s := range okSteps() {
		if code := impl.ProgCheck(prog(s)); code != impl.ProgFine {
			t.Errorf("step %d is %d", i, code)
		}
	}
	for _, s := range okNames {
		p := impl.Prog{Name: s, Steps: steps(ask(impl.StepCall, "x", s, name("in")))}
		if code := impl.ProgCheck(p); code != impl.ProgFine {
			t.Errorf("%s is %d", s, code)
		}
	}
}

func TestProgCheckOfForms(t *testing.T) {
	for i, p := range wrongForms() {
		if code := impl.ProgCheck(p); code != impl.ProgForm {
			t.Errorf("wrong form %d is %d", i, code)
		}
	}
}

func TestProgCheckCodes(t *testing.T) {
	for _, c := range slices.Concat(nameCodes(), withinCodes(), orderCodes()) {
		if code := impl.ProgCheck(prog(c.steps...)); code != c.code {
			t.Errorf("%s: %d, not %d", c.about, code, c.code)
		}
	}
}

// An empty list is the same as none, and no Else the same as an empty one.
func TestProgCheckOfEmptyLists(t *testing.T) {
	for i, s := range okSteps() {
		if len(s.Body) == 0 {
			s.Body = make([]impl.Step, 0, 3)
		}
		if len(s.Else) == 0 {
			s.Else = make([]impl.Step, 0, 3)
		}
		s.Expr.Parts = make([]impl.Expr, 0, 3)
		if p := prog(s); impl.ProgCheck(p) != impl.ProgFine || impl.ProgCount(p) != countSteps(p.Steps) || strings.Contains(impl.ProgPut(p), "else") != (len(s.Else) > 0) {
			t.Errorf("step %d is written as %s", i, impl.ProgPut(p))
		}
	}
	s := join("a", "b")
	s.Expr.Parts, s.Body, s.Else = make([]impl.Expr, 0, 3), make([]impl.Step, 0, 3), make([]impl.Step, 0, 3)
	if code := impl.ProgCheck(prog(ask(impl.StepGo, "b", "f", name("in")), s)); code != impl.ProgFine {
		t.Errorf("a join is %d", code)
	}
}

// Limits of steps side by side, and within each other: met exactly, and one more.
func TestProgLimits(t *testing.T) {
	in := name("in")
	for n := range impl.BodyMax + 3 {
		want := impl.ProgForm
		if n >= 1 && n <= impl.BodyMax {
			want = impl.ProgFine
		}
		list := times(n, done(in))
		for i, p := range []impl.Prog{prog(list...), prog(loop(in, list...)), prog(branch(in, list, nil)), prog(branch(in, list, steps(done(in))))} {
			if code := impl.ProgCheck(p); code != want {
				t.Errorf("%d steps, %d: %d", n, i, code)
			}
		}
		if n == 0 {
			want = impl.ProgFine
		}
		if code := impl.ProgCheck(prog(branch(in, steps(done(in)), list))); code != want {
			t.Errorf("%d steps as an Else: %d", n, code)
		}
	}
	for n := range impl.NestMax + 3 {
		for way := range withins {
			p := prog(done(in), deep(n, way, done(in)))
			fine := n < impl.NestMax
			if (impl.ProgCheck(p) == impl.ProgFine) != fine || (impl.ProgPut(p) != "") != fine || (impl.ProgCount(p) > 0) != fine {
				t.Errorf("%d around, way %d: %d", n, way, impl.ProgCheck(p))
			}
		}
	}
	if code := impl.ProgCheck(prog(wide(impl.NestMax)...)); code != impl.ProgFine {
		t.Errorf("as many steps as there can be: %d", code)
	}
}

// At what is not fine each function has its one answer.
func TestProgWrong(t *testing.T) {
	list := wrongForms()
	for _, c := range slices.Concat(nameCodes(), withinCodes(), orderCodes()) {
		if c.code != impl.ProgFine {
			list = append(list, prog(c.steps...))
		}
	}
	for i, p := range list {
		if s := impl.ProgPut(p); s != "" {
			t.Errorf("wrong %d is written as %q", i, s)
		}
		if n := impl.ProgCount(p); n != 0 {
			t.Errorf("wrong %d has %d steps", i, n)
		}
		if calls := impl.ProgCalls(p); len(calls) != 0 {
			t.Errorf("wrong %d asks for %q", i, calls)
		}
	}
	for _, s := range wrongProgWritings {
		if p, ok := impl.ProgGet(s); ok || !noProg(p) {
			t.Errorf("%.90q is read as %v %v", s, p, ok)
		}
	}
}

// A text may have ProgMax bytes, however many of them say something.
func TestProgGetLimit(t *testing.T) {
	long := "program one{" + strings.Repeat("done((((in+1)+1)+1)+1);", 7) + "done"
	long += strings.Repeat(" ", impl.ProgMax-len(long)-3) + "1;}"
	texts := []string{long}
	for _, fill := range []string{" ", "\n", "\t"} {
		texts = append(texts, "program one { done 1; }"+strings.Repeat(fill, impl.ProgMax-23))
		texts = append(texts, strings.Repeat(fill, impl.ProgMax-23)+"program one { done 1; }")
	}
	texts = append(texts, "program one { done 1; }#"+strings.Repeat("$", impl.ProgMax-24))
	for _, s := range texts {
		if len(s) != impl.ProgMax {
			t.Fatalf("%d bytes", len(s))
		}
		if p, ok := impl.ProgGet(s); !ok || p.Name != "one" {
			t.Errorf("%.60q of ProgMax bytes is read as %v %v", s, p, ok)
		}
		for _, more := range []string{" " + s, s + " ", s + "#", s + strings.Repeat(" ", 5000)} {
			if p, ok := impl.ProgGet(more); ok || !noProg(p) {
				t.Errorf("%.60q of %d bytes is read as %v %v", more, len(more), p, ok)
			}
		}
	}
}

// A program that is fine is written, however long that is; ProgMax is ProgGet's alone.
func TestProgPutOfLong(t *testing.T) {
	for _, steps := range []int{impl.BodyMax - 2, impl.BodyMax} {
		list := times(steps, let("x", name("in")))
		var want strings.Builder
		want.WriteString("program one {\n")
		for i := range list {
			list[i].Name = fmt.Sprint("longname", i)
			list[i].Expr = longExpr(impl.ExprMax)
			want.WriteString("  let " + list[i].Name + " = " + longPut(impl.ExprMax) + ";\n")
		}
		want.WriteString("}\n")
		p := prog(list...)
		s := impl.ProgPut(p)
		if s != want.String() || len(s) <= impl.ProgMax {
			t.Errorf("%d bytes are written: %s", len(s), s)
		}
		if back, ok := impl.ProgGet(s); ok || !noProg(back) {
			t.Errorf("%d bytes are read", len(s))
		}
	}
	s := impl.ProgPut(prog(wide(impl.NestMax)...))
	if strings.Count(s, "done in;\n") != 8*16*16*16 || strings.Count(s, "if in {\n") != 8+8*16+8*16*16 {
		t.Errorf("%d bytes are written", len(s))
	}
}

// longExpr is an expression so deep that is as long as it can be.
func longExpr(depth int) impl.Expr {
	if depth == 1 {
		return lit(text(fullText))
	}
	return of(impl.ExprAnd, longExpr(depth-1), longExpr(depth-1))
}

func longPut(depth int) string {
	if depth == 1 {
		return `"` + fullText + `"`
	}
	return "(" + longPut(depth-1) + " and " + longPut(depth-1) + ")"
}
