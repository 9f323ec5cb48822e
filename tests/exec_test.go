package tests

import (
	"fmt"
	"math"
	"slices"
	"strings"
	"testing"

	"loop.example/backstitch/impl"
)

func cmd(kind int, s string, arg impl.Value) impl.Cmd {
	return impl.Cmd{Kind: kind, Name: s, Arg: arg}
}

func answer(place int, v impl.Value) impl.Came {
	return impl.Came{Kind: impl.CameAnswer, Place: place, Ok: true, Value: v}
}

func noAnswer(place int) impl.Came {
	return impl.Came{Kind: impl.CameAnswer, Place: place}
}

func fired(place int) impl.Came {
	return impl.Came{Kind: impl.CameFire, Place: place, Ok: true}
}

func childEnd(place int, v impl.Value) impl.Came {
	return impl.Came{Kind: impl.CameChild, Place: place, Ok: true, Value: v}
}

func signal(s string, v impl.Value) impl.Came {
	return impl.Came{Kind: impl.CameSignal, Name: s, Ok: true, Value: v}
}

func came(list ...impl.Came) []impl.Came {
	return list
}

func sameOut(a, b impl.Out) bool {
	return slices.Equal(a.Cmds, b.Cmds) && slices.Equal(a.Vars, b.Vars) &&
		a.Status == b.Status && a.Value == b.Value && a.On == b.On && a.Fuel == b.Fuel
}

// refused is the one answer at what Exec is not for.
func refused(o impl.Out) bool {
	return sameOut(o, impl.Out{Status: impl.OutFail})
}

var cmdWords = []string{"nothing", "call", "timer", "child", "done", "fail", "again"}

// shown is all of an Out as a text: how it stands, what was asked for, names, fuel.
func shown(o impl.Out) string {
	stands := fmt.Sprint("status ", o.Status)
	switch o.Status {
	case impl.OutWaits:
		stands = "waits " + o.On
	case impl.OutDone, impl.OutFail, impl.OutAgain:
		stands = []string{"done ", "fail ", "again "}[o.Status-impl.OutDone] + impl.ValuePut(o.Value)
	}
	var asks, vars []string
	for _, c := range o.Cmds {
		asks = append(asks, strings.Join(strings.Fields(cmdWords[c.Kind]+" "+c.Name+" "+impl.ValuePut(c.Arg)), " "))
	}
	for _, v := range o.Vars {
		vars = append(vars, v.Name+"="+impl.ValuePut(v.Value))
	}
	return strings.Join([]string{stands, strings.Join(asks, ", "), strings.Join(vars, " "), fmt.Sprint(o.Fuel)}, "; ")
}

// does is Exec of steps that a text tells, as a text.
func does(t *testing.T, text string, in impl.Value, list ...impl.Came) string {
	t.Helper()
	return shown(impl.Exec(getProg(t, "program one {"+text+"}"), in, list))
}

type doneCase struct {
	text string
	in   impl.Value
	came []impl.Came
	want string
}

func checkDone(t *testing.T, list []doneCase) {
	t.Helper()
	for _, c := range list {
		if got := does(t, c.text, c.in, c.came...); got != c.want {
			t.Errorf("%s of %s by %v\n is %s\nnot %s", c.text, impl.ValuePut(c.in), c.came, got, c.want)
		}
	}
}

func TestExecOfEachEnd(t *testing.T) {
	checkDone(t, []doneCase{
		{"done in;", num(4), nil, `done 4; done 4; in=4; 1`},
		{"fail in;", num(4), nil, `fail 4; fail 4; in=4; 1`},
		{"again in;", num(4), nil, `again 4; again 4; in=4; 1`},
		{"done none;", num(4), nil, `done none; done none; in=4; 1`},
		{`fail "";`, text("a b"), nil, `fail ""; fail ""; in="a b"; 1`},
		{"done 1; done 2;", num(4), nil, `done 1; done 1; in=4; 1`},
		{"fail 1; done 2; again 3;", num(4), nil, `fail 1; fail 1; in=4; 1`},
		{"again 1; sleep 2;", num(4), nil, `again 1; again 1; in=4; 1`},
		{"let a = 1;", num(4), nil, `done none; done none; in=4; 1`},
		{"let a = 1; done a;", num(4), nil, `done 1; done 1; in=4 a=1; 2`},
		{"let a = 1; set in = 5;", num(4), nil, `done none; done none; in=5; 2`},
		{"go a = f(1);", num(4), nil, `done none; call f 1, done none; in=4; 1`},
		{"done (in + 1);", text("a"), nil, `fail "value"; fail "value"; in="a"; 1`},
		{"fail (in + 1);", text("a"), nil, `fail "value"; fail "value"; in="a"; 1`},
		{"again (in + 1);", text("a"), nil, `fail "value"; fail "value"; in="a"; 1`},
		{`done "fuel";`, impl.Value{}, nil, `done "fuel"; done "fuel"; in=none; 1`},
	})
}

func TestExecOfNames(t *testing.T) {
	checkDone(t, []doneCase{
		{"let b = 1; let a = 2; done (a - b);", num(0), nil, `done 1; done 1; in=0 b=1 a=2; 3`},
		{"let b = 1; let a = 2; set b = 3; done b;", num(0), nil, `done 3; done 3; in=0 b=3 a=2; 4`},
		{"set in = (in + 1); set in = (in * in); done in;", num(2), nil, `done 9; done 9; in=9; 3`},
		{"let a = in; set in = 1; done a;", text("x"), nil, `done "x"; done "x"; in=1 a="x"; 3`},
		{"let a = (in + 1);", text("x"), nil, `fail "value"; fail "value"; in="x"; 1`},
		{"let a = 1; set a = (in + 1);", text("x"), nil, `fail "value"; fail "value"; in="x" a=1; 2`},
		{"if in { let a = 1; set in = a; } let a = 2; done in;", num(7), nil, `done 1; done 1; in=1 a=2; 5`},
		{"if in { let a = 1; done a; }", num(7), nil, `done 1; done 1; in=7 a=1; 3`},
		{"let c = 3; if in { let a = 1; if a { let b = 2; wait w = up; } }", num(7), nil, `waits signal up; ; in=7 c=3 a=1 b=2; 6`},
		{"let c = 3; if in { let a = 1; if a { let b = 2; } wait w = up; }", num(7), nil, `waits signal up; ; in=7 c=3 a=1; 6`},
		{"let c = 3; if in { let a = 1; if a { let b = 2; } } wait w = up;", num(7), nil, `waits signal up; ; in=7 c=3; 6`},
		{"if in { let a = 1; } else { let a = 2; wait w = up; }", num(0), nil, `waits signal up; ; in=0 a=2; 3`},
		{"while (in < 2) { let a = in; set in = (in + 1); } wait w = up;", num(0), nil, `waits signal up; ; in=2; 8`},
		{"go a = f(1); let b = 2; go c = f(3); wait d = up; done b;", num(0), came(signal("up", num(5))), `done 2; call f 1, call f 3, done 2; in=0 b=2 d=5; 5`},
		{"if 1 { let a = 1; } go a = f(1); wait b = up;", num(0), nil, `waits signal up; call f 1; in=0; 4`},
		{"if 1 { let a = 1; let b = 2; } let b = 3; let a = 4; wait c = up;", num(0), nil, `waits signal up; ; in=0 b=3 a=4; 6`},
		{"if 1 { go a = f(1); } let a = 2; wait b = up;", num(0), nil, `waits signal up; call f 1; in=0 a=2; 4`},
	})
}

func TestExecOfBranchesAndLoops(t *testing.T) {
	checkDone(t, []doneCase{
		{"if in { done 1; } done 2;", num(-1), nil, `done 1; done 1; in=-1; 2`},
		{"if in { done 1; } done 2;", num(0), nil, `done 2; done 2; in=0; 2`},
		{"if in { done 1; } done 2;", text(""), nil, `done 2; done 2; in=""; 2`},
		{"if in { done 1; } done 2;", text("0"), nil, `done 1; done 1; in="0"; 2`},
		{"if in { done 1; } done 2;", impl.Value{}, nil, `done 2; done 2; in=none; 2`},
		{"if in { let a = 1; } else { done 3; } done 2;", num(5), nil, `done 2; done 2; in=5; 3`},
		{"if in { done 1; } else { let a = 1; } done 2;", num(0), nil, `done 2; done 2; in=0; 3`},
		{"if in { done 1; } else { done 3; } done 2;", num(0), nil, `done 3; done 3; in=0; 2`},
		{"if (in < 1) { done 1; } else { done 3; }", text("a"), nil, `fail "value"; fail "value"; in="a"; 1`},
		{"while in { done 1; } done 2;", num(0), nil, `done 2; done 2; in=0; 2`},
		{"while in { done 1; } done 2;", impl.Value{}, nil, `done 2; done 2; in=none; 2`},
		{"while in { done 1; } done 2;", text("x"), nil, `done 1; done 1; in="x"; 3`},
		{"while in { set in = (in - 1); } done in;", num(3), nil, `done 0; done 0; in=0; 8`},
		{"while in { set in = none; } done in;", num(3), nil, `done none; done none; in=none; 4`},
		{"while (in < 1) { set in = \"a\"; } done in;", num(0), nil, `fail "value"; fail "value"; in="a"; 3`},
		{"while (in < 2) { let a = 0; while (a < 2) { set a = (a + 1); } set in = (in + 1); } done in;", num(0), nil, `done 2; done 2; in=2; 18`},
		{"while (in < 2) { let a = 0; while (a < 2) { set a = (a + 1); done a; } }", num(0), nil, `done 1; done 1; in=0 a=1; 7`},
		{"while 1 { if in { done in; } set in = 9; }", num(0), nil, `done 9; done 9; in=9; 7`},
		{"let n = 0; while (n < in) { go a = f(n); set n = (n + 1); }", num(2), nil, `done none; call f 0, call f 1, done none; in=2; 8`},
	})
}

func TestExecOfCalls(t *testing.T) {
	five, x := num(5), text("x")
	checkDone(t, []doneCase{
		{"call a = f(in); done a;", num(1), nil, `waits place 0; call f 1; in=1; 1`},
		{"call a = f(in); done a;", num(1), came(answer(0, five)), `done 5; call f 1, done 5; in=1 a=5; 2`},
		{"call a = f(in); done a;", num(1), came(answer(0, impl.Value{})), `done none; call f 1, done none; in=1 a=none; 2`},
		{"call a = f(in); done a;", num(1), came(noAnswer(0)), `done none; call f 1, done none; in=1 a=none; 2`},
		{"call a = f(in); done a;", num(1), came(answer(0, x), answer(0, five)), `done "x"; call f 1, done "x"; in=1 a="x"; 2`},
		{"call a = f(in); done a;", num(1), came(noAnswer(0), answer(0, five)), `done none; call f 1, done none; in=1 a=none; 2`},
		{"call a = f(in); done a;", num(1), came(answer(1, x), answer(39, five)), `waits place 0; call f 1; in=1; 1`},
		{"call a = f(in); done a;", num(1), came(fired(0), childEnd(0, x), signal("f", x), signal("a", x)), `waits place 0; call f 1; in=1; 1`},
		{"call a = f(in); done a;", num(1), came(fired(0), childEnd(0, x), signal("f", x), answer(0, five)), `done 5; call f 1, done 5; in=1 a=5; 2`},
		{"call a = f(1); call b = g(a); done b;", num(1), came(answer(0, five)), `waits place 1; call f 1, call g 5; in=1 a=5; 2`},
		{"call a = f(1); call b = g(a); done b;", num(1), came(answer(1, x)), `waits place 0; call f 1; in=1; 1`},
		{"call a = f(1); call b = g(a); done b;", num(1), came(answer(1, x), answer(0, five)), `done "x"; call f 1, call g 5, done "x"; in=1 a=5 b="x"; 3`},
		{"call a = f((in + 1));", x, came(answer(0, five)), `fail "value"; fail "value"; in="x"; 1`},
		{"call in1 = in(in);", x, nil, `waits place 0; call in "x"; in="x"; 1`},
		{"while (in < 3) { call a = f(in); set in = (in + a); } done in;", num(0), came(answer(0, num(1)), answer(1, num(1))), `waits place 2; call f 0, call f 1, call f 2; in=2; 9`},
		{"while (in < 3) { call a = f(in); set in = (in + a); } done in;", num(0), came(answer(0, num(1)), answer(1, num(2))), `done 3; call f 0, call f 1, done 3; in=3; 8`},
		{"if in { call a = f(1); set in = a; } call a = f(2); done a;", num(1), came(answer(0, five)), `waits place 1; call f 1, call f 2; in=5; 4`},
	})
}

func TestExecOfChildren(t *testing.T) {
	five, x := num(5), text("x")
	checkDone(t, []doneCase{
		{"child a = one(in); done a;", num(1), nil, `waits place 0; child one 1; in=1; 1`},
		{"child a = two(in); done a;", num(1), came(childEnd(0, five)), `done 5; child two 1, done 5; in=1 a=5; 2`},
		{"child a = two(in); done a;", num(1), came(impl.Came{Kind: impl.CameChild}), `done none; child two 1, done none; in=1 a=none; 2`},
		{"child a = two(in); done a;", num(1), came(childEnd(0, x), childEnd(0, five)), `done "x"; child two 1, done "x"; in=1 a="x"; 2`},
		{"child a = two(in); done a;", num(1), came(answer(0, x), noAnswer(0), fired(0), childEnd(1, x), signal("two", x)), `waits place 0; child two 1; in=1; 1`},
		{"child a = two((in + 1));", x, came(childEnd(0, five)), `fail "value"; fail "value"; in="x"; 1`},
		{"call a = f(1); child b = f(2); done b;", num(1), came(childEnd(1, x), answer(0, five)), `done "x"; call f 1, child f 2, done "x"; in=1 a=5 b="x"; 3`},
	})
}

// A call under way may be joined at once, later, twice, or never.
func TestExecOfJoins(t *testing.T) {
	five, x := num(5), text("x")
	const twice = "go c = f(in); join a = c; join b = c; done (a + b);"
	const turns = "while (in < 2) { go c = f(in); join a = c; set in = (in + a); } done in;"
	checkDone(t, []doneCase{
		{"go c = f(in); done 1;", num(1), nil, `done 1; call f 1, done 1; in=1; 2`},
		{"go c = f(in); join a = c; done a;", num(1), nil, `waits place 0; call f 1; in=1; 2`},
		{"go c = f(in); join a = c; done a;", num(1), came(answer(0, x)), `done "x"; call f 1, done "x"; in=1 a="x"; 3`},
		{"go c = f(in); join a = c; done a;", num(1), came(noAnswer(0)), `done none; call f 1, done none; in=1 a=none; 3`},
		{"go c = f(in); join a = c; done a;", num(1), came(fired(0), childEnd(0, x), signal("c", x), signal("f", x), answer(1, x)), `waits place 0; call f 1; in=1; 2`},
		{"go c = f((in + 1)); join a = c;", x, came(answer(0, x)), `fail "value"; fail "value"; in="x"; 1`},
		{"go c = f(1); go d = g(2); join a = d; join b = c; done (a + b);", num(1), nil, `waits place 1; call f 1, call g 2; in=1; 3`},
		{"go c = f(1); go d = g(2); join a = d; join b = c; done (a + b);", num(1), came(answer(0, x)), `waits place 1; call f 1, call g 2; in=1; 3`},
		{"go c = f(1); go d = g(2); join a = d; join b = c; done (a + b);", num(1), came(answer(1, text("y"))), `waits place 0; call f 1, call g 2; in=1 a="y"; 4`},
		{"go c = f(1); go d = g(2); join a = d; join b = c; done (a + b);", num(1), came(answer(0, x), answer(1, text("y"))), `done "yx"; call f 1, call g 2, done "yx"; in=1 a="y" b="x"; 5`},
		{twice, num(1), nil, `waits place 0; call f 1; in=1; 2`},
		{twice, num(1), came(answer(0, five)), `done 10; call f 1, done 10; in=1 a=5 b=5; 4`},
		{twice, num(1), came(answer(0, five), answer(0, num(7))), `done 10; call f 1, done 10; in=1 a=5 b=5; 4`},
		{"go c = f(in); while (in < 4) { join a = c; set in = (in + a); } done in;", num(1), came(answer(0, num(1))), `done 4; call f 1, done 4; in=4; 12`},
		{"go c = f(in); if in { join a = c; } join a = c; done a;", num(1), came(answer(0, x)), `done "x"; call f 1, done "x"; in=1 a="x"; 5`},
		{turns, num(0), nil, `waits place 0; call f 0; in=0; 4`},
		{turns, num(0), came(answer(0, num(1))), `waits place 1; call f 0, call f 1; in=1; 8`},
		{turns, num(0), came(answer(0, num(1)), answer(1, num(4))), `done 5; call f 0, call f 1, done 5; in=5; 10`},
		{"if 1 { go c = f(1); } go c = g(2); join a = c; done a;", num(0), came(answer(0, x)), `waits place 1; call f 1, call g 2; in=0; 4`},
		{"if 1 { go c = f(1); } go c = g(2); join a = c; done a;", num(0), came(answer(1, x)), `done "x"; call f 1, call g 2, done "x"; in=0 a="x"; 5`},
		{"go c = f(1); while (in < 2) { go d = g(in); join a = d; set in = (in + a); } join b = c; done b;", num(0), came(answer(1, num(1)), answer(2, num(1)), answer(0, x)), `done "x"; call f 1, call g 0, call g 1, done "x"; in=2 b="x"; 12`},
	})
}

// A timer of no time is asked for, and waited for, as any other.
func TestExecOfTimers(t *testing.T) {
	x := text("x")
	checkDone(t, []doneCase{
		{"sleep 0; done 1;", num(1), nil, `waits place 0; timer 0; in=1; 1`},
		{"sleep 0; done 1;", num(1), came(fired(0)), `done 1; timer 0, done 1; in=1; 2`},
		{"sleep in; done 1;", num(impl.NumMax), came(fired(0)), `done 1; timer 1000000000, done 1; in=1000000000; 2`},
		{"sleep 2;", num(1), came(fired(0)), `done none; timer 2, done none; in=1; 1`},
		{"sleep 2; sleep 3;", num(1), came(fired(0)), `waits place 1; timer 2, timer 3; in=1; 2`},
		{"sleep 2; sleep 3;", num(1), came(fired(1)), `waits place 0; timer 2; in=1; 1`},
		{"sleep 2; sleep 3;", num(1), came(fired(1), fired(0)), `done none; timer 2, timer 3, done none; in=1; 2`},
		{"sleep 2; sleep 3;", num(1), came(fired(0), fired(0)), `waits place 1; timer 2, timer 3; in=1; 2`},
		{"sleep 2;", num(1), came(answer(0, x), noAnswer(0), childEnd(0, x), signal("sleep1", x)), `waits place 0; timer 2; in=1; 1`},
		{"sleep -1;", num(1), came(fired(0)), `fail "value"; fail "value"; in=1; 1`},
		{"sleep in;", num(-impl.NumMax), came(fired(0)), `fail "value"; fail "value"; in=-1000000000; 1`},
		{"sleep in;", impl.Value{}, came(fired(0)), `fail "value"; fail "value"; in=none; 1`},
		{"sleep in;", text(""), came(fired(0)), `fail "value"; fail "value"; in=""; 1`},
		{"sleep in;", text("5"), came(fired(0)), `fail "value"; fail "value"; in="5"; 1`},
		{"sleep (in + 1);", text("5"), came(fired(0)), `fail "value"; fail "value"; in="5"; 1`},
		{"sleep 1; sleep (0 - 1);", num(1), came(fired(0)), `fail "value"; timer 1, fail "value"; in=1; 2`},
		{"while (in < 2) { sleep in; set in = (in + 1); }", num(0), came(fired(0)), `waits place 1; timer 0, timer 1; in=1; 6`},
	})
}

// Signals of two names do not stand in each other's way, and each is had once.
func TestExecOfSignals(t *testing.T) {
	one, two, three := num(1), num(2), num(3)
	const both = "wait a = up; wait b = down; wait c = up; done ((a + b) + c);"
	checkDone(t, []doneCase{
		{"wait a = up; done a;", num(0), nil, `waits signal up; ; in=0; 1`},
		{"wait a = up; done a;", num(0), came(signal("up", one)), `done 1; done 1; in=0 a=1; 2`},
		{"wait a = up; done a;", num(0), came(signal("up", impl.Value{})), `done none; done none; in=0 a=none; 2`},
		{"wait a = up; done a;", num(0), came(signal("down", one), signal("Up", one), signal("u", one), signal("upp", one), signal("a", one)), `waits signal up; ; in=0; 1`},
		{"wait a = up; done a;", num(0), came(signal("down", one), signal("up", two), signal("up", three)), `done 2; done 2; in=0 a=2; 2`},
		{"wait a = up; done a;", num(0), came(answer(0, one), fired(0), childEnd(0, one), noAnswer(0)), `waits signal up; ; in=0; 1`},
		{"wait a = up; wait b = up; done (a - b);", num(0), came(signal("up", one)), `waits signal up; ; in=0 a=1; 2`},
		{"wait a = up; wait b = up; done (a - b);", num(0), came(signal("up", one), signal("up", three)), `done -2; done -2; in=0 a=1 b=3; 3`},
		{"wait a = up; wait b = up; done (a - b);", num(0), came(signal("up", one), signal("up", one)), `done 0; done 0; in=0 a=1 b=1; 3`},
		{both, num(0), came(signal("up", one), signal("up", two)), `waits signal down; ; in=0 a=1; 2`},
		{both, num(0), came(signal("down", three), signal("up", one)), `waits signal up; ; in=0 a=1 b=3; 3`},
		{both, num(0), came(signal("up", one), signal("up", two), signal("down", three)), `done 6; done 6; in=0 a=1 b=3 c=2; 4`},
		{both, num(0), came(signal("down", three), signal("down", one), signal("up", one)), `waits signal up; ; in=0 a=1 b=3; 3`},
		{"while in { wait a = up; set in = a; } wait b = up; done b;", num(9), came(signal("up", one), signal("up", num(0)), signal("up", three)), `done 3; done 3; in=0 b=3; 9`},
		{"while 1 { wait a = up; }", num(9), came(signal("up", one), signal("up", one), signal("up", one)), `waits signal up; ; in=9; 9`},
		{"go c = up(1); wait a = up; join b = c; done (a - b);", num(0), came(signal("up", one)), `waits place 0; call up 1; in=0 a=1; 3`},
		{"go c = up(1); wait a = up; join b = c; done (a - b);", num(0), came(answer(0, two), signal("up", one)), `done -1; call up 1, done -1; in=0 a=1 b=2; 4`},
	})
}

func TestCmdOk(t *testing.T) {
	ok := []impl.Cmd{cmd(impl.CmdTimer, "", num(0)), cmd(impl.CmdTimer, "", num(1)), cmd(impl.CmdTimer, "", num(impl.NumMax))}
	wrong := []impl.Cmd{{}, cmd(impl.CmdTimer, "", num(-1)), cmd(impl.CmdTimer, "", num(-impl.NumMax)), cmd(impl.CmdTimer, "", num(impl.NumMax+1)),
		cmd(impl.CmdTimer, "", impl.Value{}), cmd(impl.CmdTimer, "", text("")), cmd(impl.CmdTimer, "", text("1")), cmd(impl.CmdTimer, "", impl.Value{Kind: impl.IsNum, Num: 1, Text: "a"}),
		cmd(impl.CmdTimer, "", impl.Value{Num: 1}), cmd(impl.CmdTimer, "f", num(1)), cmd(impl.CmdTimer, "1", num(1))}
	for _, kind := range []int{impl.CmdCall, impl.CmdChild, impl.CmdDone, impl.CmdFail, impl.CmdAgain} {
		called := ""
		if kind == impl.CmdCall || kind == impl.CmdChild {
			called = "f"
		}
		for _, v := range okValues {
			ok = append(ok, cmd(kind, called, v.value))
		}
		for _, v := range wrongValues {
			wrong = append(wrong, cmd(kind, called, v), cmd(impl.CmdTimer, "", v))
		}
	}
	for _, kind := range []int{0, -1, 7, 8, 100, math.MaxInt, math.MinInt} {
		wrong = append(wrong, cmd(kind, "", num(1)), cmd(kind, "f", num(1)), cmd(kind, "", impl.Value{}), cmd(kind, "f", impl.Value{}))
	}
	for _, c := range ok {
		if !impl.CmdOk(c) {
			t.Errorf("%v is not ok", c)
		}
	}
	for _, c := range wrong {
		if impl.CmdOk(c) {
			t.Errorf("%v is ok", c)
		}
	}
}

// someCame is something that came of each kind, at each place that it may have.
func someCame() []impl.Came {
	list := came(signal("f", num(1)), signal("f", impl.Value{}), signal("abcdefghij", text("a")))
	for place := range impl.CmdMax {
		list = append(list, fired(place), noAnswer(place), answer(place, impl.Value{}), answer(place, num(0)), answer(place, text("b")),
			childEnd(place, num(-2)), childEnd(place, impl.Value{}), impl.Came{Kind: impl.CameChild, Place: place})
	}
	for _, v := range okValues {
		list = append(list, answer(3, v.value), childEnd(3, v.value), signal("f", v.value))
	}
	return list
}

// wrongCame is what is not ok of each kind, for one part alone.
func wrongCame() []impl.Came {
	list := came(impl.Came{}, impl.Came{Kind: impl.CameFire}, impl.Came{Kind: impl.CameFire, Ok: true, Value: num(0)}, impl.Came{Kind: impl.CameFire, Ok: true, Value: text("")}, impl.Came{Kind: impl.CameFire, Ok: true, Value: impl.Value{Num: 1}},
		impl.Came{Kind: impl.CameSignal, Name: "f"}, impl.Came{Kind: impl.CameSignal, Name: "f", Value: num(1)}, impl.Came{Kind: impl.CameSignal, Ok: true}, impl.Came{Kind: impl.CameSignal, Name: "f", Ok: true, Place: 1}, impl.Came{Kind: impl.CameSignal, Name: "f", Ok: true, Place: -1})
	for _, kind := range []int{impl.CameAnswer, impl.CameChild} {
		for _, v := range okValues[1:] {
			list = append(list, impl.Came{Kind: kind, Value: v.value})
		}
	}
	for _, kind := range []int{impl.CameAnswer, impl.CameFire, impl.CameChild} {
		for _, place := range []int{-1, impl.CmdMax, impl.CmdMax + 1, 1000, math.MaxInt, math.MinInt} {
			list = append(list, impl.Came{Kind: kind, Place: place, Ok: true}, impl.Came{Kind: kind, Place: place})
		}
		list = append(list, impl.Came{Kind: kind, Name: "f", Ok: true}, impl.Came{Kind: kind, Name: "1", Ok: true})
	}
	for _, v := range wrongValues {
		list = append(list, answer(0, v), childEnd(0, v), signal("f", v), impl.Came{Kind: impl.CameFire, Ok: true, Value: v}, impl.Came{Kind: impl.CameAnswer, Value: v}, impl.Came{Kind: impl.CameChild, Value: v})
	}
	for _, kind := range []int{0, -1, 5, 6, 100, math.MaxInt, math.MinInt} {
		list = append(list, impl.Came{Kind: kind, Ok: true}, impl.Came{Kind: kind}, impl.Came{Kind: kind, Name: "f", Ok: true, Value: num(1)})
	}
	return list
}

func TestCameOk(t *testing.T) {
	for _, c := range someCame() {
		if !impl.CameOk(c) {
			t.Errorf("%v is not ok", c)
		}
	}
	for _, c := range wrongCame() {
		if impl.CameOk(c) {
			t.Errorf("%v is ok", c)
		}
	}
}

// Promise 14: what is asked for, and what comes, has what its kind needs.
func TestPromise14(t *testing.T) {
	for _, s := range okNames {
		for kind := impl.CmdCall; kind <= impl.CmdAgain; kind++ {
			called := kind == impl.CmdCall || kind == impl.CmdChild
			if c := cmd(kind, s, num(1)); impl.CmdOk(c) != called || !impl.CmdOk(cmd(kind, "", num(1))) != called {
				t.Errorf("%v is ok %v", c, !called)
			}
		}
		for kind := impl.CameAnswer; kind <= impl.CameSignal; kind++ {
			signals := kind == impl.CameSignal
			c := impl.Came{Kind: kind, Name: s, Ok: true}
			if impl.CameOk(c) != signals || !impl.CameOk(impl.Came{Kind: kind, Ok: true}) != signals {
				t.Errorf("%v is ok %v", c, !signals)
			}
		}
	}
	for _, s := range slices.Concat(wrongNames, keptWords) {
		if s == "" {
			continue
		}
		for kind := impl.CmdCall; kind <= impl.CmdAgain; kind++ {
			if c := cmd(kind, s, num(1)); impl.CmdOk(c) {
				t.Errorf("%v is ok", c)
			}
		}
		for kind := impl.CameAnswer; kind <= impl.CameSignal; kind++ {
			if c := (impl.Came{Kind: kind, Name: s, Ok: true}); impl.CameOk(c) {
				t.Errorf("%v is ok", c)
			}
		}
	}
}
