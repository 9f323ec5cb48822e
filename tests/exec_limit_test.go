package tests

import (
	"fmt"
	"math"
	"slices"
	"strings"
	"testing"

	"loop.example/backstitch/impl"
)

// How fuel runs out: by steps, by turns of a loop, and what comes first then.
func TestFuelMax(t *testing.T) {
	const fuel = `fail "fuel"; fail "fuel"; `
	checkDone(t, []doneCase{
		// One for the loop, two for each turn: 199 behind 99 turns.
		{"while (in < 99) { set in = (in + 1); }", num(0), nil, `done none; done none; in=99; 199`},
		{"while (in < 99) { set in = (in + 1); } let a = 1;", num(0), nil, `done none; done none; in=99; 200`},
		{"while (in < 99) { set in = (in + 1); } done in;", num(0), nil, `done 99; done 99; in=99; 200`},
		{"while (in < 99) { set in = (in + 1); } fail in;", num(0), nil, `fail 99; fail 99; in=99; 200`},
		{"while (in < 99) { set in = (in + 1); } again in;", num(0), nil, `again 99; again 99; in=99; 200`},
		{"while (in < 99) { set in = (in + 1); } let a = 1; let b = 1;", num(0), nil, fuel + `in=99 a=1; 200`},
		{"while (in < 99) { set in = (in + 1); } let a = 1; done a;", num(0), nil, fuel + `in=99 a=1; 200`},
		{"while (in < 99) { set in = (in + 1); } let a = 1; fail a;", num(0), nil, fuel + `in=99 a=1; 200`},
		{"while (in < 99) { set in = (in + 1); } let a = 1; wait b = up;", num(0), came(signal("up", num(1))), fuel + `in=99 a=1; 200`},
		// The step that a turn is for is one too many.
		{"while (in < 100) { set in = (in + 1); }", num(0), nil, fuel + `in=99; 200`},
		{"while 1 { let b = 1; }", num(0), nil, fuel + `in=0; 200`},
		// The turn is one too many, whose body is not begun then.
		{"let n = 0; while (n < 100) { set n = (n + 1); }", num(0), nil, fuel + `in=0 n=99; 200`},
		{"let n = 0; while (n < 99) { set n = (n + 1); }", num(0), nil, `done none; done none; in=0; 200`},
		{"let n = 0; while 1 { set n = (n + 1); done n; }", num(0), nil, `done 1; done 1; in=0 n=1; 5`},
		{"let n = 0; while 1 { let a = n; set n = (n + 1); }", num(0), nil, fuel + `in=0 n=66; 200`},
		{"let n = 0; let m = 0; while 1 { let a = n; set n = (n + 1); }", num(0), nil, fuel + `in=0 n=65 m=0 a=65; 200`},
		// A test that does not count, or cannot be, takes none.
		{"let n = 0; while ((n + 0) < 99) { set n = (n + 1); }", num(0), nil, `done none; done none; in=0; 200`},
		{`let n = 0; while (n < 99) { set n = (n + 1); if (n == 98) { let a = 1; } }`, num(0), nil, fuel + `in=0 n=66; 200`},
		{`let n = 0; while (n == n) { set n = (n + 1); }`, num(0), nil, fuel + `in=0 n=99; 200`},
		{`let n = 99; while (n + "") { set n = (n - 1); }`, num(0), nil, `fail "value"; fail "value"; in=0 n=99; 2`},
		// A branch takes one of its own, whether it is taken or not.
		{"while (in < 99) { set in = (in + 1); } if 0 { let a = 1; }", num(0), nil, `done none; done none; in=99; 200`},
		{"while (in < 99) { set in = (in + 1); } if 1 { let a = 1; }", num(0), nil, fuel + `in=99; 200`},
		{"while (in < 99) { set in = (in + 1); } if 0 { let a = 1; } else { let b = 1; }", num(0), nil, fuel + `in=99; 200`},
		{"while (in < 99) { set in = (in + 1); } while 0 { let a = 1; }", num(0), nil, `done none; done none; in=99; 200`},
		{"while (in < 99) { set in = (in + 1); } while 1 { let a = 1; }", num(0), nil, fuel + `in=99; 200`},
		// Loops within each other burn the same fuel.
		{"while 1 { while 1 { let a = 1; } }", num(0), nil, fuel + `in=0; 200`},
		{"while 1 { while 0 { let a = 1; } }", num(0), nil, fuel + `in=0; 200`},
		{"while 1 { while 1 { while 1 { set in = (in + 1); } } }", num(0), nil, fuel + `in=97; 200`},
		{"while 1 { go c = f(1); join a = c; }", num(0), came(answer(0, num(1))), `waits place 1; call f 1, call f 1; in=0; 7`},
		// Waiting takes nothing more.
		{"while (in < 99) { set in = (in + 1); } wait b = up;", num(0), nil, `waits signal up; ; in=99; 200`},
		{"while (in < 99) { set in = (in + 1); } wait b = up;", num(0), came(signal("up", num(1))), `done none; done none; in=99; 200`},
		{"while (in < 99) { set in = (in + 1); } sleep 1;", num(0), nil, `waits place 0; timer 1; in=99; 200`},
	})
}

// A program fails by fuel first, as the step is not begun; a test of a loop is ahead of its turn.
func TestFuelAheadOfAllElse(t *testing.T) {
	const ahead = "while (in < 99) { set in = (in + 1); } let a = 1; "
	for _, s := range []string{`done (1 + "");`, `let b = (1 + "");`, `set a = (1 + "");`, "sleep -1;", `sleep "";`, `if (1 + "") { done 1; }`, `while (1 + "") { done 1; }`, `call b = f((1 + ""));`, `go b = f((1 + ""));`, `child b = f((1 + ""));`, "sleep 0;", "call b = f(1);", "go b = f(1);", "child b = f(1);", "wait b = up;"} {
		if got := does(t, ahead+s, num(0)); got != `fail "fuel"; fail "fuel"; in=99 a=1; 200` {
			t.Errorf("%s is %s", s, got)
		}
	}
	// A loop that has burnt all asks its test once more, and fails by the turn that is behind it.
	checkDone(t, []doneCase{
		{"let n = 1; while (n < 100) { set n = (n + 1); }", num(0), nil, `done none; done none; in=0; 200`},
		{"let n = 1; while (n < 101) { set n = (n + 1); }", num(0), nil, `fail "fuel"; fail "fuel"; in=0 n=100; 200`},
		{"let n = 1; while (999999900 + n) { set n = (n + 1); }", num(0), nil, `fail "fuel"; fail "fuel"; in=0 n=100; 200`},
		{"let n = 1; while (999999901 + n) { set n = (n + 1); }", num(0), nil, `fail "value"; fail "value"; in=0 n=100; 200`},
		{"let n = 1; while n { set n = (n * 2); set n = (n + 0); }", num(0), nil, `fail "value"; fail "value"; in=0 n=536870912; 91`},
	})
}

// asks39 asks for as many things as there may be without an end.
const asks39 = "while (in < 39) { go c = f(in); set in = (in + 1); } "

func TestCmdMax(t *testing.T) {
	var list []string
	for i := range impl.CmdMax - 1 {
		list = append(list, fmt.Sprint("call f ", i))
	}
	all := strings.Join(list, ", ")
	for _, c := range []struct{ text, want string }{
		{"", `done none; ` + all + `, done none; in=39; 118`},
		{"done in;", `done 39; ` + all + `, done 39; in=39; 119`},
		{"fail in;", `fail 39; ` + all + `, fail 39; in=39; 119`},
		{"again in;", `again 39; ` + all + `, again 39; in=39; 119`},
		{"wait b = up;", `waits signal up; ` + all + `; in=39; 119`},
		{"let b = 1;", `done none; ` + all + `, done none; in=39; 119`},
		{"go b = f(1);", `fail "many"; ` + all + `, fail "many"; in=39; 119`},
		{"call b = f(1);", `fail "many"; ` + all + `, fail "many"; in=39; 119`},
		{"child b = f(1);", `fail "many"; ` + all + `, fail "many"; in=39; 119`},
		{"sleep 1;", `fail "many"; ` + all + `, fail "many"; in=39; 119`},
		{"let b = 1; go d = f(b); done b;", `fail "many"; ` + all + `, fail "many"; in=39 b=1; 120`},
		// What cannot be worked out is found out ahead of asking.
		{`go b = f((1 + ""));`, `fail "value"; ` + all + `, fail "value"; in=39; 119`},
		{`call b = f((1 + ""));`, `fail "value"; ` + all + `, fail "value"; in=39; 119`},
		{`child b = f((1 + ""));`, `fail "value"; ` + all + `, fail "value"; in=39; 119`},
		{`sleep -1;`, `fail "value"; ` + all + `, fail "value"; in=39; 119`},
		{`sleep "";`, `fail "value"; ` + all + `, fail "value"; in=39; 119`},
	} {
		if got := does(t, asks39+c.text, num(0)); got != c.want {
			t.Errorf("%s is %s", c.text, got)
		}
	}
	o := impl.Exec(getProg(t, "program one { while 1 { go b = f(1); } }"), num(0), nil)
	if len(o.Cmds) != impl.CmdMax || o.Value != text("many") || o.Fuel != 81 || o.Cmds[impl.CmdMax-1] != cmd(impl.CmdFail, "", text("many")) {
		t.Errorf("go without end is %s", shown(o))
	}
}

// The last place that there is can be waited for, and what comes for it is taken.
func TestLastPlace(t *testing.T) {
	const text = "while (in < 38) { go c = f(in); set in = (in + 1); } STEP done 7;"
	const last = impl.CmdMax - 2
	for _, c := range []struct {
		step string
		came impl.Came
	}{{"call a = f(1);", answer(last, num(1))}, {"sleep 1;", fired(last)}, {"child a = f(1);", childEnd(last, num(1))}, {"go d = f(1); join a = d;", answer(last, num(1))}} {
		p := getProg(t, "program one {"+strings.Replace(text, "STEP", c.step, 1)+"}")
		o := impl.Exec(p, num(0), nil)
		if o.Status != impl.OutWaits || o.On != "place 38" || len(o.Cmds) != impl.CmdMax-1 || !impl.ExecWants(o, c.came) {
			t.Errorf("%s is %s", c.step, shown(o))
		}
		o = impl.Exec(p, num(0), came(c.came))
		if o.Status != impl.OutDone || o.Value != num(7) || len(o.Cmds) != impl.CmdMax {
			t.Errorf("%s is %s", c.step, shown(o))
		}
	}
}

func TestCameMax(t *testing.T) {
	p := getProg(t, "program one { wait a = up; done a; }")
	for _, c := range []impl.Came{signal("down", num(1)), answer(0, num(1)), fired(39)} {
		list := append(slices.Repeat(came(c), impl.CameMax-1), signal("up", num(5)))
		if got := shown(impl.Exec(p, num(0), list)); got != `done 5; done 5; in=0 a=5; 2` {
			t.Errorf("%d things: %s", len(list), got)
		}
		if o := impl.Exec(p, num(0), append(list, c)); !refused(o) {
			t.Errorf("one more: %v", o)
		}
		if o := impl.Exec(p, num(0), slices.Repeat(list, 100)); !refused(o) {
			t.Errorf("many more: %v", o)
		}
	}
	// So many signals are had one by one.
	turns := getProg(t, "program one { let n = 0; while (n < in) { wait a = up; set n = (n + a); } done n; }")
	list := slices.Repeat(came(signal("up", num(1))), impl.CameMax)
	if got := shown(impl.Exec(turns, num(60), list)); got != `done 60; done 60; in=60 n=60; 183` {
		t.Error(got)
	}
	if got := shown(impl.Exec(turns, num(61), list)); got != `waits signal up; ; in=61 n=60; 184` {
		t.Error(got)
	}
}

func TestExecOfWrong(t *testing.T) {
	p := getProg(t, "program one { done in; }")
	for _, v := range wrongValues {
		if o := impl.Exec(p, v, nil); !refused(o) {
			t.Errorf("given %v: %v", v, o)
		}
	}
	for _, v := range okValues {
		if o := impl.Exec(p, v.value, nil); o.Status != impl.OutDone || o.Value != v.value || len(o.Cmds) != 1 || len(o.Vars) != 1 {
			t.Errorf("given %v: %v", v, o)
		}
	}
	for _, c := range wrongCame() {
		for _, list := range [][]impl.Came{came(c), came(c, fired(0)), came(fired(0), c), append(slices.Repeat(came(fired(0)), impl.CameMax-1), c)} {
			if o := impl.Exec(p, num(1), list); !refused(o) {
				t.Errorf("by %v: %v", list, o)
			}
		}
	}
	for _, c := range someCame() {
		if o := impl.Exec(p, num(1), came(c)); o.Status != impl.OutDone || o.Value != num(1) {
			t.Errorf("by %v: %v", c, o)
		}
	}
}

func TestExecOfWrongPrograms(t *testing.T) {
	in := name("in")
	list := []impl.Prog{{}, {Name: "one"}, {Steps: steps(done(in))}, {Name: "let", Steps: steps(done(in))}, prog(times(impl.BodyMax+1, done(in))...), prog(deep(impl.NestMax, 0, done(in)))}
	for _, p := range throwProgs(1000) {
		if codeOf(p) != impl.ProgFine {
			list = append(list, p)
		}
	}
	for _, c := range slices.Concat(nameCodes(), withinCodes(), orderCodes()) {
		if c.code != impl.ProgFine {
			list = append(list, prog(c.steps...))
		}
	}
	for _, s := range okSteps() {
		for _, wrong := range spoiled(s) {
			list = append(list, prog(wrong), prog(done(in), wrong))
		}
	}
	ring := steps(loop(in, done(in)))
	ring[0].Body = ring
	list = append(list, prog(ring...))
	for _, p := range list {
		if o := impl.Exec(p, num(1), nil); !refused(o) {
			t.Errorf("program %v: %v", p.Name, o)
		}
	}
	// A program is looked at as a whole, ahead of doing any of it.
	if o := impl.Exec(prog(done(in), let("in", in)), num(1), nil); !refused(o) {
		t.Errorf("what is wrong behind an end: %v", o)
	}
}

// wantCmds is something of each kind that is asked for, each end, and what is
// no kind at all.
func wantCmds() []impl.Cmd {
	return []impl.Cmd{cmd(impl.CmdCall, "f", num(1)), cmd(impl.CmdTimer, "", num(1)), cmd(impl.CmdChild, "f", num(1)), cmd(impl.CmdDone, "", num(1)), cmd(impl.CmdFail, "", num(1)), cmd(impl.CmdAgain, "", num(1)), {}, cmd(-1, "up", num(1)), cmd(7, "up", num(1))}
}

// anyCame is things of all kinds, places, names and values, whether ok or not.
func anyCame() []impl.Came {
	list := slices.Concat(someCame(), wrongCame())
	for _, kind := range []int{-1, 0, impl.CameAnswer, impl.CameFire, impl.CameChild, impl.CameSignal, 5} {
		for _, place := range []int{math.MinInt, -1, 0, 1, 2, 3, 4, 5, 6, 7, 8, 9, 39, 40, 41, math.MaxInt} {
			for _, s := range []string{"", "up", "upp", "let", "1", "0", " up"} {
				for _, v := range []impl.Value{{}, num(1), {Kind: -1}} {
					list = append(list, impl.Came{Kind: kind, Place: place, Name: s, Ok: true, Value: v}, impl.Came{Kind: kind, Place: place, Name: s, Value: v})
				}
			}
		}
	}
	return list
}

// checkWants looks whether just those of anyCame that are so are wanted, and
// none of them behind an end.
func checkWants(t *testing.T, on string, cmds []impl.Cmd, so func(c impl.Came) bool) {
	t.Helper()
	for _, c := range anyCame() {
		if got := impl.ExecWants(impl.Out{Status: impl.OutWaits, On: on, Cmds: cmds}, c); got != so(c) {
			t.Errorf("%q: of %v it is %v", on, c, got)
		}
		for _, status := range []int{0, -1, impl.OutDone, impl.OutFail, impl.OutAgain, 5, 100} {
			if impl.ExecWants(impl.Out{Status: status, On: on, Cmds: cmds}, c) {
				t.Errorf("%q: %v is wanted behind an end (%d)", on, c, status)
			}
		}
	}
}

func TestExecWants(t *testing.T) {
	at := func(kind, place int) func(c impl.Came) bool {
		return func(c impl.Came) bool { return c.Kind == kind && c.Place == place }
	}
	checkWants(t, "place 0", wantCmds(), at(impl.CameAnswer, 0))
	checkWants(t, "place 1", wantCmds(), at(impl.CameFire, 1))
	checkWants(t, "place 2", wantCmds(), at(impl.CameChild, 2))
	many := slices.Repeat(wantCmds()[1:2], impl.CmdMax+1)
	checkWants(t, "place 39", many, at(impl.CameFire, 39))
	checkWants(t, "place 40", many, at(impl.CameFire, 40))
	for _, s := range []string{"up", "upp", "abcdefghij", "let", "1", "", " up"} {
		checkWants(t, "signal "+s, wantCmds(), func(c impl.Came) bool { return c.Kind == impl.CameSignal && c.Name == s })
		checkWants(t, "signal "+s, nil, func(c impl.Came) bool { return c.Kind == impl.CameSignal && c.Name == s })
	}
}

func TestNothingIsWantedElse(t *testing.T) {
	never := func(impl.Came) bool { return false }
	for _, on := range []string{"", "place", "place ", "place 3", "place 4", "place 5", "place 6", "place 7", "place 8", "place 9", "place 39", "place 40", "place -1", "place 00", "place 01", " place 0", "place 0 ", "place  0", "place 0x", "place a", "Place 0", "0", "place 9223372036854775807", "place -9223372036854775808", "place 99999999999999999999", "places 0", "signal", "signal down", " signal up", "signal up ", "signals up", "up", "Signal up", "place up", "place 0\n", "timer 1", "place 0 signal up"} {
		checkWants(t, on, wantCmds(), never)
	}
	checkWants(t, "place 0", nil, never)
	checkWants(t, "place 41", slices.Repeat(wantCmds()[:1], impl.CmdMax+1), never)
	if impl.ExecWants(impl.Out{}, impl.Came{}) || impl.ExecWants(impl.Out{Status: impl.OutWaits}, impl.Came{}) {
		t.Error("nothing is wanted")
	}
}

// What a program waits for is told by its place and kind, or by its name: all
// else of it may be anything.
func TestWantsIsByOnAlone(t *testing.T) {
	waits := 0
	eachGiven(func(g given, o impl.Out) {
		if o.Status != impl.OutWaits {
			return
		}
		waits++
		c := wanted(o, num(2))
		for _, v := range []impl.Value{{}, num(1), {Kind: -1}, text("\"")} {
			for _, ok := range []bool{true, false} {
				like, other, placed := c, c, c
				like.Ok, like.Value = ok, v
				other.Ok, other.Value, other.Kind = ok, v, c.Kind%4+1
				placed.Ok, placed.Value = ok, v
				if c.Kind == impl.CameSignal {
					like.Place = 1
					placed.Name += "x"
				} else {
					like.Name = "up"
					placed.Place++
				}
				if !impl.ExecWants(o, like) || impl.ExecWants(o, other) || impl.ExecWants(o, placed) {
					t.Errorf("%s is %s: of %v it is not so, or of %v, %v", g.tell(), shown(o), like, other, placed)
				}
			}
		}
	})
	if waits < 500 {
		t.Errorf("only %d wait", waits)
	}
}
