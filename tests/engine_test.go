package tests

import (
	"fmt"
	"math"
	"slices"
	"strings"
	"testing"

	"loop.example/backstitch/impl"
)

const (
	upDown  = "up: child a = down(in); done (a + 1);"
	sleeper = "down: sleep 3; call b = ask(in); done b;"
)

// example is the three programs of the document's example.
var example = []string{
	`order: call paid = pay(in); if (paid == none) { fail "unpaid"; } go box = pack(in); sleep 5; join got = box; wait word = sent; done (word + "!");`,
	"count: let n = in; while (n < 3) { wait more = up; set n = (n + more); } if (n < 9) { again (n + 5); } done n;",
	"pair: child a = order(in); child b = count(7); done b;",
}

// scenes is programs, acts that are all done, and how the engine stands then.
var scenes = []struct {
	progs []string
	acts  string
	want  string
}{
	// A child begins, and ends.
	{[]string{upDown, sleeper}, "start up 4", "0; 0 up waits place 0; 1 down for 0.0 waits place 0; 1.0@3"},
	{[]string{upDown, sleeper}, "start up 4/tick 2", "2; 0 up waits place 0; 1 down for 0.0 waits place 0; 1.0@3"},
	{[]string{upDown, sleeper}, "start up 4/tick 3", "3; 0 up waits place 0; 1 down for 0.0 waits place 1"},
	{[]string{upDown, sleeper}, "start up 4/tick 3/answer 1 1 9", "3; 0 up done 10; 1 down for 0.0 done 9"},
	{[]string{upDown, sleeper}, "start up 4/tick 3/refuse 1 1", `3; 0 up fail "value"; 1 down for 0.0 done none`},
	{[]string{upDown, "down: done in;"}, "start up 4", "0; 0 up done 5; 1 down for 0.0 done 4"},
	// A child that fails tells nothing of what with.
	{[]string{"up: child a = down(in); done a;", "down: fail 7;"}, "start up 4", "0; 0 up done none; 1 down for 0.0 fail 7"},
	{[]string{"up: child a = down(in); done a;", `down: fail "x";`}, "start up 4", `0; 0 up done none; 1 down for 0.0 fail "x"`},
	{[]string{"up: child a = down(in); done a;", "down: sleep none;"}, "start up 4", `0; 0 up done none; 1 down for 0.0 fail "value"`},
	// One that is done with nothing is done still.
	{[]string{"up: child a = down(in); done a;", "down: let b = in;"}, "start up 4", "0; 0 up done none; 1 down for 0.0 done none"},
	// A child of which there is no program.
	{[]string{"up: child a = gone(in); done a;"}, "start up 4", "0; 0 up done none"},
	{[]string{"up: child a = gone(in); child b = gone(in); wait c = go1;"}, "start up 4", "0; 0 up waits signal go1"},
	{[]string{"up: child a = gone(in); child b = down(1); done b;", "down: done in;"}, "start up 4", "0; 0 up done 1; 1 down for 0.1 done 1"},
	// Children of children, and of itself.
	{[]string{"up: child a = down(in); done (a + 1);", "down: child a = f(in); done (a + 1);", "f: wait a = go1; done a;"}, "start up 4", "0; 0 up waits place 0; 1 down for 0.0 waits place 0; 2 f for 1.0 waits signal go1"},
	{[]string{"up: child a = down(in); done (a + 1);", "down: child a = f(in); done (a + 1);", "f: wait a = go1; done a;"}, "start up 4/signal 2 go1 7", "0; 0 up done 9; 1 down for 0.0 done 8; 2 f for 1.0 done 7"},
	{[]string{"up: if in { child a = up((in - 1)); done (a + 1); } done 0;"}, "start up 3", "0; 0 up done 3; 1 up for 0.0 done 2; 2 up for 1.0 done 1; 3 up for 2.0 done 0"},
	// A run behind others is for the run, and at the place, that asked for it.
	{[]string{"up: go b = ask(in); go c = ask(in); child a = down(in); done a;", "down: wait a = go1; done a;"}, "start down 1/start up 2/start up 3", "0; 0 down waits signal go1; 1 up waits place 2; 2 down for 1.2 waits signal go1; 3 up waits place 2; 4 down for 3.2 waits signal go1"},
	{[]string{"up: go b = ask(in); go c = ask(in); child a = down(in); done a;", "down: wait a = go1; done a;"}, "start down 1/start up 2/start up 3/signal 4 go1 5", "0; 0 down waits signal go1; 1 up waits place 2; 2 down for 1.2 waits signal go1; 3 up done 5; 4 down for 3.2 done 5"},
	// A run goes on anew: of the same program, with what it asked for, and for the same one.
	{[]string{"up: if (in < 3) { again (in + 1); } done in;"}, "start up 1", "0; 0 up again 2; 1 up again 3; 2 up done 3"},
	{[]string{"up: child a = down(in); done a;", "down: if (in < 3) { again (in + 1); } done in;"}, "start up 1", "0; 0 up done 3; 1 down for 0.0 again 2; 2 down for 0.0 again 3; 3 down for 0.0 done 3"},
	{[]string{"up: child a = down(in); done a;", "down: sleep 2; if (in < 2) { again (in + 1); } fail in;"}, "start up 1/tick 3", "3; 0 up waits place 0; 1 down for 0.0 again 2; 2 down for 0.0 waits place 0; 2.0@4"},
	{[]string{"up: child a = down(in); done a;", "down: sleep 2; if (in < 2) { again (in + 1); } fail in;"}, "start up 1/tick 3/tick 1", "4; 0 up done none; 1 down for 0.0 again 2; 2 down for 0.0 fail 2"},
	{[]string{"up: child a = down(in); done a;", "down: wait b = go1; again b;"}, "start up 1/signal 1 go1 5/signal 2 go1 6/cancel 3", "0; 0 up done none; 1 down for 0.0 again 5; 2 down for 0.0 again 6; 3 down for 0.0 called off"},
	// There is no room to go on anew.
	{[]string{"up: again (in + 1);"}, "start up 1", "0; 0 up again 2; 1 up again 3; 2 up again 4; 3 up again 5; 4 up again 6; 5 up again 7; 6 up again 8; 7 up again 9"},
	{[]string{"up: child a = down(in); done a;", "down: again (in + 1);"}, "start up 1", "0; 0 up done none; 1 down for 0.0 again 2; 2 down for 0.0 again 3; 3 down for 0.0 again 4; 4 down for 0.0 again 5; 5 down for 0.0 again 6; 6 down for 0.0 again 7; 7 down for 0.0 again 8"},
	// There is no room for a child.
	{[]string{"up: child a = up((in + 1)); done in;"}, "start up 1", "0; 0 up done 1; 1 up for 0.0 done 2; 2 up for 1.0 done 3; 3 up for 2.0 done 4; 4 up for 3.0 done 5; 5 up for 4.0 done 6; 6 up for 5.0 done 7; 7 up for 6.0 done 8"},
	{[]string{"up: wait a = go1; child b = up(1); done b;"}, "start up 0/start up 0/start up 0/start up 0/start up 0/start up 0/start up 0/start up 0/signal 3 go1 1", "0; 0 up waits signal go1; 1 up waits signal go1; 2 up waits signal go1; 3 up done none; 4 up waits signal go1; 5 up waits signal go1; 6 up waits signal go1; 7 up waits signal go1"},
	// A run that is called off as others wait for it, and as it waits for others.
	{[]string{upDown, sleeper}, "start up 4/cancel 1", `0; 0 up fail "value"; 1 down for 0.0 called off`},
	{[]string{"up: child a = down(in); sleep 4; done a;", sleeper}, "start up 4/tick 1/cancel 1", "1; 0 up waits place 1; 1 down for 0.0 called off; 0.1@5"},
	{[]string{upDown, sleeper}, "start up 4/cancel 0", "0; 0 up called off; 1 down for 0.0 waits place 0; 1.0@3"},
	{[]string{upDown, sleeper}, "start up 4/cancel 0/tick 4", "4; 0 up called off; 1 down for 0.0 waits place 1"},
	{[]string{upDown, sleeper}, "start up 4/cancel 0/tick 4/answer 1 1 9", "4; 0 up called off; 1 down for 0.0 done 9"},
	{[]string{upDown, sleeper}, "start up 4/cancel 0/cancel 1", "0; 0 up called off; 1 down for 0.0 called off"},
	{[]string{upDown, "down: wait b = go1; again b;"}, "start up 4/cancel 0/signal 1 go1 1", "0; 0 up called off; 1 down for 0.0 again 1; 2 down for 0.0 waits signal go1"},
	{[]string{"up: child a = down(in); done a;", "down: child a = f(in); done a;", "f: wait a = go1; done a;"}, "start up 4/cancel 1", "0; 0 up done none; 1 down for 0.0 called off; 2 f for 1.0 waits signal go1"},
	{[]string{"up: child a = down(in); done a;", "down: child a = f(in); done a;", "f: wait a = go1; done a;"}, "start up 4/cancel 1/signal 2 go1 9", "0; 0 up done none; 1 down for 0.0 called off; 2 f for 1.0 done 9"},
	{[]string{"up: child a = down(in); done a;", "down: child a = f(in); fail a;", "f: wait a = go1; done a;"}, "start up 4/cancel 2", "0; 0 up done none; 1 down for 0.0 fail none; 2 f for 1.0 called off"},
	{[]string{"up: child a = down(in); child b = down(in); done b;", "down: wait a = go1; done a;"}, "start up 4/cancel 1/signal 2 go1 3", "0; 0 up done 3; 1 down for 0.0 called off; 2 down for 0.1 done 3"},
	// Its timers go, and no others.
	{[]string{"up: sleep 5; done 1;"}, "start up 1/start up 2/start up 3/cancel 1", "0; 0 up waits place 0; 1 up called off; 2 up waits place 0; 0.0@5; 2.0@5"},
	{[]string{"up: sleep 5; done 1;"}, "start up 1/start up 2/start up 3/cancel 1/tick 9", "9; 0 up done 1; 1 up called off; 2 up done 1"},
	// Timers: over when the time has come, one behind the other.
	{[]string{"up: sleep 2; sleep 3; done in;"}, "start up 1/tick 1", "1; 0 up waits place 0; 0.0@2"},
	{[]string{"up: sleep 2; sleep 3; done in;"}, "start up 1/tick 4", "4; 0 up waits place 1; 0.1@5"},
	{[]string{"up: sleep 2; sleep 3; done in;"}, "start up 1/tick 5", "5; 0 up done 1"},
	{[]string{"up: sleep 2; sleep 3; done in;"}, "start up 1/tick 1000", "1000; 0 up done 1"},
	{[]string{"up: sleep 2; sleep 3; done in;"}, "tick 7/start up 1/tick 3", "10; 0 up waits place 1; 0.1@12"},
	{[]string{"up: sleep 2; child a = down(in); sleep 4; done a;", "down: sleep 3; done in;"}, "start up 1/tick 8", "8; 0 up waits place 2; 1 down for 0.1 done 1; 0.2@9"},
	{[]string{"up: sleep 2; child a = down(in); sleep 4; done a;", "down: sleep 3; done in;"}, "start up 1/tick 9", "9; 0 up done 1; 1 down for 0.1 done 1"},
	{[]string{"up: sleep 2; if (in < 3) { again (in + 1); } done in;"}, "start up 1/tick 6", "6; 0 up again 2; 1 up again 3; 2 up done 3"},
	{[]string{"up: sleep 2; if (in < 3) { again (in + 1); } done in;"}, "start up 1/tick 5", "5; 0 up again 2; 1 up again 3; 2 up waits place 0; 2.0@6"},
	{[]string{"up: sleep 1000000000; done in;"}, "tick 9/start up 1/tick 1000", "1009; 0 up waits place 0; 0.0@1000000009"},
	// One of no time waits for time still, however little; then all of that are over at once.
	{[]string{"up: sleep 0; done in;"}, "start up 1", "0; 0 up waits place 0; 0.0@0"},
	{[]string{"up: sleep 0; done in;"}, "start up 1/tick 1", "1; 0 up done 1"},
	{[]string{"up: sleep 0; sleep 0; sleep 0; done in;"}, "tick 3/start up 1/tick 1", "4; 0 up done 1"},
	{[]string{"up: sleep 2; sleep 0; sleep 1; sleep 0; wait a = go1;"}, "start up 1/tick 3", "3; 0 up waits signal go1"},
	{[]string{"up: while 1 { sleep 0; }"}, "start up 1/tick 1", `1; 0 up fail "many"`},
	// Timers in order, by their time, run and place.
	{[]string{"up: sleep in; done in;"}, "start up 5/start up 3/start up 4/start up 3", "0; 0 up waits place 0; 1 up waits place 0; 2 up waits place 0; 3 up waits place 0; 1.0@3; 3.0@3; 2.0@4; 0.0@5"},
	{[]string{"up: sleep in; done in;"}, "start up 5/tick 2/start up 3/start up 1/tick 2", "4; 0 up waits place 0; 1 up waits place 0; 2 up done 1; 0.0@5; 1.0@5"},
	{[]string{"up: sleep 3; sleep in; done in;"}, "start up 2/start up 1/start up 2/tick 3/start up 0", "3; 0 up waits place 1; 1 up waits place 1; 2 up waits place 1; 3 up waits place 0; 1.1@4; 0.1@5; 2.1@5; 3.0@6"},
	// Two at one time: the first goes on as far as it goes ahead of the other.
	{[]string{"up: sleep 2; child a = f(in); done a;", "f: wait a = go1;"}, "start up 1/start up 2/tick 2", "2; 0 up waits place 1; 1 up waits place 1; 2 f for 0.1 waits signal go1; 3 f for 1.1 waits signal go1"},
	{[]string{"up: sleep 2; sleep 0; child a = f(in); done a;", "down: sleep 2; child a = f(in); done a;", "f: wait a = go1;"}, "start up 1/start down 2/tick 2", "2; 0 up waits place 2; 1 down waits place 1; 2 f for 0.2 waits signal go1; 3 f for 1.1 waits signal go1"},
	{[]string{"up: sleep 2; sleep 0; child a = f(in); done a;", "down: sleep 2; child a = f(in); done a;", "f: wait a = go1;"}, "start down 2/start up 1/tick 2", "2; 0 down waits place 1; 1 up waits place 2; 2 f for 0.1 waits signal go1; 3 f for 1.2 waits signal go1"},
	{[]string{"up: sleep in; child a = f(in); done a;", "f: wait a = go1;"}, "start up 3/start up 1/start up 2/tick 9", "9; 0 up waits place 1; 1 up waits place 1; 2 up waits place 1; 3 f for 1.1 waits signal go1; 4 f for 2.1 waits signal go1; 5 f for 0.1 waits signal go1"},
	// Signals and answers.
	{[]string{"up: wait a = go1; wait b = go2; done (a - b);"}, "start up 1/signal 0 go2 3/signal 0 other 9/signal 0 go1 5", "0; 0 up done 2"},
	{[]string{"up: go a = ask(in); go b = ask(2); join c = b; join d = a; done (c - d);"}, "start up 1/answer 0 0 3/answer 0 1 7", "0; 0 up done 4"},
	{[]string{"up: go a = ask(in); go b = ask(2); join c = b; join d = a; done (c == d);"}, "start up 1/refuse 0 1/refuse 0 0", "0; 0 up done 1"},
	// Nobody hears what is not for it.
	{[]string{"up: wait a = go1; done a;"}, "start up 1/start up 1/signal 1 go1 5", "0; 0 up waits signal go1; 1 up done 5"},
	{[]string{"up: call a = ask(in); done a;"}, "start up 1/start up 1/answer 1 0 5", "0; 0 up waits place 0; 1 up done 5"},
	// The document's example, as far as an engine tells it.
	{example, "start order 3/answer 0 0 1", "0; 0 order waits place 2; 0.2@5"},
	{example, "start order 3/answer 0 0 1/tick 4/tick 1", "5; 0 order waits place 1"},
	{example, "start order 3/answer 0 0 1/tick 4/tick 1/answer 0 1 7/signal 0 up 1", "5; 0 order waits signal sent"},
	{example, `start order 3/answer 0 0 1/tick 4/tick 1/answer 0 1 7/signal 0 up 1/signal 0 sent "ok"/start count 1/signal 1 up 1/signal 1 up 4/start pair 2/refuse 4 0`, `5; 0 order done "ok!"; 1 count again 11; 2 count done 11; 3 pair done 12; 4 order for 3.0 fail "unpaid"; 5 count for 3.1 again 12; 6 count for 3.1 done 12`},
	// Time goes by without anything.
	{[]string{"up: done in;"}, "tick 1/tick 1000", "1001"},
}

func TestScenes(t *testing.T) {
	for _, c := range scenes {
		e := do(t, newEngine(t, c.progs...), c.acts)
		if got := stands(e); got != c.want {
			t.Errorf("%q by %q\n is %s\nnot %s", c.progs, c.acts, got, c.want)
		}
		if !impl.EngineOk(e) || !modelEngineOk(e) {
			t.Errorf("%q by %q is not ok", c.progs, c.acts)
		}
		if played := impl.EnginePlay(progsOf(t, c.progs...), acts(c.acts)); !sameEngine(played, e) {
			t.Errorf("%q by %q is played to %s", c.progs, c.acts, stands(played))
		}
	}
}

// What is written down, event by event.
func TestWhatRunsWriteDown(t *testing.T) {
	for _, c := range []struct {
		progs []string
		acts  string
		hists []string
	}{
		{[]string{upDown, sleeper}, "start up 4/tick 9/answer 1 1 9", []string{
			"start 4/task 1/cmd 3 down 4/came 3 0 ok  9/task 1/cmd 4  10",
			"start 4/task 1/cmd 2  3/came 2 0 ok  none/task 1/cmd 1 ask 4/came 1 1 ok  9/task 1/cmd 4  9"}},
		{[]string{upDown, sleeper}, "start up 4/signal 0 go1 1/cancel 1", []string{
			`start 4/task 1/cmd 3 down 4/came 4 0 ok go1 1/task 0/came 3 0 no  none/task 1/cmd 5  "value"`,
			"start 4/task 1/cmd 2  3/cancel"}},
		{[]string{upDown, sleeper}, "start up 4/cancel 0/tick 3/refuse 1 1", []string{
			"start 4/task 1/cmd 3 down 4/cancel",
			"start 4/task 1/cmd 2  3/came 2 0 ok  none/task 1/cmd 1 ask 4/came 1 1 no  none/task 1/cmd 4  none"}},
		{[]string{"up: child a = gone(in); done a;"}, `start up "x"`, []string{
			`start "x"/task 1/cmd 3 gone "x"/came 3 0 no  none/task 1/cmd 4  none`}},
		{[]string{"up: child a = down(in); done a;", `down: if (in == "x") { again "y"; } done in;`}, `start up "x"`, []string{
			`start "x"/task 1/cmd 3 down "x"/came 3 0 ok  "y"/task 1/cmd 4  "y"`,
			`start "x"/task 1/cmd 6  "y"`, `start "y"/task 1/cmd 4  "y"`}},
		{[]string{"up: child a = down(in); done a;", "down: fail 3;"}, "start up none", []string{
			"start none/task 1/cmd 3 down none/came 3 0 no  none/task 1/cmd 4  none", "start none/task 1/cmd 5  3"}},
		{example, "start order 3/answer 0 0 1", []string{"start 3/task 1/cmd 1 pay 3/came 1 0 ok  1/task 2/cmd 1 pack 3/cmd 2  5"}},
		{[]string{"up: go a = f(1); go b = g(2); sleep 1; join c = a; done c;"}, `start up 0/answer 0 1 7/tick 1/answer 0 0 "z"`, []string{
			`start 0/task 3/cmd 1 f 1/cmd 1 g 2/cmd 2  1/came 1 1 ok  7/task 0/came 2 2 ok  none/task 0/came 1 0 ok  "z"/task 1/cmd 4  "z"`}},
	} {
		e := do(t, newEngine(t, c.progs...), c.acts)
		var got []string
		for _, r := range e.Runs {
			got = append(got, oneLine(r.Hist))
		}
		if !slices.Equal(got, c.hists) {
			t.Errorf("%q by %q\n is %q\nnot %q", c.progs, c.acts, got, c.hists)
		}
	}
}

// setOf is so many programs of unlike names.
func setOf(many int) []impl.Prog {
	var list []impl.Prog
	for i := range many {
		list = append(list, impl.Prog{Name: fmt.Sprintf("p%d", i), Steps: steps(wait("a", "go1"), done(name("a")))})
	}
	return list
}

func TestEngineNewOfWrong(t *testing.T) {
	wrong := [][]impl.Prog{nil, {}, setOf(impl.SetMax + 1), setOf(9), append(setOf(2), setOf(1)...), append(setOf(1), setOf(1)...), {{}}}
	for _, p := range notFine() {
		wrong = append(wrong, []impl.Prog{p}, append(setOf(1), p), append([]impl.Prog{p}, setOf(1)...))
	}
	for _, list := range wrong {
		if e, ok := impl.EngineNew(list); ok || !noEngine(e) {
			t.Errorf("EngineNew of %v is %v, %v", list, e, ok)
		}
		if e := impl.EnginePlay(list, acts("start p0 1")); !noEngine(e) {
			t.Errorf("EnginePlay of %v is %v", list, e)
		}
	}
	for n := 1; n <= impl.SetMax; n++ {
		if e, ok := impl.EngineNew(setOf(n)); !ok || !slices.EqualFunc(e.Progs, setOf(n), sameProg) {
			t.Errorf("EngineNew of %d programs is %v", n, ok)
		}
	}
}

// Programs may be alike but for their names; a name is another one by its size of letters.
func TestEngineNewOfUnlikeNames(t *testing.T) {
	list := setOf(2)
	list[0].Name, list[1].Name = "one", "One"
	if e, ok := impl.EngineNew(list); !ok || len(e.Progs) != 2 {
		t.Error("one and One are alike")
	}
}

// checkNoEngine says that an engine is not ok, and that each function has its fixed answer of it.
func checkNoEngine(t *testing.T, what string, e impl.Engine) {
	t.Helper()
	if impl.EngineOk(e) {
		t.Errorf("%s: it is ok", what)
	}
	for _, a := range append(acts("start up 1/signal 0 go1 1/answer 0 0 1/refuse 0 0/cancel 0/tick 1"), impl.Act{}) {
		if next, code := impl.EngineDo(e, a); code != impl.DoForm || !noEngine(next) {
			t.Errorf("%s: %v is %v, %d", what, a, next, code)
		}
	}
	for _, run := range []int{-1, 0, 1} {
		if o, ok := impl.EngineOut(e, run); ok || !noOut(o) {
			t.Errorf("%s: EngineOut is %s, %v", what, shown(o), ok)
		}
		if list := impl.EngineAsks(e, run); len(list) != 0 {
			t.Errorf("%s: EngineAsks is %v", what, list)
		}
	}
	for _, p := range append(setOf(1), e.Progs...) {
		if next, ok := impl.EngineSwap(e, p); ok || !noEngine(next) {
			t.Errorf("%s: EngineSwap is %v, %v", what, next, ok)
		}
	}
}

// wovenEngine is an engine with a run of each sort: for another one or not, that waits for a call, a timer, a child or a signal, that is done, called off, or went on anew.
func wovenEngine(t *testing.T) impl.Engine {
	e := newEngine(t,
		"up: go a = ask(in); child b = down(in); child c = down(b); done c;",
		"down: sleep 9; if (in < 2) { again (in + 1); } done in;",
		"f: go a = ask(1); sleep 4; call b = ask(2); wait c = go1; done c;",
		"one: wait a = go1; child b = one(a); done b;")
	return do(t, e, "start up 1/start f 1/tick 2/start one 1/signal 3 go1 5/cancel 3/tick 7/start f 1/tick 1")
}

func TestWovenEngine(t *testing.T) {
	e := wovenEngine(t)
	const want = "10; 0 up waits place 1; 1 down for 0.1 again 2; 2 f waits place 2; 3 one called off; 4 one for 3.0 waits signal go1; 5 down for 0.1 waits place 0; 6 f waits place 1; 6.1@13; 5.0@18"
	if got := stands(e); got != want {
		t.Fatalf("it is %s", got)
	}
	if !impl.EngineOk(e) {
		t.Error("it is not ok")
	}
}

// overRun is a run that was called off as it began.
func overRun(id int) impl.Run {
	return impl.Run{Id: id, Prog: "one", Hist: events("start 1/cancel"), Parent: -1}
}

// breaks is ways to break an engine that is ok, each one sentence of that alone.
var breaks = map[string]func(e *impl.Engine){
	"no programs":                   func(e *impl.Engine) { e.Progs = nil },
	"too many programs":             func(e *impl.Engine) { e.Progs = append(e.Progs, setOf(1)...) },
	"a program that is not fine":    func(e *impl.Engine) { e.Progs[3].Steps = nil },
	"a program of no name":          func(e *impl.Engine) { e.Progs = e.Progs[:3]; e.Progs[2].Name = "let" },
	"two programs of one name":      func(e *impl.Engine) { *e = impl.Engine{Progs: append(e.Progs[:1:1], e.Progs[0])} },
	"a program of a run is gone":    func(e *impl.Engine) { e.Progs = slices.Delete(e.Progs, 2, 3) },
	"a program is another one":      func(e *impl.Engine) { e.Progs[1].Steps = e.Progs[2].Steps },
	"Now is below 0":                func(e *impl.Engine) { *e = impl.Engine{Progs: e.Progs, Now: -1} },
	"Now is far below 0":            func(e *impl.Engine) { *e = impl.Engine{Progs: e.Progs, Now: math.MinInt} },
	"Now is above ClockMax":         func(e *impl.Engine) { *e = impl.Engine{Progs: e.Progs, Now: impl.ClockMax + 1} },
	"Now is far above ClockMax":     func(e *impl.Engine) { *e = impl.Engine{Progs: e.Progs, Now: math.MaxInt} },
	"too many runs":                 func(e *impl.Engine) { e.Runs = append(e.Runs, overRun(7), overRun(8)) },
	"Id is not the place":           func(e *impl.Engine) { e.Runs[6].Id = 7 },
	"Id begins at 1":                func(e *impl.Engine) { e.Runs, e.Timers = e.Runs[2:3], nil; e.Runs[0].Id = 1 },
	"an Id twice":                   func(e *impl.Engine) { e.Runs[3].Id = 2 },
	"an Id below 0":                 func(e *impl.Engine) { e.Runs[0].Id = -1 },
	"a run of no program":           func(e *impl.Engine) { e.Runs[2].Prog = "gone" },
	"a run of nothing":              func(e *impl.Engine) { e.Runs[2].Prog = "" },
	"a run of another program":      func(e *impl.Engine) { e.Runs[2].Prog = "up" },
	"a history of nothing":          func(e *impl.Engine) { e.Runs[2].Hist = nil },
	"a history that is none":        func(e *impl.Engine) { h := e.Runs[3].Hist; e.Runs[3].Hist = append(h, comes(signal("go1", num(1)))) },
	"a history with a beginning":    func(e *impl.Engine) { e.Runs[2].Hist = append(e.Runs[2].Hist, began(num(1))) },
	"a history of another program":  func(e *impl.Engine) { e.Runs[2].Hist[2].Cmd.Name = "other" },
	"a history given another thing": func(e *impl.Engine) { e.Runs[0].Hist[0].Value = num(2) },
	"a history that has too few":    func(e *impl.Engine) { e.Runs[2].Hist = events("start 1/task 1/cmd 1 ask 1") },
	"a history with news":           func(e *impl.Engine) { e.Runs[2].Hist = append(e.Runs[2].Hist, comes(signal("go1", num(1)))) },
	"a history that is all news":    func(e *impl.Engine) { e.Runs[2].Hist = events("start 1") },
	"a beginning that is news":      func(e *impl.Engine) { e.Runs[4].Hist = events("start 5") },
	"Place without Parent":          func(e *impl.Engine) { e.Runs[2].Place = 1 },
	"Place below 0 without Parent":  func(e *impl.Engine) { e.Runs[2].Place = -1 },
	"Parent below -1":               func(e *impl.Engine) { e.Runs[2].Parent = -2 },
	"Parent far below":              func(e *impl.Engine) { e.Runs[2].Parent = math.MinInt },
	"Parent is the run":             func(e *impl.Engine) { e.Runs[3].Parent, e.Runs[3].Place = 3, 0 },
	"Parent is a run behind":        func(e *impl.Engine) { e.Runs[2].Parent, e.Runs[2].Place = 3, 0 },
	"Parent is no run":              func(e *impl.Engine) { e.Runs[6].Parent, e.Runs[6].Place = 7, 1 },
	"Parent is far away":            func(e *impl.Engine) { e.Runs[6].Parent, e.Runs[6].Place = math.MaxInt, 1 },
	"Parent asked for nothing":      func(e *impl.Engine) { e.Runs[6].Parent = 4 },
	"Parent asked for a call":       func(e *impl.Engine) { e.Runs[1].Place = 0 },
	"Parent asked for a timer":      func(e *impl.Engine) { e.Runs[6].Parent, e.Runs[6].Place = 2, 1 },
	"Parent asked for an end":       func(e *impl.Engine) { e.Runs[6].Parent, e.Runs[6].Place = 1, 1 },
	"Place behind all asked for":    func(e *impl.Engine) { e.Runs[1].Place = 2 },
	"Place below 0":                 func(e *impl.Engine) { e.Runs[1].Place = -1 },
	"Place far away":                func(e *impl.Engine) { e.Runs[1].Place = math.MaxInt },
	"no timers":                     func(e *impl.Engine) { e.Timers = nil },
	"the first timer is not there":  func(e *impl.Engine) { e.Timers = e.Timers[1:] },
	"the last timer is not there":   func(e *impl.Engine) { e.Timers = e.Timers[:1] },
	"timers in another order":       func(e *impl.Engine) { slices.Reverse(e.Timers) },
	"a timer twice":                 func(e *impl.Engine) { e.Timers = append(e.Timers, e.Timers[1]) },
	"a timer twice, later":          func(e *impl.Engine) { e.Timers = append(e.Timers, impl.Timer{Run: 5, At: 19}) },
	"one twice, and one not":        func(e *impl.Engine) { e.Timers[0] = impl.Timer{Run: 5, At: 17} },
	"a timer of a call":             func(e *impl.Engine) { e.Timers = append(e.Timers, impl.Timer{Run: 6, At: 19}) },
	"a timer of a child":            func(e *impl.Engine) { e.Timers = append(e.Timers, impl.Timer{Run: 0, Place: 1, At: 19}) },
	"a timer that was over":         func(e *impl.Engine) { e.Timers = append(e.Timers, impl.Timer{Run: 2, Place: 1, At: 19}) },
	"a timer of a run that is over": func(e *impl.Engine) { e.Timers = append(e.Timers, impl.Timer{Run: 1, At: 19}) },
	"a timer of nothing asked for":  func(e *impl.Engine) { e.Timers = append(e.Timers, impl.Timer{Run: 4, At: 19}) },
	"a timer of no run":             func(e *impl.Engine) { e.Timers = append(e.Timers, impl.Timer{Run: 7, At: 19}) },
	"a timer of a run below 0":      func(e *impl.Engine) { e.Timers = append(e.Timers, impl.Timer{Run: -1, At: 19}) },
	"a timer of another run":        func(e *impl.Engine) { e.Timers[1].Run = 4 },
	"a timer of another place":      func(e *impl.Engine) { e.Timers[1].Place = 1 },
	"a timer of a place below 0":    func(e *impl.Engine) { e.Timers[1].Place = -1 },
	"a timer of a far place":        func(e *impl.Engine) { e.Timers[1].Place = math.MaxInt },
	"a timer ahead of Now":          func(e *impl.Engine) { e.Timers[0].At = 9 },
	"Now behind a timer":            func(e *impl.Engine) { e.Now = 14 },
	"a timer later than it may be":  func(e *impl.Engine) { e.Timers[1].At = 20 },
	"Now ahead of where it was":     func(e *impl.Engine) { e.Now = 8 },
	"a timer far away":              func(e *impl.Engine) { e.Timers[1].At = math.MaxInt },
	"a timer far below":             func(e *impl.Engine) { e.Timers[0].At = math.MinInt },
	"no run for a child":            func(e *impl.Engine) { e.Runs[5].Parent, e.Runs[5].Place = -1, 0 },
	"no open run for a child":       func(e *impl.Engine) { e.Runs[5].Hist = append(e.Runs[5].Hist, calledOff()); e.Timers = e.Timers[:1] },
	"two open runs for a child":     func(e *impl.Engine) { e.Runs[6].Parent, e.Runs[6].Place = 0, 1 },
	"a run for one that was told": func(e *impl.Engine) {
		e.Runs[0].Hist = append(e.Runs[0].Hist, events("came 3 1 no  none/task 1/cmd 3 down none")...)
		e.Runs[6].Parent, e.Runs[6].Place = 0, 2
	},
}

func TestEngineOkBroken(t *testing.T) {
	whole := wovenEngine(t)
	for what, way := range breaks {
		e := ownOf(whole)
		way(&e)
		if modelEngineOk(e) {
			t.Errorf("%s: it is ok by the model", what)
		}
		checkNoEngine(t, what, e)
	}
	// Each on its own is what breaks it: without it the engine is ok.
	if !impl.EngineOk(whole) {
		t.Error("it is not ok")
	}
	checkNoEngine(t, "nothing", impl.Engine{})
}

// changes is ways to change an engine that leave it ok.
var changes = map[string]func(e *impl.Engine){
	"nothing":                      func(e *impl.Engine) {},
	"as many runs as may be":       func(e *impl.Engine) { e.Runs = append(e.Runs, overRun(7)) },
	"empty lists":                  func(e *impl.Engine) { *e = impl.Engine{Progs: e.Progs, Runs: []impl.Run{}, Timers: []impl.Timer{}} },
	"no runs at ClockMax":          func(e *impl.Engine) { *e = impl.Engine{Progs: e.Progs, Now: impl.ClockMax} },
	"programs in another order":    func(e *impl.Engine) { slices.Reverse(e.Progs) },
	"a timer as late as it may be": func(e *impl.Engine) { e.Timers[1].At = 19 },
	"a timer that is over now":     func(e *impl.Engine) { e.Timers[0].At = 10 },
	"all timers over now":          func(e *impl.Engine) { e.Timers = []impl.Timer{{Run: 5, At: 10}, {Run: 6, Place: 1, At: 10}} },
	"timers in order by run":       func(e *impl.Engine) { e.Timers = []impl.Timer{{Run: 5, At: 13}, {Run: 6, Place: 1, At: 13}} },
	"Now up to a timer":            func(e *impl.Engine) { e.Now = 13 },
	"Now as early as it may be":    func(e *impl.Engine) { e.Now = 9 },
	"a child of another program": func(e *impl.Engine) {
		e.Runs[5].Prog, e.Runs[5].Hist, e.Timers = "one", events("start 1/task 0"), e.Timers[:1]
	},
	"a run given another thing": func(e *impl.Engine) { e.Runs[6].Hist[0].Value = text("x") },
	"called off as it began": func(e *impl.Engine) {
		e.Runs[3].Hist = events("start 5/cancel")
		e.Runs[4].Parent, e.Runs[4].Place = -1, 0
	},
	"called off with news": func(e *impl.Engine) {
		e.Runs[6].Hist = append(e.Runs[6].Hist, comes(answer(0, num(1))), calledOff())
		e.Timers = e.Timers[1:]
	},
	"two open runs for one over":  func(e *impl.Engine) { e.Runs[6].Parent, e.Runs[6].Place = 3, 0 },
	"no open run for one over":    func(e *impl.Engine) { e.Runs[4].Hist = append(e.Runs[4].Hist, calledOff()) },
	"a run for one over, of none": func(e *impl.Engine) { e.Runs[4].Parent, e.Runs[4].Place = -1, 0 },
	"more runs that are over for one": func(e *impl.Engine) {
		e.Runs = append(e.Runs, impl.Run{Id: 7, Prog: "one", Hist: events("start 1/cancel"), Parent: 0, Place: 1})
	},
	"several things ahead of a task": func(e *impl.Engine) {
		e.Runs[4].Hist = events("start 5/came 4 0 ok x 1/came 4 0 ok y 2/task 0/came 4 0 ok z 1/task 0")
	},
	"a child that came to nothing": func(e *impl.Engine) {
		e.Runs[0].Hist = append(e.Runs[0].Hist, events("came 3 1 no  none/task 1/cmd 3 down none")...)
		e.Runs[5].Place = 2
	},
}

func TestEngineOkOfChanged(t *testing.T) {
	whole := wovenEngine(t)
	for what, way := range changes {
		e := ownOf(whole)
		way(&e)
		if !modelEngineOk(e) {
			t.Errorf("%s: it is not ok by the model", what)
		}
		if !impl.EngineOk(e) {
			t.Errorf("%s: it is not ok: %s", what, stands(e))
		}
		for _, a := range acts("start up 1/signal 4 go1 1/answer 0 0 1/answer 6 0 1/cancel 5/cancel 0/tick 3/tick 100") {
			next, code := impl.EngineDo(e, a)
			want, is := modelDo(e, a, map[string]int{})
			if code != is || !sameEngine(next, want) || !impl.EngineOk(next) {
				t.Errorf("%s: %v is %s, %d, not %s, %d", what, a, stands(next), code, stands(want), is)
			}
		}
	}
}

// bend changes some number or text of an engine.
func (d *dice) bend(e impl.Engine) impl.Engine {
	e = ownOf(e)
	by := []int{-1, 1, 2, -3, 9}[d.upTo(5)]
	if len(e.Runs) == 0 || d.upTo(9) == 0 {
		e.Now += by
		return e
	}
	r := &e.Runs[d.upTo(len(e.Runs))]
	others := otherEvents()
	switch k := d.upTo(9); {
	case k == 0:
		r.Id += by
	case k == 1:
		r.Parent += by
	case k == 2:
		r.Place += by
	case k == 3:
		r.Parent, r.Place = d.upTo(len(e.Runs)), d.upTo(3)
	case k == 4:
		r.Prog = []string{"up", "down", "f", "one", "gone"}[d.upTo(5)]
	case k == 5:
		r.Hist = append(r.Hist, others[d.upTo(len(others))])
	case k == 6:
		r.Hist = d.changed(r.Hist)
	case len(e.Timers) == 0:
		e.Timers = append(e.Timers, impl.Timer{Run: d.upTo(len(e.Runs)), Place: d.upTo(3), At: e.Now})
	case k == 7:
		t := &e.Timers[d.upTo(len(e.Timers))]
		*[]*int{&t.Run, &t.Place, &t.At}[d.upTo(3)] += by
	default:
		t := e.Timers[d.upTo(len(e.Timers))]
		t.At += by
		e.Timers = append(e.Timers, t)
	}
	return e
}

func TestEngineOkOfBent(t *testing.T) {
	ok, not := 0, 0
	d := &dice{77}
	eachEngine(3, func(e impl.Engine) {
		for range 6 {
			bent := d.bend(e)
			want := modelEngineOk(bent)
			if impl.EngineOk(bent) != want {
				t.Fatalf("%v is ok: %v", bent, !want)
			}
			if want {
				ok++
			} else {
				not++
			}
		}
	})
	if ok < 500 || not < 5000 {
		t.Errorf("%d are ok, %d not", ok, not)
	}
}

func TestEngineOutOfWrong(t *testing.T) {
	e := wovenEngine(t)
	for _, run := range []int{-1, len(e.Runs), impl.RunMax, math.MinInt, math.MaxInt} {
		if o, ok := impl.EngineOut(e, run); ok || !noOut(o) {
			t.Errorf("EngineOut of %d is %s, %v", run, shown(o), ok)
		}
		if list := impl.EngineAsks(e, run); len(list) != 0 {
			t.Errorf("EngineAsks of %d is %v", run, list)
		}
	}
	// One that was called off as it began was never done.
	e.Runs[6].Hist, e.Timers = events("start 1/cancel"), e.Timers[1:]
	if o, ok := impl.EngineOut(e, 6); !ok || !noOut(o) {
		t.Errorf("EngineOut is %s, %v", shown(o), ok)
	}
}

func TestEngineOutAndAsks(t *testing.T) {
	e := wovenEngine(t)
	for run, want := range []struct{ out, asks string }{
		{"waits place 1; call ask 1, child down 1; in=1; 2", "[0]"},
		{"again 2; timer 9, again 2; in=1; 3", "[]"},
		{"waits place 2; call ask 1, timer 4, call ask 2; in=1; 3", "[0 2]"},
		{"waits place 0; child one 5; in=1 a=5; 2", "[]"},
		{"waits signal go1; ; in=5; 1", "[]"},
		{"waits place 0; timer 9; in=2; 1", "[]"},
		{"waits place 1; call ask 1, timer 4; in=1; 2", "[0]"},
	} {
		o, ok := impl.EngineOut(e, run)
		if !ok || shown(o) != want.out {
			t.Errorf("EngineOut of %d is %s, %v", run, shown(o), ok)
		}
		if got := fmt.Sprint(impl.EngineAsks(e, run)); got != want.asks {
			t.Errorf("EngineAsks of %d is %s", run, got)
		}
	}
	// A call of a run that is over, or was called off, asks for nothing any more.
	e = do(t, e, "cancel 2")
	if got := impl.EngineAsks(e, 2); len(got) != 0 {
		t.Errorf("EngineAsks is %v", got)
	}
	e = do(t, newEngine(t, "up: go a = f(in); done 1;"), "start up 1")
	if got := impl.EngineAsks(e, 0); len(got) != 0 {
		t.Errorf("EngineAsks is %v", got)
	}
}

// swaps is another program in the place of one of wovenEngine, and whether all goes on.
var swaps = []struct {
	prog string
	ok   bool
}{
	{"up: go a = ask(in); child b = down(in); child c = down(b); done c;", true},
	{"up: go a = ask(in); child b = down(in); fail b;", true},
	{"up: go a = ask(1); child b = down(1);", true},
	{"up: go a = ask(in); child b = down(in); while 1 { sleep 1; }", true},
	{"up: go a = ask(in); child b = down(2); done b;", false},
	{"up: go a = ask(in); child b = one(in); done b;", false},
	{"up: child b = down(in); done b;", false},
	{"up: go a = ask(in); go b = ask(in); child c = down(in);", false},
	{"up: go a = ask(in); done 1;", false},
	{"down: sleep 9; if (in < 2) { again (in + 1); } fail in;", true},
	{"down: sleep 9; again 2;", true},
	{"down: sleep 9; again 3;", false},
	{"down: sleep 9; done 2;", false},
	{"down: sleep 8; again 2;", false},
	{"down: sleep (8 + 1); again (in + 1);", true},
	{"one: wait a = go1; child b = one(a); fail b;", true},
	{"one: wait a = go1; child b = one(5);", true},
	{"one: wait a = go1; child b = one(6);", false},
	{"one: wait a = go2; child b = one(a);", false},
	{"f: go a = ask(1); sleep 4; call b = ask(2); done b;", true},
	{"f: go a = ask(1); sleep 4; call b = ask(2); call c = ask(3); done b;", true},
	{"f: go a = ask(1); sleep 5; call b = ask(2); done b;", false},
	{"f: call a = ask(1); sleep 4; call b = ask(2); done b;", false},
	{"gone: done in;", false},
	{"Up: go a = ask(in); child b = down(in); done b;", false},
}

func TestEngineSwap(t *testing.T) {
	e := wovenEngine(t)
	for _, c := range swaps {
		p := progsOf(t, c.prog)[0]
		got, ok := impl.EngineSwap(e, p)
		want := ownOf(e)
		if at := slices.IndexFunc(e.Progs, func(q impl.Prog) bool { return q.Name == p.Name }); c.ok {
			want.Progs[at] = p
		}
		if ok != c.ok || !sameEngine(got, want) {
			t.Errorf("%s: %v, %s", c.prog, ok, stands(got))
		}
	}
	for _, p := range notFine() {
		for _, called := range []string{p.Name, "up", "down"} {
			p.Name = called
			if impl.ProgCheck(p) == impl.ProgFine {
				continue
			}
			if got, ok := impl.EngineSwap(e, p); ok || !sameEngine(got, e) {
				t.Errorf("EngineSwap by %v is %s, %v", p, stands(got), ok)
			}
		}
	}
	// A program that no run is of may be any.
	for _, s := range []string{"up: done 1;", "up: sleep 1;"} {
		n := newEngine(t, upDown, sleeper)
		if got, ok := impl.EngineSwap(n, progsOf(t, s)[0]); !ok || !strings.HasPrefix(impl.ProgPut(got.Progs[0]), "program up {\n  "+strings.Fields(s)[1]) || len(got.Progs) != 2 {
			t.Errorf("EngineSwap by %s is %v", s, ok)
		}
	}
}

// What goes on by another program is that one's from there on.
func TestSwappedGoesOn(t *testing.T) {
	e := do(t, newEngine(t, upDown, sleeper), "start up 4")
	e, ok := impl.EngineSwap(e, progsOf(t, "down: sleep 3; call b = ask(in); child c = up2(b); sleep 1; done (b + 1);")[0])
	if !ok {
		t.Fatal("it is not swapped")
	}
	e, ok = impl.EngineSwap(e, progsOf(t, "up: child a = down(in); call b = last(a); done b;")[0])
	if !ok {
		t.Fatal("it is not swapped")
	}
	e = do(t, e, "tick 3/answer 1 1 9/tick 1")
	if got := stands(e); got != "4; 0 up waits place 1; 1 down for 0.0 done 10" {
		t.Errorf("it is %s", got)
	}
}
