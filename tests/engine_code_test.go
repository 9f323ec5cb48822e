package tests

import (
	"math"
	"slices"
	"strings"
	"testing"

	"loop.example/backstitch/impl"
)

// ringProg is a program a list of which holds itself.
func ringProg(s string) impl.Prog {
	list := steps(loop(name("in"), done(name("in"))))
	list[0].Body = list
	return impl.Prog{Name: s, Steps: list}
}

// Each code, and the first of several that might be told.
func TestCodes(t *testing.T) {
	e := wovenEngine(t)
	full := do(t, e, "start one 1")
	late := impl.Engine{Progs: e.Progs, Now: impl.ClockMax}
	// A run that had all signals that it may have, and is over since.
	over := do(t, newEngine(t, "up: go a = ask(in); call b = ask(in); done b;"), "start up 1"+strings.Repeat("/signal 0 go1 1", impl.SignalMax))
	heard := over
	over = do(t, over, "answer 0 1 1")
	for _, c := range []struct {
		what string
		e    impl.Engine
		act  impl.Act
		code int
	}{
		{"a beginning", e, starts("one", num(1)), impl.DoFine},
		{"a beginning of no program", e, starts("gone", num(1)), impl.DoNone},
		{"a beginning of a program of another name", e, starts("On", num(1)), impl.DoNone},
		{"a beginning of a program by letters of another size", e, starts("One", num(1)), impl.DoNone},
		{"a beginning without room", full, starts("one", num(1)), impl.DoFull},
		{"a beginning of no program, without room", full, starts("gone", num(1)), impl.DoNone},
		{"a beginning by no name, without room", full, starts("let", num(1)), impl.DoForm},
		{"a beginning by a value that is none, of no program", e, starts("gone", impl.Value{Kind: 3}), impl.DoForm},
		{"time", e, ticks(1), impl.DoFine},
		{"time without room for runs", full, ticks(1), impl.DoFine},
		{"time that is too late", late, ticks(1), impl.DoFull},
		{"much time that is too late", late, ticks(impl.TickMax), impl.DoFull},
		{"too much time that is too late", late, ticks(impl.TickMax + 1), impl.DoForm},
		{"no time that is too late", late, ticks(0), impl.DoForm},
		{"a signal", e, signals(0, "go1", num(1)), impl.DoFine},
		{"a signal that nobody waits for", e, signals(5, "other", num(1)), impl.DoFine},
		{"a signal to no run", e, signals(7, "go1", num(1)), impl.DoNone},
		{"a signal to what can be no run", e, signals(8, "go1", num(1)), impl.DoForm},
		{"a signal to one that went on anew", e, signals(1, "go1", num(1)), impl.DoOver},
		{"a signal to one that was called off", e, signals(3, "go1", num(1)), impl.DoOver},
		{"a signal too many", heard, signals(0, "go1", num(1)), impl.DoFull},
		{"a signal too many of another name", heard, signals(0, "other", num(1)), impl.DoFull},
		{"a signal too many to one that is over", over, signals(0, "go1", num(1)), impl.DoOver},
		{"a signal too many to no run", heard, signals(1, "go1", num(1)), impl.DoNone},
		{"a signal too many by no name", heard, signals(0, "let", num(1)), impl.DoForm},
		{"a signal by no name to no run", e, signals(7, "", num(1)), impl.DoForm},
		{"an answer", e, answers(2, 2, num(1)), impl.DoFine},
		{"an answer behind all signals", heard, answers(0, 0, num(1)), impl.DoFine},
		{"an answer that nobody waits for yet", e, answers(2, 0, num(1)), impl.DoFine},
		{"a refusal", e, refuses(6, 0), impl.DoFine},
		{"an answer to no run", e, answers(7, 0, num(1)), impl.DoNone},
		{"an answer to no run at no place", e, answers(7, 39, num(1)), impl.DoNone},
		{"an answer to one that went on anew", e, answers(1, 0, num(1)), impl.DoOver},
		{"an answer to one that was called off", do(t, e, "cancel 2"), answers(2, 2, num(1)), impl.DoOver},
		{"an answer to one that is done, at its call", over, answers(0, 0, num(1)), impl.DoOver},
		{"an answer to one that is done, at no place", over, answers(0, 9, num(1)), impl.DoOver},
		{"an answer at a place of nothing", e, answers(2, 3, num(1)), impl.DoCmd},
		{"an answer at the last place", e, answers(2, impl.CmdMax-1, num(1)), impl.DoCmd},
		{"an answer to one that asked for nothing", e, answers(4, 0, num(1)), impl.DoCmd},
		{"an answer at a timer", e, answers(6, 1, num(1)), impl.DoCmd},
		{"an answer at a timer that was over", e, answers(2, 1, num(1)), impl.DoCmd},
		{"an answer at a child", e, answers(0, 1, num(1)), impl.DoCmd},
		{"a second answer", do(t, e, "answer 2 0 1"), answers(2, 0, num(1)), impl.DoCmd},
		{"an answer behind a refusal", do(t, e, "refuse 2 0"), answers(2, 0, num(1)), impl.DoCmd},
		{"a refusal behind an answer", do(t, e, "answer 2 0 1"), refuses(2, 0), impl.DoCmd},
		{"an answer at a place behind all", e, answers(2, impl.CmdMax, num(1)), impl.DoForm},
		{"an answer with a refusal", e, impl.Act{Kind: impl.ActAnswer, Run: 7, Place: 9, Value: num(1)}, impl.DoForm},
		{"a calling off", e, cancels(0), impl.DoFine},
		{"a calling off behind all signals", heard, cancels(0), impl.DoFine},
		{"a calling off of no run", e, cancels(7), impl.DoNone},
		{"a calling off of one that went on anew", e, cancels(1), impl.DoOver},
		{"a calling off once more", e, cancels(3), impl.DoOver},
		{"a calling off of one that is done", over, cancels(0), impl.DoOver},
		{"a calling off of what can be no run", full, cancels(8), impl.DoForm},
		{"nothing", e, impl.Act{}, impl.DoForm},
	} {
		if got := code(t, c.e, c.act); got != c.code {
			t.Errorf("%s is code %d, not %d", c.what, got, c.code)
		}
	}
	for _, a := range wrongActs() {
		for _, e := range []impl.Engine{e, full, late, over, heard} {
			if got := code(t, e, a); got != impl.DoForm {
				t.Errorf("%v is code %d", a, got)
			}
		}
	}
}

func TestSetMax(t *testing.T) {
	for many := range 8 {
		e, ok := impl.EngineNew(setOf(many))
		if ok != (many >= 1 && many <= impl.SetMax) || len(e.Progs) != many && ok {
			t.Errorf("EngineNew of %d programs is %v", many, ok)
		}
		if got := impl.EngineOk(impl.Engine{Progs: setOf(many)}); got != ok {
			t.Errorf("an engine of %d programs is ok: %v", many, got)
		}
	}
	e := do(t, impl.Engine{Progs: setOf(impl.SetMax)}, "start p3 1/start p0 1")
	if got := stands(e); got != "0; 0 p3 waits signal go1; 1 p0 waits signal go1" {
		t.Errorf("it is %s", got)
	}
}

func TestRunMax(t *testing.T) {
	e := newEngine(t, "up: wait a = go1; if a { child b = down(a); done b; } again 1;", "down: done in;")
	for i := range impl.RunMax {
		e = do(t, e, "start up 0")
		if len(e.Runs) != i+1 {
			t.Fatalf("there are %d runs", len(e.Runs))
		}
		if i == impl.RunMax-2 {
			// The last room is room still.
			child, again := do(t, e, "signal 2 go1 7"), do(t, e, "signal 2 go1 0")
			if got := runStands(child, child.Runs[7]); got != "7 down for 2.0 done 7" || runStands(child, child.Runs[2]) != "2 up done 7" {
				t.Errorf("it is %s", stands(child))
			}
			if got := runStands(again, again.Runs[7]); got != "7 up waits signal go1" || runStands(again, again.Runs[2]) != "2 up again 1" {
				t.Errorf("it is %s", stands(again))
			}
		}
	}
	if got := code(t, e, starts("up", num(0))); got != impl.DoFull {
		t.Errorf("one more is code %d", got)
	}
	// Runs that are over take their room still.
	e = do(t, e, "cancel 0/cancel 7")
	if got := code(t, e, starts("up", num(0))); got != impl.DoFull {
		t.Errorf("one more is code %d", got)
	}
	e = do(t, e, "signal 2 go1 7/signal 3 go1 0")
	if len(e.Runs) != impl.RunMax || runStands(e, e.Runs[2]) != "2 up done none" || runStands(e, e.Runs[3]) != "3 up again 1" {
		t.Errorf("it is %s", stands(e))
	}
}

func TestSignalMax(t *testing.T) {
	e := do(t, newEngine(t, "up: go a = ask(in); wait b = last; done b;"), "start up 1/start up 2")
	for i := range impl.SignalMax {
		before := len(e.Runs[0].Hist)
		e = do(t, e, "signal 0 go1 "+impl.ValuePut(num(i)))
		if !slices.Equal(e.Runs[0].Hist[before:], []impl.Event{comes(signal("go1", num(i))), task(0)}) {
			t.Fatalf("it is written down as %s", oneLine(e.Runs[0].Hist))
		}
		if i == impl.SignalMax-2 {
			if got := stands(do(t, e, "signal 0 last 5")); !strings.HasPrefix(got, "0; 0 up done 5; ") {
				t.Errorf("it is %s", got)
			}
		}
	}
	for _, s := range []string{"go1", "last"} {
		if got := code(t, e, signals(0, s, num(1))); got != impl.DoFull {
			t.Errorf("one more is code %d", got)
		}
	}
	// An answer is no signal, and another run has signals of its own.
	e = do(t, e, "answer 0 0 1/signal 1 last 1")
	if got := stands(e); got != "0; 0 up waits signal last; 1 up done 1" {
		t.Errorf("it is %s", got)
	}
}

// As much as a run may be told: all signals, and something for all that it asked for.
func TestMostThatComes(t *testing.T) {
	e := do(t, newEngine(t, "up: while (in < 39) { go a = ask(in); set in = (in + 1); } wait b = last; wait c = last; done c;"), "start up 0")
	for i := range impl.SignalMax - 1 {
		e = do(t, e, "signal 0 go1 "+impl.ValuePut(num(i)))
	}
	for i := range impl.CmdMax - 1 {
		e = do(t, e, "answer 0 "+impl.ValuePut(num(i))+" 5")
	}
	e = do(t, e, "signal 0 last 1")
	if list := e.Runs[0].Hist; len(only(list, impl.EventCame)) != impl.SignalMax+impl.CmdMax-1 || len(impl.EngineAsks(e, 0)) != 0 || code(t, e, signals(0, "last", num(1))) != impl.DoFull {
		t.Errorf("it is %s", stands(e))
	}
	if e = do(t, e, "cancel 0"); !impl.EngineOk(e) || lastKind(e.Runs[0].Hist) != impl.EventCancel {
		t.Errorf("it is %s", stands(e))
	}
}

// A run made by hand may have more signals than acts tell. What it cannot be told any more is refused, and the engine stays ok.
func TestNoRoomForWhatComes(t *testing.T) {
	const fine, none, over, full = impl.DoFine, impl.DoNone, impl.DoOver, impl.DoFull
	progs := progsOf(t, "up: go a = ask(in); sleep 3; child b = down(in); done b;", "down: call a = ask(in); done a;")
	for _, c := range []struct {
		room  int
		acts  string
		codes []int
	}{
		{0, "answer 0 0 1/tick 3/answer 1 0 1", []int{full, full, none}},
		{1, "answer 0 0 1/tick 3/answer 1 0 1", []int{fine, full, none}},
		{2, "answer 0 0 1/tick 3/answer 1 0 1", []int{fine, fine, full}},
		{0, "tick 3/answer 1 0 1/answer 0 0 1", []int{full, none, full}},
		{1, "tick 3/answer 1 0 1/answer 0 0 1", []int{fine, full, full}},
		{2, "tick 3/answer 1 0 1/answer 0 0 1", []int{fine, fine, over}},
		{1, "tick 9/refuse 0 0/cancel 1", []int{fine, full, full}},
		{2, "tick 9/refuse 0 0/cancel 1", []int{fine, fine, full}},
		{0, "signal 0 go1 1/tick 2/cancel 0/tick 9", []int{full, fine, fine, fine}},
	} {
		told := strings.Repeat("/came 4 0 ok go1 1/task 0", impl.CameMax-c.room)
		run := impl.Run{Prog: "up", Hist: events("start 1/task 2/cmd 1 ask 1/cmd 2  3" + told), Parent: -1}
		e := impl.Engine{Progs: progs, Runs: []impl.Run{run}, Timers: []impl.Timer{{Run: 0, Place: 1, At: 3}}}
		if !impl.EngineOk(e) {
			t.Fatal("it is not ok")
		}
		for i, a := range acts(c.acts) {
			if got := code(t, e, a); got != c.codes[i] {
				t.Errorf("%q with room for %d: %v is code %d, not %d", c.acts, c.room, a, got, c.codes[i])
			}
			if e, _ = impl.EngineDo(e, a); !impl.EngineOk(e) {
				t.Fatalf("%q with room for %d: it is %s", c.acts, c.room, stands(e))
			}
		}
	}
}

func TestTickMax(t *testing.T) {
	e := do(t, newEngine(t, "up: sleep 1000; done in;"), "start up 1")
	for _, c := range []struct{ many, code int }{{impl.TickMax, impl.DoFine}, {impl.TickMax + 1, impl.DoForm}, {1, impl.DoFine}, {0, impl.DoForm}, {-1, impl.DoForm}, {math.MaxInt, impl.DoForm}, {math.MinInt, impl.DoForm}} {
		if got := code(t, e, ticks(c.many)); got != c.code {
			t.Errorf("%d ticks are code %d", c.many, got)
		}
	}
	if got := stands(do(t, e, "tick 1000")); got != "1000; 0 up done 1" {
		t.Errorf("it is %s", got)
	}
	if got := stands(do(t, e, "tick 999")); got != "999; 0 up waits place 0; 0.0@1000" {
		t.Errorf("it is %s", got)
	}
}

func TestClockMax(t *testing.T) {
	e := newEngine(t, "up: sleep in; done in;")
	for range impl.ClockMax / impl.TickMax {
		e = do(t, e, "tick 1000")
	}
	if e.Now != impl.ClockMax || code(t, e, ticks(1)) != impl.DoFull {
		t.Errorf("it is %s", stands(e))
	}
	// Time stands still then; all else goes on.
	e = do(t, e, "start up 0/start up 1/cancel 1")
	if got := stands(e); got != "100000; 0 up waits place 0; 1 up called off; 0.0@100000" {
		t.Errorf("it is %s", got)
	}
	e.Runs, e.Timers = nil, nil
	for _, many := range []int{1, 2, impl.TickMax - 1, impl.TickMax} {
		e.Now = impl.ClockMax - many
		if next, code := impl.EngineDo(e, ticks(many)); code != impl.DoFine || next.Now != impl.ClockMax {
			t.Errorf("%d ticks are code %d", many, code)
		}
		e.Now++
		if got := code(t, e, ticks(many)); got != impl.DoFull {
			t.Errorf("%d ticks are code %d", many, got)
		}
	}
	// A timer may be over later than time goes.
	e.Now = impl.ClockMax - 5
	e = do(t, e, "start up 5/start up 6/tick 5")
	if got := stands(e); got != "100000; 0 up done 5; 1 up waits place 0; 1.0@100001" {
		t.Errorf("it is %s", got)
	}
}

func TestPlayOfManyActs(t *testing.T) {
	progs := progsOf(t, "up: wait a = go1; sleep 3; done a;")
	list := append(acts("start up 1/signal 0 go1 2"), make([]impl.Act, 56)...)
	list = append(list, acts("tick 2/tick 1")...)
	if len(list) != 60 {
		t.Fatal(len(list))
	}
	if got := stands(impl.EnginePlay(progs, list)); got != "3; 0 up done 2" {
		t.Errorf("60 acts are %s", got)
	}
	for _, many := range []int{61, 200} {
		more := append(slices.Clone(list), make([]impl.Act, many-len(list))...)
		if e := impl.EnginePlay(progs, more); stands(e) != "0" || !slices.EqualFunc(e.Progs, progs, sameProg) {
			t.Errorf("%d acts are %s", many, stands(e))
		}
	}
	if got := stands(impl.EnginePlay(progs, list[:59])); got != "2; 0 up waits place 0; 0.0@3" {
		t.Errorf("59 acts are %s", got)
	}
	// What is not done changes nothing for what is behind it.
	all := acts("cancel 0/start gone 1/start up 1/answer 0 0 1/signal 1 go1 1/signal 0 go1 7/tick 1/tick 1")
	all = append(all, ticks(0), impl.Act{Kind: 9}, ticks(1))
	if got := stands(impl.EnginePlay(progs, all)); got != "3; 0 up done 7" {
		t.Errorf("it is %s", got)
	}
	if e := impl.EnginePlay(progs, nil); stands(e) != "0" || len(e.Progs) != 1 {
		t.Errorf("no acts are %s", stands(e))
	}
}

// What holds itself is no program; it is refused, and nobody goes round in it.
func TestEnginesOfRings(t *testing.T) {
	ring := ringProg("up")
	e := do(t, newEngine(t, upDown, sleeper), "start up 4")
	for _, list := range [][]impl.Prog{{ring}, append(setOf(1), ring)} {
		if _, ok := impl.EngineNew(list); ok {
			t.Error("EngineNew is true")
		}
		impl.EnginePlay(list, acts("start up 1"))
	}
	if got, ok := impl.EngineSwap(e, ring); ok || !sameEngine(got, e) {
		t.Errorf("EngineSwap is %v", ok)
	}
	e.Progs[0] = ring
	if impl.EngineOk(e) {
		t.Error("it is ok")
	}
	if next, code := impl.EngineDo(e, ticks(1)); code != impl.DoForm || !noEngine(next) {
		t.Errorf("it is code %d", code)
	}
	if _, ok := impl.EngineSwap(e, setOf(1)[0]); ok {
		t.Error("EngineSwap is true")
	}
}

// Engines of far too much are refused without any of it being gone through for long.
func TestEnginesOfVeryMuch(t *testing.T) {
	e := wovenEngine(t)
	x := e
	x.Runs = slices.Repeat(e.Runs, 100000)
	checkNoEngine(t, "runs", x)
	x = e
	x.Timers = slices.Repeat(e.Timers, 100000)
	checkNoEngine(t, "timers", x)
	x = e
	x.Progs = slices.Repeat(e.Progs, 1000)
	if impl.EngineOk(x) {
		t.Error("it is ok")
	}
	x = ownOf(e)
	x.Runs[2].Hist = slices.Repeat(e.Runs[2].Hist, 100000)
	checkNoEngine(t, "events", x)
	list := make([]impl.Act, 1000000)
	if got := impl.EnginePlay(e.Progs, list); stands(got) != "0" {
		t.Errorf("it is %s", stands(got))
	}
}
