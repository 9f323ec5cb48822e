package tests

import (
	"fmt"
	"runtime"
	"slices"
	"sync"
	"testing"

	"loop.example/backstitch/impl"
)

// engineLists is the memory of all lists of an engine, engineTexts of all its texts.
func engineLists(e impl.Engine) []span {
	spans := []span{listSpan(e.Progs), listSpan(e.Runs), listSpan(e.Timers)}
	for _, p := range e.Progs {
		spans = append(spans, stepLists(p.Steps)...)
	}
	for _, r := range e.Runs {
		spans = append(spans, listSpan(r.Hist))
	}
	return spans
}

func engineTexts(e impl.Engine) []span {
	var spans []span
	for _, p := range e.Progs {
		spans = append(spans, progTexts(p)...)
	}
	for _, r := range e.Runs {
		spans = append(append(spans, textSpan(r.Prog)), eventTexts(r.Hist)...)
	}
	return slices.DeleteFunc(spans, func(s span) bool { return s.from == s.to })
}

func actTexts(list ...impl.Act) []span {
	var spans []span
	for _, a := range list {
		spans = append(spans, textSpan(a.Name), textSpan(a.Value.Text))
	}
	return spans
}

// roomyList is a list with spare room, and the same thing there.
func roomyList[T any](list []T, spare T) []T {
	room := append(make([]T, 0, len(list)+3), list...)
	for i := len(room); i < cap(room); i++ {
		room[:cap(room)][i] = spare
	}
	return room
}

// roomyProgs is programs all lists of which have spare room, with something there.
func roomyProgs(list []impl.Prog) []impl.Prog {
	list = slices.Clone(list)
	for i := range list {
		list[i].Steps = roomySteps(list[i].Steps)
	}
	return roomyList(list, impl.Prog{Name: "spare", Steps: steps(done(name("in")))})
}

// roomyEngine is an engine all lists of which have spare room, with something there.
func roomyEngine(e impl.Engine) impl.Engine {
	e = ownOf(e)
	for i := range e.Runs {
		e.Runs[i].Hist = roomyEvents(e.Runs[i].Hist)
	}
	e.Progs = roomyProgs(e.Progs)
	e.Runs = roomyList(e.Runs, impl.Run{Id: 5, Prog: "spare", Hist: events("start 1"), Parent: -1})
	e.Timers = roomyList(e.Timers, impl.Timer{Run: 5, At: 77})
	return e
}

// seenProgs and seenEngine write down all, spare room included.
func seenProgs(list []impl.Prog) string {
	text := fmt.Sprint(len(list), "[")
	for _, p := range list[:cap(list)] {
		text += p.Name + seenSteps(p.Steps)
	}
	return text + "]"
}

func seenEngine(e impl.Engine) string {
	text := seenProgs(e.Progs) + fmt.Sprint(e.Now, len(e.Runs), len(e.Timers), e.Timers[:cap(e.Timers)])
	for _, r := range e.Runs[:cap(e.Runs)] {
		text += fmt.Sprint(r.Id, r.Prog, r.Parent, r.Place, len(r.Hist), r.Hist[:cap(r.Hist)])
	}
	return text
}

// actsFor is an act of each kind, at each run.
func actsFor(e impl.Engine) []impl.Act {
	list := []impl.Act{ticks(1), ticks(9), starts(e.Progs[0].Name, num(1)), starts("gone", num(1)), {}}
	for run := range e.Runs {
		list = append(list, signals(run, "up", num(1)), answers(run, 0, num(1)), answers(run, 1, num(2)), cancels(run))
	}
	return list
}

func TestNothingIsWrittenIntoEngines(t *testing.T) {
	look := func(e impl.Engine) {
		e = roomyEngine(e)
		before := seenEngine(e)
		impl.EngineOk(e)
		for _, a := range actsFor(e) {
			impl.EngineDo(e, a)
		}
		for run := range e.Runs {
			impl.EngineOut(e, run)
			impl.EngineAsks(e, run)
		}
		other := roomyProgs([]impl.Prog{behind(e.Progs[0], done(name("in"))), e.Progs[0]})
		swaps := seenProgs(other)
		impl.EngineSwap(e, other[0])
		impl.EngineSwap(e, other[1])
		if seenEngine(e) != before || seenProgs(other) != swaps {
			t.Fatalf("%s was written into", stands(e))
		}
	}
	eachEngine(60, look)
	look(wovenEngine(t))
	for _, way := range breaks {
		e := wovenEngine(t)
		way(&e)
		if len(e.Progs) > 0 {
			look(e)
		}
	}
	for _, g := range plays() {
		progs, list := roomyProgs(g.progs), roomyList(g.acts, starts("up", num(1)))
		before, all := seenProgs(progs), slices.Clone(list[:cap(list)])
		impl.EngineNew(progs)
		impl.EnginePlay(progs, list)
		if seenProgs(progs) != before || !slices.Equal(list[:cap(list)], all) {
			t.Fatalf("%v was written into", g.acts)
		}
	}
}

// What lies behind the end of a list is no program, no run, no timer, no event and no act.
func TestSpareOfEnginesIsNotThere(t *testing.T) {
	eachEngine(30, func(e impl.Engine) {
		room := roomyEngine(e)
		if !impl.EngineOk(room) {
			t.Fatalf("%s is not ok", stands(e))
		}
		for _, a := range append(actsFor(e), starts("spare", num(1)), cancels(min(len(e.Runs), impl.RunMax-1))) {
			got, code := impl.EngineDo(room, a)
			if want, is := impl.EngineDo(e, a); code != is || !sameEngine(got, want) {
				t.Fatalf("%v of %s is %s, %d", a, stands(e), stands(got), code)
			}
		}
		if o, ok := impl.EngineOut(room, len(e.Runs)); ok || !noOut(o) {
			t.Fatalf("EngineOut is %s", shown(o))
		}
	})
	list := acts("start up 1/tick 1/start up 1")
	if got := stands(impl.EnginePlay(progsOf(t, "up: done in;"), list[:2])); got != "1; 0 up done 1" {
		t.Errorf("it is %s", got)
	}
}

// wordyEngine is an engine with texts wherever they may be, each in memory of its own.
func wordyEngine(t *testing.T) impl.Engine {
	progs := progsOf(t,
		`up: go a = first("lit1"); child b = down("lit2"); wait c = told; child d = down(c); done d;`,
		`down: call a = second(in); if (a == "once") { again "anew"; } if (a == "bad") { fail "failed"; } done a;`,
		`f: wait a = told; again (a + "x");`)
	e, _ := impl.EngineNew(progs)
	return do(t, e, `start up "given"/start f "other"/answer 1 0 "once"/signal 0 told "word"/start down "third"/answer 4 0 "late"`)
}

func TestMemoryOfEnginesIsNew(t *testing.T) {
	x := func(s string) impl.Value { return text(ownText(s)) }
	look := func(e impl.Engine) {
		given, givenTexts := engineLists(e), engineTexts(e)
		list := []impl.Act{starts(ownText(e.Progs[0].Name), x("begun")), starts(ownText("gone"), x("begun")), ticks(5), {Kind: 9, Name: ownText("nothing")}}
		for run := range e.Runs {
			list = append(list, signals(run, ownText("told"), x("word2")), answers(run, 0, x("answered")), cancels(run), refuses(run, 1))
		}
		for _, a := range list {
			next, _ := impl.EngineDo(e, a)
			checkApart(t, fmt.Sprint("EngineDo of ", a), engineLists(next), engineTexts(next), given, append(actTexts(a), givenTexts...))
		}
		for _, p := range append(e.Progs, behind(e.Progs[0], done(lit(x("end")))), impl.Prog{Name: ownText("up")}, impl.Prog{Name: ownText("gone")}) {
			next, _ := impl.EngineSwap(e, p)
			checkApart(t, "EngineSwap", engineLists(next), engineTexts(next), append(stepLists(p.Steps), given...), append(progTexts(p), givenTexts...))
		}
		for run := range e.Runs {
			o, _ := impl.EngineOut(e, run)
			checkApart(t, "EngineOut", outLists(o), nil, given, nil)
			if meetAny(outTexts(o), givenTexts) {
				t.Error("EngineOut shares a text")
			}
			first, second := impl.EngineAsks(e, run), impl.EngineAsks(e, run)
			checkApart(t, "EngineAsks", []span{listSpan(first), listSpan(second)}, nil, nil, nil)
		}
		if t.Failed() {
			t.Fatalf("of %s", stands(e))
		}
	}
	look(wordyEngine(t))
	look(wovenEngine(t))
	eachEngine(400, look)
	for i, g := range plays() {
		if i%20 > 0 {
			continue
		}
		var given, givenTexts []span
		for _, p := range g.progs {
			given, givenTexts = append(given, stepLists(p.Steps)...), append(givenTexts, progTexts(p)...)
		}
		given = append(given, listSpan(g.progs), listSpan(g.acts))
		e, _ := impl.EngineNew(g.progs)
		checkApart(t, "EngineNew", engineLists(e), engineTexts(e), given, givenTexts)
		e = impl.EnginePlay(g.progs, g.acts)
		checkApart(t, "EnginePlay", engineLists(e), engineTexts(e), given, append(actTexts(g.acts...), givenTexts...))
	}
}

// One program told twice, or one list in two programs, is two lists in the answer.
func TestSharedProgramsAreParted(t *testing.T) {
	list := steps(loop(name("in"), done(of(impl.ExprAdd, name("in"), name("in")))), done(name("in")))
	progs := []impl.Prog{{Name: "up", Steps: list}, {Name: "down", Steps: list}}
	e, ok := impl.EngineNew(progs)
	if !ok {
		t.Fatal("EngineNew is false")
	}
	given := append(stepLists(list), listSpan(progs))
	checkApart(t, "EngineNew", engineLists(e), nil, given, nil)
	e.Progs[1] = impl.Prog{Name: "down", Steps: e.Progs[0].Steps}
	shared := impl.Engine{Progs: e.Progs, Runs: make([]impl.Run, 2)}
	hist := events(`start "x"/cancel`)
	for i := range shared.Runs {
		shared.Runs[i] = impl.Run{Id: i, Prog: "up", Hist: hist, Parent: -1}
	}
	for _, a := range []impl.Act{ticks(1), starts("up", num(0)), cancels(0), {}} {
		next, _ := impl.EngineDo(shared, a)
		checkApart(t, "EngineDo", engineLists(next), engineTexts(next), engineLists(shared), engineTexts(shared))
	}
	next, _ := impl.EngineSwap(shared, impl.Prog{Name: "up", Steps: e.Progs[0].Steps})
	checkApart(t, "EngineSwap", engineLists(next), engineTexts(next), engineLists(shared), engineTexts(shared))
}

// No function keeps anything: an answer that is written into changes no other one.
func TestNothingIsKeptOfEngines(t *testing.T) {
	e := wordyEngine(t)
	before := seenEngine(e)
	for _, a := range actsFor(e) {
		next, code := impl.EngineDo(e, a)
		want := stands(next)
		for i := range next.Runs {
			clear(next.Runs[i].Hist[:cap(next.Runs[i].Hist)])
		}
		for _, p := range next.Progs {
			clear(p.Steps[:cap(p.Steps)])
		}
		clear(next.Runs[:cap(next.Runs)])
		clear(next.Timers[:cap(next.Timers)])
		clear(next.Progs[:cap(next.Progs)])
		if again, is := impl.EngineDo(e, a); is != code || stands(again) != want {
			t.Errorf("%v is %s, not %s", a, stands(again), want)
		}
	}
	if seenEngine(e) != before {
		t.Error("it is not as it was")
	}
}

// What a call answers does not hang on other calls beside it, and no goroutine is left of it.
func TestEnginesSideBySide(t *testing.T) {
	goroutines := runtime.NumGoroutine()
	list := plays()[:40]
	var all sync.WaitGroup
	for range 6 {
		all.Go(func() {
			for _, g := range list {
				e := impl.EnginePlay(g.progs, g.acts)
				if want := g.engines[len(g.engines)-1]; !sameEngine(e, want) {
					t.Errorf("%v is %s, not %s", g.acts, stands(e), stands(want))
				}
			}
		})
	}
	all.Wait()
	checkNoneIsLeft(t, goroutines)
}
