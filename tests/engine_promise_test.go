package tests

import (
	"slices"
	"testing"

	"loop.example/backstitch/impl"
)

// progOf is the program of a run.
func progOf(e impl.Engine, r impl.Run) impl.Prog {
	return e.Progs[slices.IndexFunc(e.Progs, func(p impl.Prog) bool { return p.Name == r.Prog })]
}

// timersOf is the timers of a run.
func timersOf(e impl.Engine, run int) []impl.Timer {
	var list []impl.Timer
	for _, t := range e.Timers {
		if t.Run == run {
			list = append(list, t)
		}
	}
	return list
}

// Promise 30: an engine begins with nothing that is done.
func TestPromise30(t *testing.T) {
	for _, g := range plays() {
		e, ok := impl.EngineNew(g.progs)
		if !ok || len(e.Runs) != 0 || len(e.Timers) != 0 || e.Now != 0 || !impl.EngineOk(e) || !slices.EqualFunc(e.Progs, g.progs, sameProg) {
			t.Fatalf("EngineNew is %s, %v", stands(e), ok)
		}
	}
	for _, p := range fineProgs() {
		if e, ok := impl.EngineNew([]impl.Prog{p}); !ok || stands(e) != "0" || !sameProg(e.Progs[0], p) {
			t.Fatalf("EngineNew of %s is %v", impl.ProgPut(p), ok)
		}
	}
}

// Promise 31: whatever is done, an engine is ok.
func TestPromise31(t *testing.T) {
	for _, d := range doneActs() {
		e, a, next, code := d.before, d.act, d.after, d.code
		if !impl.EngineOk(next) || !modelEngineOk(next) {
			t.Fatalf("%v of %s is %s, which is not ok", a, stands(e), stands(next))
		}
		if code != impl.DoFine && !sameEngine(e, next) {
			t.Fatalf("%v of %s is code %d, and %s", a, stands(e), code, stands(next))
		}
		if impl.ActOk(a) == (code == impl.DoForm) {
			t.Fatalf("%v of %s is code %d", a, stands(e), code)
		}
	}
}

// Promise 32: what was written down stays.
func TestPromise32(t *testing.T) {
	grew := 0
	for _, d := range doneActs() {
		e, a, next := d.before, d.act, d.after
		if len(next.Runs) < len(e.Runs) || next.Now < e.Now || !slices.EqualFunc(e.Progs, next.Progs, sameProg) {
			t.Fatalf("%v of %s is %s", a, stands(e), stands(next))
		}
		for i, r := range e.Runs {
			n := next.Runs[i]
			if len(n.Hist) < len(r.Hist) || !slices.Equal(n.Hist[:len(r.Hist)], r.Hist) || n.Id != r.Id || n.Prog != r.Prog || n.Parent != r.Parent || n.Place != r.Place {
				t.Fatalf("%v of %s: run %d is %s, and was %s", a, stands(e), i, oneLine(n.Hist), oneLine(r.Hist))
			}
			grew += len(n.Hist) - len(r.Hist)
		}
	}
	if grew < 5000 {
		t.Errorf("only %d events were written down", grew)
	}
}

// Promise 33: acts one behind the other lead to an engine that is ok.
func TestPromise33(t *testing.T) {
	for _, g := range plays() {
		before := impl.EnginePlay(g.progs, nil)
		for n := range min(len(g.acts), 60) {
			if n > 6 && n < len(g.acts)-1 {
				before = g.engines[n+1]
				continue
			}
			e := impl.EnginePlay(g.progs, g.acts[:n+1])
			want, _ := impl.EngineDo(before, g.acts[n])
			if !sameEngine(e, want) || !impl.EngineOk(e) {
				t.Fatalf("EnginePlay of %v is %s, not %s", g.acts[:n+1], stands(e), stands(want))
			}
			before = e
		}
	}
}

// Promise 34: each run stands as its program does by all that came.
func TestPromise34(t *testing.T) {
	kinds := map[int]int{}
	eachEngine(4, func(e impl.Engine) {
		for i, r := range e.Runs {
			o, ok := impl.EngineOut(e, i)
			want := impl.Exec(progOf(e, r), r.Hist[0].Value, impl.HistCame(r.Hist))
			if !ok || !sameOut(o, want) {
				t.Fatalf("run %d of %s is %s, not %s", i, stands(e), shown(o), shown(want))
			}
			if off := lastKind(r.Hist) == impl.EventCancel; (o.Status == impl.OutWaits) != (impl.HistOpen(r.Hist) || off) {
				t.Fatalf("run %d of %s is %s, by %s", i, stands(e), shown(o), oneLine(r.Hist))
			}
			kinds[o.Status]++
		}
	})
	for status := impl.OutWaits; status <= impl.OutAgain; status++ {
		if kinds[status] < 100 {
			t.Errorf("status %d only %d times", status, kinds[status])
		}
	}
}

// Promise 35: each call that is asked for can be answered, once.
func TestPromise35(t *testing.T) {
	many := 0
	eachEngine(8, func(e impl.Engine) {
		for run := range e.Runs {
			for _, place := range impl.EngineAsks(e, run) {
				many++
				for _, a := range []impl.Act{answers(run, place, num(1)), refuses(run, place)} {
					next, code := impl.EngineDo(e, a)
					if code != impl.DoFine || slices.Contains(impl.EngineAsks(next, run), place) {
						t.Fatalf("%v of %s is code %d", a, stands(e), code)
					}
					at := len(e.Runs[run].Hist)
					if got := next.Runs[run].Hist[at]; got.Came != (impl.Came{Kind: impl.CameAnswer, Place: place, Ok: a.Ok, Value: a.Value}) {
						t.Fatalf("%v of %s is written down as %v", a, stands(e), got)
					}
					want := impl.DoCmd
					if !impl.HistOpen(next.Runs[run].Hist) {
						want = impl.DoOver
					}
					if _, again := impl.EngineDo(next, a); again != want {
						t.Fatalf("%v of %s again is code %d", a, stands(next), again)
					}
				}
			}
		}
	})
	if many < 200 {
		t.Errorf("only %d are asked for", many)
	}
}

// Promise 36: what was not asked for is not answered.
func TestPromise36(t *testing.T) {
	many := 0
	eachEngine(40, func(e impl.Engine) {
		for run, r := range e.Runs {
			if !impl.HistOpen(r.Hist) {
				continue
			}
			asks := impl.EngineAsks(e, run)
			for place := range impl.CmdMax {
				is := modelIsUnder(r, impl.CmdCall, place)
				if slices.Contains(asks, place) != is {
					t.Fatalf("run %d of %s asks %v", run, stands(e), asks)
				}
				if got := code(t, e, answers(run, place, num(1))); is != (got == impl.DoFine) || !is && got != impl.DoCmd {
					t.Fatalf("an answer to run %d of %s at %d is code %d", run, stands(e), place, got)
				}
				many++
			}
			if !slices.IsSorted(asks) || len(asks) != len(slices.Compact(slices.Clone(asks))) {
				t.Fatalf("run %d of %s asks %v", run, stands(e), asks)
			}
		}
	})
	if many < 5000 {
		t.Errorf("only %d were tried", many)
	}
}

// Promise 37: a run that begins is the last, or there is no room.
func TestPromise37(t *testing.T) {
	began37, full := 0, 0
	eachEngine(6, func(e impl.Engine) {
		for _, p := range e.Progs {
			next, code := impl.EngineDo(e, starts(p.Name, num(2)))
			if len(e.Runs) == impl.RunMax {
				if code != impl.DoFull || !sameEngine(next, e) {
					t.Fatalf("it is code %d of %s", code, stands(e))
				}
				full++
				continue
			}
			at := len(e.Runs)
			if code != impl.DoFine || len(next.Runs) <= at {
				t.Fatalf("it is code %d of %s", code, stands(e))
			}
			// Behind it are only those that follow from it.
			r := next.Runs[at]
			if r.Id != at || r.Prog != p.Name || r.Parent != -1 || r.Place != 0 || r.Hist[0] != began(num(2)) || r.Hist[1].Kind != impl.EventTask || !slices.EqualFunc(next.Runs[:at], e.Runs, sameRun) {
				t.Fatalf("it is %v of %s", r, stands(next))
			}
			began37++
		}
		for _, s := range []string{"gone", "let1", "zz"} {
			if got := code(t, e, starts(s, num(2))); got != impl.DoNone {
				t.Fatalf("it is code %d of %s", got, stands(e))
			}
		}
	})
	if began37 < 500 || full < 100 {
		t.Errorf("%d began, %d had no room", began37, full)
	}
}

// Promise 38: a run that is called off goes no further, and no timer of it is left.
func TestPromise38(t *testing.T) {
	off, timers := 0, 0
	eachEngine(6, func(e impl.Engine) {
		for run, r := range e.Runs {
			next, code := impl.EngineDo(e, cancels(run))
			if !impl.HistOpen(r.Hist) {
				if code != impl.DoOver || !sameEngine(next, e) {
					t.Fatalf("calling run %d of %s off is code %d", run, stands(e), code)
				}
				continue
			}
			off++
			timers += len(timersOf(e, run))
			list := next.Runs[run].Hist
			if code != impl.DoFine || !slices.Equal(list, append(slices.Clone(r.Hist), calledOff())) || impl.HistOpen(list) || len(impl.EngineAsks(next, run)) != 0 || len(timersOf(next, run)) != 0 {
				t.Fatalf("calling run %d of %s off is %s, %d", run, stands(e), stands(next), code)
			}
			if r.Parent >= 0 && modelIsUnder(e.Runs[r.Parent], impl.CmdChild, r.Place) {
				before := e.Runs[r.Parent].Hist
				if got := next.Runs[r.Parent].Hist[len(before):]; len(got) < 2 || got[0] != comes(impl.Came{Kind: impl.CameChild, Place: r.Place}) || got[1].Kind != impl.EventTask {
					t.Fatalf("who waits for run %d of %s is told %s", run, stands(e), oneLine(got))
				}
			}
			later, _ := impl.EngineDo(next, ticks(impl.TickMax))
			if !slices.Equal(later.Runs[run].Hist, list) {
				t.Fatalf("run %d of %s goes on", run, stands(later))
			}
			for _, a := range []impl.Act{cancels(run), signals(run, "up", num(1)), answers(run, 0, num(1)), refuses(run, 1)} {
				if again := codeOfDo(next, a); again != impl.DoOver {
					t.Fatalf("%v of %s is code %d", a, stands(next), again)
				}
			}
		}
	})
	if off < 400 || timers < 50 {
		t.Errorf("%d were called off, with %d timers", off, timers)
	}
}

func codeOfDo(e impl.Engine, a impl.Act) int {
	_, code := impl.EngineDo(e, a)
	return code
}

// Promise 39: time in two parts is the same time.
func TestPromise39(t *testing.T) {
	went := 0
	eachEngine(5, func(e impl.Engine) {
		if len(e.Timers) == 0 && e.Now > 9 {
			return
		}
		for _, c := range [][2]int{{1, 1}, {1, 4}, {3, 2}, {2, 9}, {400, 600}} {
			if e.Now+c[0]+c[1] > impl.ClockMax {
				continue
			}
			whole, code := impl.EngineDo(e, ticks(c[0]+c[1]))
			part, _ := impl.EngineDo(e, ticks(c[0]))
			parts, _ := impl.EngineDo(part, ticks(c[1]))
			if code != impl.DoFine || !sameEngine(whole, parts) || whole.Now != e.Now+c[0]+c[1] {
				t.Fatalf("%v of %s is %s, and at once %s, %d", c, stands(e), stands(parts), stands(whole), code)
			}
			for _, x := range append(whole.Timers, part.Timers...) {
				if x.At <= part.Now {
					t.Fatalf("%v of %s is %s", c, stands(e), stands(whole))
				}
			}
			if len(whole.Timers) > 0 && whole.Timers[0].At <= whole.Now {
				t.Fatalf("%v of %s is %s", c, stands(e), stands(whole))
			}
			went++
		}
	})
	if went < 1000 {
		t.Errorf("only %d were tried", went)
	}
}

// Promise 40: a program that sleeps goes on when the time has come, and not ahead of it.
func TestPromise40(t *testing.T) {
	slept := 0
	eachEngine(2, func(e impl.Engine) {
		if len(e.Timers) == 0 {
			return
		}
		first := e.Timers[0]
		left := first.At - e.Now
		if left > impl.TickMax || first.At > impl.ClockMax {
			return
		}
		slept++
		if left >= 2 {
			early, code := impl.EngineDo(e, ticks(left-1))
			if code != impl.DoFine || !slices.Equal(early.Timers, e.Timers) || !slices.EqualFunc(early.Runs, e.Runs, sameRun) || early.Now != first.At-1 {
				t.Fatalf("%s ahead of its first timer is %s", stands(e), stands(early))
			}
			e = early
		}
		if e.Now == impl.ClockMax {
			return
		}
		after, code := impl.EngineDo(e, ticks(1))
		at := len(e.Runs[first.Run].Hist)
		got := after.Runs[first.Run].Hist[at:]
		if code != impl.DoFine || slices.Contains(after.Timers, first) || len(got) < 2 || got[0] != comes(fired(first.Place)) || got[1].Kind != impl.EventTask {
			t.Fatalf("%s at its first timer is %s, by %s", stands(e), stands(after), oneLine(got))
		}
	})
	if slept < 500 {
		t.Errorf("only %d slept", slept)
	}
}

// Promise 41: a run that waits for another program has one that goes on for it.
func TestPromise41(t *testing.T) {
	waits, told := 0, 0
	for _, d := range doneActs() {
		e, a, next := d.before, d.act, d.after
		for i, r := range next.Runs {
			for place, c := range impl.HistCmds(r.Hist) {
				if c.Kind != impl.CmdChild || !impl.HistOpen(r.Hist) {
					continue
				}
				open := 0
				for _, child := range next.Runs {
					if child.Parent == i && child.Place == place && impl.HistOpen(child.Hist) {
						open++
					}
				}
				want := 0
				if modelIsUnder(r, impl.CmdChild, place) {
					want = 1
					waits++
				} else {
					told++
				}
				if open != want {
					t.Fatalf("%v of %s is %s: %d open for run %d at %d", a, stands(e), stands(next), open, i, place)
				}
			}
		}
	}
	if waits < 1000 || told < 100 {
		t.Errorf("%d wait, %d were told", waits, told)
	}
}

// Promise 42: another program takes the place of one if all that it did goes on.
func TestPromise42(t *testing.T) {
	swapped, not := 0, 0
	d := &dice{99}
	eachEngine(6, func(e impl.Engine) {
		for at, p := range e.Progs {
			same, ok := impl.EngineSwap(e, p)
			if !ok || !sameEngine(same, e) {
				t.Fatalf("%s in its own place is %v of %s", impl.ProgPut(p), ok, stands(e))
			}
			for range 3 {
				q := impl.Prog{Name: p.Name, Steps: d.changedSteps(p.Steps)}
				want := ownOf(e)
				want.Progs[at] = q
				is := modelEngineOk(want)
				got, ok := impl.EngineSwap(e, q)
				if ok != is || impl.EngineOk(want) != is {
					t.Fatalf("%v in the place of %s is %v of %s", q, impl.ProgPut(p), ok, stands(e))
				}
				if !ok {
					want = e
					not++
				} else {
					swapped++
				}
				if !sameEngine(got, want) || !impl.EngineOk(got) {
					t.Fatalf("%v in the place of %s is %s of %s", q, impl.ProgPut(p), stands(got), stands(e))
				}
			}
		}
	})
	if swapped < 500 || not < 500 {
		t.Errorf("%d were swapped, %d not", swapped, not)
	}
}

// Promise 43: a signal that is told is written down, or there is no room for more.
func TestPromise43(t *testing.T) {
	full := 0
	eachEngine(9, func(e impl.Engine) {
		for run, r := range e.Runs {
			if !impl.HistOpen(r.Hist) {
				continue
			}
			m := model{e: e}
			// Up to room for none, if the run goes on so long.
			for x := e; impl.HistOpen(x.Runs[run].Hist); m.e = x {
				next, code := impl.EngineDo(x, signals(run, "zz", num(3)))
				if m.told(run) >= impl.SignalMax {
					if code != impl.DoFull || !sameEngine(next, x) {
						t.Fatalf("a signal to run %d of %s is code %d", run, stands(x), code)
					}
					full++
					break
				}
				at := len(x.Runs[run].Hist)
				got := next.Runs[run].Hist[at:]
				if code != impl.DoFine || len(got) != 2 || got[0] != comes(signal("zz", num(3))) || got[1] != task(0) {
					t.Fatalf("a signal to run %d of %s is code %d, and %s", run, stands(x), code, oneLine(got))
				}
				if full > 30 {
					break
				}
				x = next
			}
		}
	})
	if full < 10 {
		t.Errorf("only %d had no room", full)
	}
}

// Promise 76: whatever is done, all programs are done as far as they go.
func TestPromise76(t *testing.T) {
	for _, d := range doneActs() {
		e, a, next := d.before, d.act, d.after
		for i, r := range next.Runs {
			if impl.HistNews(r.Hist) {
				t.Fatalf("%v of %s is %s: run %d has news", a, stands(e), stands(next), i)
			}
		}
	}
}

// Promise 77: each timer is one that a run asked for that goes on.
func TestPromise77(t *testing.T) {
	timers := 0
	for _, d := range doneActs() {
		e, a, next := d.before, d.act, d.after
		for i, x := range next.Timers {
			if x.Run < 0 || x.Run >= len(next.Runs) {
				t.Fatalf("a timer of no run: %s", stands(next))
			}
			r := next.Runs[x.Run]
			if !modelIsUnder(r, impl.CmdTimer, x.Place) || x.At < next.Now || x.At > next.Now+impl.HistCmds(r.Hist)[x.Place].Arg.Num {
				t.Fatalf("%v of %s is %s", a, stands(e), stands(next))
			}
			if i > 0 && modelOrder(next.Timers[i-1], x) >= 0 {
				t.Fatalf("%v of %s is %s", a, stands(e), stands(next))
			}
			timers++
		}
		due := 0
		for _, r := range next.Runs {
			for _, c := range modelUnder(r) {
				if c.Kind == impl.CmdTimer {
					due++
				}
			}
		}
		if due != len(next.Timers) {
			t.Fatalf("%v of %s is %s", a, stands(e), stands(next))
		}
	}
	if timers < 1000 {
		t.Errorf("only %d timers", timers)
	}
}

// Promise 78: nothing is done to a run that goes on no more, nor to one that is none.
func TestPromise78(t *testing.T) {
	over := 0
	eachEngine(9, func(e impl.Engine) {
		for run := range impl.RunMax {
			want := impl.DoNone
			if run < len(e.Runs) {
				if impl.HistOpen(e.Runs[run].Hist) {
					continue
				}
				want = impl.DoOver
				over++
			}
			for _, a := range []impl.Act{signals(run, "up", num(1)), answers(run, 0, num(1)), refuses(run, 39), cancels(run)} {
				if got := code(t, e, a); got != want {
					t.Fatalf("%v of %s is code %d", a, stands(e), got)
				}
			}
		}
	})
	if over < 500 {
		t.Errorf("only %d are over", over)
	}
}

// Promise 85: a program with an end behind it takes the place of one none of whose runs came to its end without one.
func TestPromise85(t *testing.T) {
	swapped, not := 0, 0
	eachEngine(2, func(e impl.Engine) {
		p := behind(e.Progs[0], done(name("in")))
		if impl.ProgCheck(p) != impl.ProgFine {
			return
		}
		nothing, otherwise := false, false
		for i, r := range e.Runs {
			if r.Prog != p.Name {
				continue
			}
			if o, _ := impl.EngineOut(e, i); o.Status == impl.OutDone && o.Value == (impl.Value{}) {
				nothing = true
			}
			// By the end behind it is done with what it was given, or has no fuel left for that.
			o, whole := modelEnd(e.Progs[0], r.Hist[0].Value, impl.HistCame(r.Hist))
			if whole && (o.Vars[0].Value != impl.Value{} || o.Fuel == impl.FuelMax) {
				otherwise = true
			}
		}
		got, ok := impl.EngineSwap(e, p)
		if !nothing && !ok || ok == otherwise {
			t.Fatalf("%s with an end behind is %v of %s", impl.ProgPut(e.Progs[0]), ok, stands(e))
		}
		want := ownOf(e)
		if ok {
			swapped++
			want.Progs[0] = p
		} else {
			not++
		}
		if !sameEngine(got, want) {
			t.Fatalf("%s with an end behind is %s of %s", impl.ProgPut(e.Progs[0]), stands(got), stands(e))
		}
	})
	if swapped < 500 || not < 20 {
		t.Errorf("%d were swapped, %d not", swapped, not)
	}
}
