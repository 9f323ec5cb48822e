package tests

import (
	"slices"
	"sync"
	"testing"

	"loop.example/backstitch/impl"
)

// modelReplay is Replay of what is ok, all being looked for anew at each task.
func modelReplay(p impl.Prog, list []impl.Event) (impl.Out, int) {
	var out impl.Out
	for at, e := range list {
		if e.Kind != impl.EventTask {
			continue
		}
		var all []impl.Came
		for _, c := range only(list[:at], impl.EventCame) {
			all = append(all, c.Came)
		}
		out = modelOf(p, list[0].Value, all)
		n := 0
		for place, e := range list[:at+1+e.Many] {
			if e.Kind != impl.EventCmd {
				continue
			}
			if n >= len(out.Cmds) || out.Cmds[n] != e.Cmd {
				return out, place
			}
			n++
		}
		if n < len(out.Cmds) {
			return out, at
		}
	}
	return out, -1
}

// modelNext is ReplayNext of what is ok.
func modelNext(p impl.Prog, list []impl.Event) ([]impl.Event, bool) {
	last := lastKind(list)
	if _, at := modelReplay(p, list); at != -1 || last != impl.EventStart && last != impl.EventCame {
		return nil, false
	}
	var all []impl.Came
	for _, c := range only(list, impl.EventCame) {
		all = append(all, c.Came)
	}
	fresh := modelOf(p, list[0].Value, all).Cmds[len(only(list, impl.EventCmd)):]
	next := []impl.Event{task(len(fresh))}
	for _, c := range fresh {
		next = append(next, asks(c.Kind, c.Name, c.Arg))
	}
	return next, true
}

// batched is a history of a program that is done not each time that something comes; it may have news, or be called off.
func (d *dice) batched(g given) []impl.Event {
	list := []impl.Event{began(g.in)}
	for _, c := range g.came {
		if d.upTo(2) == 0 {
			next, _ := modelNext(g.prog, list)
			list = append(list, next...)
		}
		if more := append(slices.Clip(list), comes(c)); modelHist(more) {
			list = more
		}
	}
	if !modelOpen(list) {
		return list
	}
	switch d.upTo(4) {
	case 0:
		return append(list, calledOff())
	case 1:
		next, _ := modelNext(g.prog, list)
		return append(list, next...)
	}
	return list
}

// changedSteps is steps one of which, at any depth, is left out, another one, or has something ahead of it.
func (d *dice) changedSteps(list []impl.Step) []impl.Step {
	list = slices.Clone(list)
	at := d.upTo(len(list))
	s := &list[at]
	if len(s.Body) > 0 && d.upTo(2) == 0 {
		s.Body = d.changedSteps(s.Body)
		return list
	}
	ahead := []impl.Step{ask(impl.StepGo, "zz", "f", lit(num(1))), wait("zz", "up"), bare(impl.StepSleep, lit(num(1))), done(name("in")), ask(impl.StepCall, "zz", "f", name("in")), let("zz", lit(num(1)))}
	switch d.upTo(6) {
	case 0:
		if len(list) > 1 {
			return slices.Delete(list, at, at+1)
		}
	case 1:
		s.What = "other"
	case 2:
		s.Expr = lit(num(d.upTo(5)))
	case 3:
		s.Kind = []int{impl.StepCall, impl.StepGo, impl.StepChild, impl.StepDone, impl.StepFail, impl.StepSleep, impl.StepIf, impl.StepWhile}[d.upTo(8)]
	default:
		return slices.Insert(list, at, ahead[d.upTo(len(ahead))])
	}
	return list
}

// retold is a program with a history of another one, or its own.
type retold struct {
	prog impl.Prog
	hist []impl.Event
}

// retolds is histories, each with its own program, and others that are alike.
var retolds = sync.OnceValue(func() []retold {
	var list []retold
	all := givens()
	for i, g := range all {
		d := &dice{uint32(i)*53 + 11}
		told := [][]impl.Event{modelAll(g), d.batched(g)}
		if i%3 == 0 {
			told = append(told, d.changed(told[1]))
		}
		for _, hist := range told {
			if !modelHist(hist) {
				continue
			}
			list = append(list, retold{g.prog, hist}, retold{all[d.upTo(len(all))].prog, hist})
			for range 3 {
				if p := (impl.Prog{Name: "one", Steps: d.changedSteps(g.prog.Steps)}); impl.ProgCheck(p) == impl.ProgFine {
					list = append(list, retold{p, hist})
				}
			}
		}
	}
	return list
})

func TestReplayOfRetolds(t *testing.T) {
	kinds, next := map[string]int{}, 0
	for i, r := range retolds() {
		o, at := impl.Replay(r.prog, r.hist)
		want, place := modelReplay(r.prog, r.hist)
		if at != place || !sameOut(o, want) {
			t.Fatalf("%s by %s\n is %s, %d\nnot %s, %d", impl.ProgPut(r.prog), written(r.hist), shown(o), at, shown(want), place)
		}
		switch {
		case at == -1:
			kinds["as it was"]++
		case r.hist[at].Kind == impl.EventTask:
			kinds["too few"]++
		case len(o.Cmds) < len(only(r.hist[:at+1], impl.EventCmd)):
			kinds["too many"]++
		default:
			kinds["not the same"]++
		}
		if i%3 > 0 {
			continue
		}
		if impl.ReplayOk(r.prog, r.hist) != (at == -1) {
			t.Fatalf("%s by %s is ok: %v", impl.ProgPut(r.prog), written(r.hist), at != -1)
		}
		more, ok := impl.ReplayNext(r.prog, r.hist)
		list, is := modelNext(r.prog, r.hist)
		if ok != is || !slices.Equal(more, list) {
			t.Fatalf("%s by %s goes on by %s, not %s", impl.ProgPut(r.prog), written(r.hist), written(more), written(list))
		}
		if ok {
			next++
		}
	}
	for _, kind := range []string{"as it was", "too few", "too many", "not the same"} {
		if kinds[kind] < 1000 {
			t.Errorf("%s only %d times", kind, kinds[kind])
		}
	}
	if next < 300 {
		t.Errorf("only %d go on", next)
	}
}

// eachAll does something with the history of each program by what comes for it.
func eachAll(do func(g given, list []impl.Event)) {
	for _, g := range givens() {
		do(g, impl.ReplayAll(g.prog, g.in, g.came))
	}
}

// Promise 24: a program done again from what was written down is where it was.
func TestPromise24(t *testing.T) {
	eachAll(func(g given, list []impl.Event) {
		if !slices.Equal(list, modelAll(g)) {
			t.Fatalf("%s by %v is written down as %s", g.tell(), g.came, written(list))
		}
		o, at := impl.Replay(g.prog, list)
		want := impl.Exec(g.prog, g.in, impl.HistCame(list))
		if at != -1 || !sameOut(o, want) || !impl.ReplayOk(g.prog, list) {
			t.Fatalf("%s by %s is %s, %d, not %s", g.tell(), written(list), shown(o), at, shown(want))
		}
		if impl.HistOpen(list) != (o.Status == impl.OutWaits) || !slices.Equal(impl.HistCmds(list), o.Cmds) || impl.HistNews(list) {
			t.Fatalf("%s is %s, and written down as %s", g.tell(), shown(o), written(list))
		}
	})
}

// Promise 25: at each task a program done again is where it was.
func TestPromise25(t *testing.T) {
	eachAll(func(g given, list []impl.Event) {
		for n := range impl.HistTasks(list) {
			cut := impl.HistCut(list, n+1)
			o, at := impl.Replay(g.prog, cut)
			if want := impl.Exec(g.prog, g.in, impl.HistCame(cut)); at != -1 || !sameOut(o, want) {
				t.Fatalf("%s by %s is %s, %d, not %s", g.tell(), written(cut), shown(o), at, shown(want))
			}
		}
	})
}

// Promise 26: another program is found out at the first thing that it asks otherwise.
func TestPromise26(t *testing.T) {
	found, late := 0, 0
	for i, r := range retolds() {
		_, at := impl.Replay(r.prog, r.hist)
		if at == -1 && i%10 > 0 {
			continue
		}
		for n := range impl.HistTasks(r.hist) {
			cut := impl.HistCut(r.hist, n+1)
			want := at == -1 || len(cut) <= at
			if impl.ReplayOk(r.prog, cut) != want {
				t.Fatalf("%s by %s is found out at %d, and ok by %d tasks: %v", impl.ProgPut(r.prog), written(r.hist), at, n+1, !want)
			}
			if want && at != -1 {
				late++
			}
			if !want {
				found++
				break
			}
		}
	}
	if found < 3000 || late < 1000 {
		t.Errorf("%d were found out, %d times later", found, late)
	}
}

// Promise 27: a program done once more, as far as it goes, has no news, and its history is its own.
func TestPromise27(t *testing.T) {
	went := 0
	for i, g := range givens() {
		d := &dice{uint32(i)*71 + 13}
		list := d.batched(g)
		next, ok := impl.ReplayNext(g.prog, list)
		if ok != impl.HistNews(list) {
			t.Fatalf("%s by %s goes on: %v", g.tell(), written(list), ok)
		}
		if !ok {
			continue
		}
		went++
		more := append(slices.Clip(list), next...)
		if !impl.HistOk(more) || !impl.ReplayOk(g.prog, more) || impl.HistNews(more) || next[0] != task(len(next)-1) {
			t.Fatalf("%s by %s goes on by %s", g.tell(), written(list), written(next))
		}
		if again, ok := impl.ReplayNext(g.prog, more); ok || len(again) != 0 {
			t.Fatalf("%s by %s goes on by %s, and again by %s", g.tell(), written(list), written(next), written(again))
		}
	}
	if went < 1000 {
		t.Errorf("only %d went on", went)
	}
}

// Promise 28: in whatever order answers come, the end is the same.
func TestPromise28(t *testing.T) {
	moved := 0
	eachAll(func(g given, list []impl.Event) {
		all := impl.HistCame(list)
		var signals, others []impl.Came
		for _, c := range all {
			if c.Kind == impl.CameSignal {
				signals = append(signals, c)
			} else {
				others = append(others, c)
			}
		}
		slices.Reverse(others)
		turned := slices.Concat(signals, others)
		if !slices.Equal(turned, all) {
			moved++
		}
		if o, want := impl.Exec(g.prog, g.in, turned), impl.Exec(g.prog, g.in, all); !sameOut(o, want) {
			t.Fatalf("%s by %v is %s, not %s", g.tell(), turned, shown(o), shown(want))
		}
	})
	if moved < 500 {
		t.Errorf("only %d came in another order", moved)
	}
}

// Promise 29: whether all comes at once or one by one, a program ends as it ends.
func TestPromise29(t *testing.T) {
	eachAll(func(g given, list []impl.Event) {
		if again := impl.ReplayAll(g.prog, g.in, impl.HistCame(list)); !slices.Equal(again, list) {
			t.Fatalf("%s by %s is %s", g.tell(), written(list), written(again))
		}
		// All at once: one task takes it, and stands where the last did.
		once := []impl.Event{began(g.in)}
		var late []impl.Came
		for _, c := range impl.HistCame(list) {
			if c.Kind == impl.CameSignal {
				once = append(once, comes(c))
			} else {
				late = append(late, c)
			}
		}
		if len(late) > 0 {
			return
		}
		next, ok := impl.ReplayNext(g.prog, once)
		o, at := impl.Replay(g.prog, append(once, next...))
		if want, _ := impl.Replay(g.prog, list); !ok || at != -1 || !sameOut(o, want) {
			t.Fatalf("%s by %s at once is %s, not %s", g.tell(), written(once), shown(o), shown(want))
		}
	})
}

// Promise 74: a program is done once as it begins, and once for each thing that comes.
func TestPromise74(t *testing.T) {
	eachAll(func(g given, list []impl.Event) {
		if impl.HistTasks(list) != 1+len(impl.HistCame(list)) || len(list) < 2 || list[0] != began(g.in) || list[1].Kind != impl.EventTask {
			t.Fatalf("%s is written down as %s", g.tell(), written(list))
		}
		for at, e := range list {
			if e.Kind == impl.EventCame && (at+1 == len(list) || list[at+1].Kind != impl.EventTask) {
				t.Fatalf("%s is written down as %s", g.tell(), written(list))
			}
		}
	})
}

// Promise 75: a program that has more behind goes on with what was written down, as long as it waits.
func TestPromise75(t *testing.T) {
	open := 0
	eachAll(func(g given, list []impl.Event) {
		more := behind(g.prog, done(name("in")))
		if impl.ProgCheck(more) != impl.ProgFine {
			return
		}
		for n := range impl.HistTasks(list) {
			cut := impl.HistCut(list, n+1)
			if !impl.HistOpen(cut) {
				continue
			}
			open++
			o, at := impl.Replay(more, cut)
			if want, _ := impl.Replay(g.prog, cut); at != -1 || !impl.ReplayOk(more, cut) || !sameOut(o, want) {
				t.Fatalf("%s with an end behind by %s is %s, %d", g.tell(), written(cut), shown(o), at)
			}
		}
	})
	if open < 1000 {
		t.Errorf("only %d are open", open)
	}
}
