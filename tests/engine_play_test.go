package tests

import (
	"slices"
	"strings"
	"sync"
	"testing"

	"loop.example/backstitch/impl"
)

// wovenSets is programs that ask for each other in all ways that there are.
var wovenSets = [][]string{
	{"order: call paid = pay(in); if (paid == none) { fail \"unpaid\"; } go box = pack(in); sleep 5; join got = box; wait word = up; done word;", "count: let n = in; while (n < 3) { wait more = up; set n = (n + more); } if (n < 9) { again (n + 5); } done n;", "pair: child a = order(in); child b = count(7); done b;"},
	{"up: child a = down(in); done (a + 1);", "down: sleep in; call b = f(in); done b;"},
	{"up: child a = up((in - 1)); done a;", "down: if in { child a = down((in - 1)); done (a + 1); } done 0;", "f: child a = gone(in); child b = down(2); done a;"},
	{"up: sleep 2; again in;", "down: child a = up(in); sleep 1; done a;", "f: sleep 0; sleep 2; sleep 0; wait a = up; again (in + 1);"},
	{"up: while 1 { sleep 1; wait a = up; }", "down: child a = f(in); child b = f(a); wait c = up; fail c;", "f: wait a = up; if a { again a; } fail in;", "one: go a = f(in); go b = f(in); go c = f(in); sleep 3; join d = b; done d;"},
	{"up: again in;", "down: child a = up(in); done a;"},
	{"one: wait a = up; child b = two(a); child c = two(b); child d = two(c); done (d + 1);", "two: sleep in; if (in < 2) { again (in + 1); } done in;"},
}

// progress is an act that lets an open run go on.
func (d *dice) progress(e impl.Engine, r impl.Run, v impl.Value) impl.Act {
	at := slices.IndexFunc(e.Progs, func(p impl.Prog) bool { return p.Name == r.Prog })
	o, _ := modelReplay(e.Progs[at], r.Hist)
	if !modelOpen(r.Hist) {
		return starts(e.Progs[d.upTo(len(e.Progs))].Name, v)
	}
	if what, ok := strings.CutPrefix(o.On, "signal "); ok {
		return signals(r.Id, what, v)
	}
	c := wanted(o, v)
	if c.Kind != impl.CameAnswer {
		return ticks(1 + d.upTo(4))
	}
	if d.upTo(6) == 0 {
		return refuses(r.Id, c.Place)
	}
	return answers(r.Id, c.Place, v)
}

// cancelled is a run to be called off: any, the one that it is for, or one that is for a run that is over.
func (d *dice) cancelled(e impl.Engine) int {
	r := e.Runs[d.upTo(len(e.Runs))]
	left := slices.IndexFunc(e.Runs, func(r impl.Run) bool {
		return r.Parent >= 0 && modelOpen(r.Hist) && !modelOpen(e.Runs[r.Parent].Hist)
	})
	if left >= 0 && d.upTo(2) == 0 {
		return left
	}
	return []int{r.Id, max(r.Parent, 0)}[d.upTo(2)]
}

// throwAct is an act; most may be done.
func (d *dice) throwAct(e impl.Engine) impl.Act {
	v := []impl.Value{num(0), num(1), num(2), num(d.upTo(9)), text("x"), {}}[d.upTo(6)]
	wrong := wrongActs()
	some := []string{"up", "down", "f", "one", "gone"}[d.upTo(5)]
	switch k := d.upTo(40); {
	case len(e.Runs) == 0 && k > 2 || k < 5:
		return starts(e.Progs[d.upTo(len(e.Progs))].Name, v)
	case k == 5:
		return starts(some, v)
	case k < 9:
		return signals(d.upTo(len(e.Runs)+1), some, v)
	case k < 11:
		return answers(d.upTo(impl.RunMax), d.upTo(6), v)
	case k == 11:
		return cancels(d.upTo(impl.RunMax))
	case k < 14 && len(e.Runs) > 0:
		return cancels(d.cancelled(e))
	case k == 14:
		return wrong[d.upTo(len(wrong))]
	case k < 19 || len(e.Runs) == 0:
		return ticks([]int{1, 2, 5, impl.TickMax}[d.upTo(4)])
	}
	return d.progress(e, e.Runs[d.upTo(len(e.Runs))], v)
}

// play is acts done to programs, with the engine ahead of each, and behind all.
type play struct {
	progs   []impl.Prog
	acts    []impl.Act
	codes   []int
	engines []impl.Engine
}

func (d *dice) throwPlay(progs []impl.Prog, many int, met map[string]int) play {
	e := impl.Engine{Progs: progs}
	g := play{progs: progs, engines: []impl.Engine{e}}
	for range many {
		a := d.throwAct(e)
		next, code := modelDo(e, a, met)
		g.acts, g.codes, g.engines = append(g.acts, a), append(g.codes, code), append(g.engines, next)
		e = next
	}
	return g
}

// throwSet is programs of unlike names, thrown by dice.
func (d *dice) throwSet() []impl.Prog {
	names := []string{"up", "down", "f", "one"}
	first := d.upTo(len(names))
	var progs []impl.Prog
	for i := range 1 + d.upTo(impl.SetMax) {
		p := livelyProg(d.upTo(3000))
		p.Name = names[(first+i)%len(names)]
		progs = append(progs, p)
	}
	return progs
}

// met counts what the plays met.
var met = map[string]int{}

// plays is engines of many forms, each with acts that lead to it.
var plays = sync.OnceValue(func() []play {
	var list []play
	for i, set := range wovenSets {
		var progs []impl.Prog
		for _, s := range set {
			called, body, _ := strings.Cut(s, ":")
			p, ok := impl.ProgGet("program " + called + " {" + body + "}")
			if !ok {
				panic(s)
			}
			progs = append(progs, p)
		}
		for seed := range 80 {
			d := &dice{uint32(seed*7+i)*104729 + 3}
			list = append(list, d.throwPlay(progs, 5+d.upTo(35), met))
		}
	}
	for seed := range 300 {
		d := &dice{uint32(seed)*7919 + 5}
		list = append(list, d.throwPlay(d.throwSet(), 5+d.upTo(25), met))
	}
	return list
})

// doneAct is an act that was done to an engine of the plays, and what came of it.
type doneAct struct {
	before impl.Engine
	act    impl.Act
	after  impl.Engine
	code   int
}

// doneActs is all acts of the plays, each done to the engine ahead of it.
var doneActs = sync.OnceValue(func() []doneAct {
	var list []doneAct
	for _, g := range plays() {
		for i, a := range g.acts {
			next, code := impl.EngineDo(g.engines[i], a)
			list = append(list, doneAct{g.engines[i], a, next, code})
		}
	}
	return list
})

// eachEngine does something with each unlike engine of some of the plays, one of so many.
func eachEngine(every int, do func(e impl.Engine)) {
	n := 0
	for _, g := range plays() {
		for i, e := range g.engines {
			if i > 0 && g.codes[i-1] != impl.DoFine {
				continue
			}
			if n%every == 0 {
				do(e)
			}
			n++
		}
	}
}

func TestEngineDoOfPlays(t *testing.T) {
	codes := map[int]int{}
	for _, g := range plays() {
		e, ok := impl.EngineNew(g.progs)
		if !ok || !sameEngine(e, g.engines[0]) {
			t.Fatalf("EngineNew is %s, %v", stands(e), ok)
		}
		for i, a := range g.acts {
			next, code := impl.EngineDo(e, a)
			if code != g.codes[i] || !sameEngine(next, g.engines[i+1]) {
				t.Fatalf("%v of %s\n is %s, %d\nnot %s, %d", a, stands(e), stands(next), code, stands(g.engines[i+1]), g.codes[i])
			}
			codes[code]++
			e = next
		}
	}
	for code := impl.DoFine; code <= impl.DoFull; code++ {
		if codes[code] < 50 {
			t.Errorf("code %d only %d times", code, codes[code])
		}
	}
	for _, s := range []string{"child", "child without room", "child of no program", "again", "again for another one", "again without room for one that waits", "done for one that waits", "done for one that is over", "failed for one that waits", "failed for one that is over", "called off for one that waits", "called off for one that is over", "timers at one time"} {
		if met[s] < 5 {
			t.Errorf("%s only %d times", s, met[s])
		}
	}
}
