package tests

import (
	"slices"
	"strings"
	"testing"

	"loop.example/backstitch/impl"
)

// checkNoKeeper says that a keeper is not ok, and each function tells its one answer.
func checkNoKeeper(t *testing.T, what string, k impl.Keeper) {
	t.Helper()
	if impl.KeeperOk(k) {
		t.Errorf("%s: it is ok", what)
	}
	for _, a := range append(acts("start up 1/signal 4 go1 1/answer 0 0 1/refuse 0 0/cancel 0/tick 1"), impl.Act{}) {
		if next, code := impl.KeeperDo(k, a); code != impl.DoForm || !noKeeper(next) {
			t.Errorf("%s: %v is %s, %d", what, a, kept(next), code)
		}
		for _, bytes := range []int{-1, 0, 9, 1000} {
			if next := impl.KeeperFall(k, a, bytes); !noKeeper(next) {
				t.Errorf("%s: a fall by %v is %s", what, a, kept(next))
			}
		}
	}
}

// keeperBreaks is ways to break wovenKeeper, each one sentence of what is ok alone.
var keeperBreaks = map[string]func(k *impl.Keeper){
	"a log without pieces":       func(k *impl.Keeper) { k.Log = impl.Log{} },
	"a log without acts":         func(k *impl.Keeper) { k.Log = emptyLog() },
	"a log with an empty piece":  func(k *impl.Keeper) { k.Log.Segs = append(k.Log.Segs, "") },
	"a torn log":                 func(k *impl.Keeper) { k.Log = modelTear(k.Log, ticks(1), 5) },
	"a log without its last":     func(k *impl.Keeper) { k.Log = logBut(k.Log, 8) },
	"a log without its first":    func(k *impl.Keeper) { k.Log = logBut(k.Log, 0) },
	"a log without one between":  func(k *impl.Keeper) { k.Log = logBut(k.Log, 4) },
	"a log with one more":        func(k *impl.Keeper) { k.Log = logWith(k.Log, ticks(1)) },
	"a log with one twice":       func(k *impl.Keeper) { k.Log = logWith(k.Log, starts("f", num(1))) },
	"one of no program":          func(k *impl.Keeper) { k.Log = logWith(k.Log, starts("gone", num(1))) },
	"one of no run":              func(k *impl.Keeper) { k.Log = logWith(k.Log, signals(7, "go1", num(1))) },
	"one of a run that is over":  func(k *impl.Keeper) { k.Log = logWith(k.Log, cancels(3)) },
	"one at no call":             func(k *impl.Keeper) { k.Log = logWith(k.Log, answers(0, 1, num(1))) },
	"one ahead of its run":       func(k *impl.Keeper) { k.Log = modelLog(acts("signal 3 go1 5/" + wovenActs)...) },
	"one of another value":       func(k *impl.Keeper) { k.Log = modelLog(acts(strings.Replace(wovenActs, "f 1", "f 2", 1))...) },
	"one of another number":      func(k *impl.Keeper) { k.Log = modelLog(acts(strings.Replace(wovenActs, "tick 7", "tick 6", 1))...) },
	"two in another order":       func(k *impl.Keeper) { k.Log = modelLog(acts("start f 1/start up 1" + wovenActs[20:])...) },
	"another time":               func(k *impl.Keeper) { k.Engine.Now++ },
	"an engine that did nothing": func(k *impl.Keeper) { k.Engine = impl.Engine{Progs: k.Engine.Progs} },
	"no engine":                  func(k *impl.Keeper) { k.Engine = impl.Engine{} },
	"an engine that is not ok":   func(k *impl.Keeper) { k.Engine.Timers = nil },
	"a timer earlier":            func(k *impl.Keeper) { k.Engine.Timers[1].At-- },
	"one run less":               func(k *impl.Keeper) { k.Engine.Runs = k.Engine.Runs[:6]; k.Engine.Timers = k.Engine.Timers[1:] },
	"one run more":               func(k *impl.Keeper) { k.Engine.Runs = append(k.Engine.Runs, overRun(7)) },
	"a run given another thing":  func(k *impl.Keeper) { k.Engine.Runs[6].Hist[0].Value = num(2) },
	"a run for nobody":           func(k *impl.Keeper) { k.Engine.Runs[4].Parent = -1 },
	"a run that was told more": func(k *impl.Keeper) {
		k.Engine.Runs[4].Hist = append(k.Engine.Runs[4].Hist, comes(signal("up", num(1))), task(0))
	},
	"a run of another program":     func(k *impl.Keeper) { k.Engine.Runs[4].Prog = "two" },
	"programs that go on elsewise": func(k *impl.Keeper) { k.Engine.Progs[1].Steps[0].Expr = lit(num(8)) },
	"a program that goes on elsewise in time": func(k *impl.Keeper) {
		k.Engine.Progs[2].Steps = steps(ask(impl.StepGo, "a", "ask", lit(num(1))), bare(impl.StepSleep, lit(num(4))), ask(impl.StepCall, "b", "ask", lit(num(3))))
	},
	"a program that is not there": func(k *impl.Keeper) { k.Engine.Progs = k.Engine.Progs[:3] },
	"a program twice":             func(k *impl.Keeper) { k.Engine.Progs[3] = k.Engine.Progs[0] },
}

// modelLog is a log of acts, which must have room.
func modelLog(list ...impl.Act) impl.Log {
	l := emptyLog()
	for _, a := range list {
		l, _ = modelAdd(l, a)
	}
	return l
}

func logBut(l impl.Log, at int) impl.Log {
	return modelLog(slices.Delete(modelActs(l), at, at+1)...)
}

func logWith(l impl.Log, a impl.Act) impl.Log {
	return modelLog(append(modelActs(l), a)...)
}

func TestKeeperOkBroken(t *testing.T) {
	whole := wovenKeeper(t)
	for what, way := range keeperBreaks {
		k := ownKept(whole)
		k.Engine.Progs = []impl.Prog{}
		for _, p := range whole.Engine.Progs {
			p.Steps = slices.Clone(p.Steps)
			k.Engine.Progs = append(k.Engine.Progs, p)
		}
		way(&k)
		if modelKeeperOk(k) {
			t.Errorf("%s: it is ok by the model", what)
		}
		checkNoKeeper(t, what, k)
	}
	for what, way := range breaks {
		k := ownKept(whole)
		way(&k.Engine)
		checkNoKeeper(t, what, k)
	}
	for what, w := range wrongLogs(t) {
		k := newKeeper(t, whole.Engine.Progs)
		k.Log = w.log
		checkNoKeeper(t, what, k)
	}
	checkNoKeeper(t, "nothing", impl.Keeper{})
	checkNoKeeper(t, "an empty log alone", impl.Keeper{Log: emptyLog()})
	if !impl.KeeperOk(whole) || !modelKeeperOk(whole) {
		t.Error("it is not ok")
	}
}

// Engines that are ok, but not where the acts of the log lead to, by one thing alone.
func TestKeepersOfOtherEngines(t *testing.T) {
	progs := progsOf(t, "up: child a = down(1); child b = down(1); wait c = go1;", "down: done in;", "like: done in;", "f: sleep 5;")
	whole := keep(t, newKeeper(t, progs), acts("start up 1/start f 1/tick 2/start down 1/start f 1")...)
	if got := stands(whole.Engine); got != "2; 0 up waits signal go1; 1 down for 0.0 done 1; 2 down for 0.1 done 1; 3 f waits place 0; 4 down done 1; 5 f waits place 0; 3.0@5; 5.0@7" {
		t.Fatalf("it is %s", got)
	}
	for what, way := range map[string]func(e *impl.Engine){
		"the time":       func(e *impl.Engine) { e.Now = 3 },
		"a program":      func(e *impl.Engine) { e.Runs[4].Prog = "like" },
		"a Parent":       func(e *impl.Engine) { e.Runs[4].Parent = 0 },
		"no Parent":      func(e *impl.Engine) { e.Runs[1].Parent = -1 },
		"a Place":        func(e *impl.Engine) { e.Runs[2].Place = 0 },
		"what was given": func(e *impl.Engine) { e.Runs[4].Hist = events("start 2/task 1/cmd 4  2") },
		"a history":      func(e *impl.Engine) { e.Runs[0].Hist = append(e.Runs[0].Hist, events("came 4 0 ok x 1/task 0")...) },
		"a timer":        func(e *impl.Engine) { e.Timers[1].At = 6 },
		"one run more":   func(e *impl.Engine) { e.Runs = append(e.Runs, e.Runs[4]); e.Runs[6].Id = 6 },
		"one run less":   func(e *impl.Engine) { e.Runs, e.Timers = e.Runs[:5], e.Timers[:1] },
	} {
		k := ownKept(whole)
		way(&k.Engine)
		if !impl.EngineOk(k.Engine) || modelKeeperOk(k) {
			t.Errorf("%s: it is %s", what, kept(k))
		}
		checkNoKeeper(t, what, k)
	}
}

// Keepers that are as well as any other.
func TestKeeperOkOfChanged(t *testing.T) {
	whole := wovenKeeper(t)
	for what, way := range map[string]func(k *impl.Keeper){
		"nothing":              func(k *impl.Keeper) {},
		"a piece for each act": func(k *impl.Keeper) { k.Log.Segs = strings.SplitAfter(strings.Join(k.Log.Segs, ""), "\n")[:9] },
		"time in two acts": func(k *impl.Keeper) {
			k.Log = modelLog(acts(strings.Replace(wovenActs, "tick 7", "tick 3/tick 4", 1))...)
		},
		"two acts in other order": func(k *impl.Keeper) {
			k.Log = modelLog(acts(strings.Replace(wovenActs, "tick 2/start one 1", "start one 1/tick 2", 1))...)
		},
		"programs in other order":  func(k *impl.Keeper) { slices.Reverse(k.Engine.Progs) },
		"another program that did": func(k *impl.Keeper) { k.Engine.Progs[0] = progsOf(t, swaps[0].prog, swaps[1].prog)[1] },
		"an engine that did nothing": func(k *impl.Keeper) {
			*k = impl.Keeper{Engine: impl.Engine{Progs: k.Engine.Progs, Runs: []impl.Run{}, Timers: []impl.Timer{}}, Log: emptyLog()}
		},
	} {
		k := ownKept(whole)
		way(&k)
		if !impl.KeeperOk(k) || !modelKeeperOk(k) {
			t.Errorf("%s: it is not ok", what)
		}
		for _, a := range acts("start up 1/signal 4 go1 1/answer 6 0 1/cancel 0/tick 9/cancel 3") {
			next, code := impl.KeeperDo(k, a)
			want, is := modelKeep(k, a)
			if code != is || !sameKeeper(next, want) || !impl.KeeperOk(next) {
				t.Errorf("%s: %v is %s, %d", what, a, kept(next), code)
			}
			if fell := impl.KeeperFall(k, a, 9); !sameKeeper(fell, k) {
				t.Errorf("%s: a fall by %v is %s", what, a, kept(fell))
			}
		}
	}
}

// Each code, with a log that has room and with one that has none: a log without room is the last that is looked at.
func TestKeeperCodes(t *testing.T) {
	k, full := wovenKeeper(t), fullKeeper(t)
	if n := len(full.Log.Segs); n != impl.LogMax || len(impl.LogActs(full.Log)) < 200 || !impl.KeeperOk(full) {
		t.Fatalf("it has %d pieces", n)
	}
	late := impl.Keeper{Engine: impl.Engine{Progs: k.Engine.Progs}, Log: emptyLog()}
	for range impl.ClockMax / impl.TickMax {
		late = keep(t, late, ticks(impl.TickMax))
	}
	crowded := keep(t, k, acts("start one 1")...)
	for _, c := range []struct {
		k    impl.Keeper
		act  impl.Act
		code int
	}{
		{k, starts("one", num(1)), impl.DoFine},
		{k, ticks(1), impl.DoFine},
		{k, answers(2, 2, num(1)), impl.DoFine},
		{k, ticks(0), impl.DoForm},
		{k, starts("gone", num(1)), impl.DoNone},
		{k, cancels(7), impl.DoNone},
		{k, cancels(1), impl.DoOver},
		{k, answers(0, 1, num(1)), impl.DoCmd},
		{late, ticks(1), impl.DoFull},
		{crowded, starts("one", num(1)), impl.DoFull},
		{full, starts("up", num(1)), impl.DoFull},
		{full, answers(0, 0, num(1)), impl.DoFull},
		{full, cancels(0), impl.DoFull},
		{full, ticks(1), impl.DoFull},
		{full, ticks(impl.TickMax), impl.DoFull},
		{full, signals(0, "go1", text(fullText)), impl.DoFull},
		{full, ticks(0), impl.DoForm},
		{full, impl.Act{}, impl.DoForm},
		{full, starts("gone", num(1)), impl.DoNone},
		{full, cancels(2), impl.DoNone},
		{full, cancels(1), impl.DoOver},
		{full, answers(0, 1, num(1)), impl.DoCmd},
	} {
		next, code := impl.KeeperDo(c.k, c.act)
		if code != c.code || code != impl.DoFine && !sameKeeper(next, c.k) {
			t.Errorf("%v of %s is code %d, and %s", c.act, kept(c.k), code, kept(next))
		}
		if code == impl.DoFine {
			continue
		}
		for _, bytes := range []int{-1, 0, 9, 1000} {
			if fell := impl.KeeperFall(c.k, c.act, bytes); !sameKeeper(fell, c.k) {
				t.Errorf("a fall by %v of %s is %s", c.act, kept(c.k), kept(fell))
			}
		}
	}
	for i, a := range wrongActs() {
		keepers := []impl.Keeper{k}
		if i%8 == 0 {
			keepers = append(keepers, full)
		}
		for _, k := range keepers {
			if next, code := impl.KeeperDo(k, a); code != impl.DoForm || !sameKeeper(next, k) {
				t.Errorf("%v is code %d", a, code)
			}
			if fell := impl.KeeperFall(k, a, 9); !sameKeeper(fell, k) {
				t.Errorf("a fall by %v is %s", a, kept(fell))
			}
		}
	}
}

// What has no room in the log is not done, what is short enough still is.
func TestKeeperWithLittleRoom(t *testing.T) {
	k := newKeeper(t, progsOf(t, "up: wait a = go1; done a;"))
	k = keep(t, k, starts("up", num(1)))
	first := k.Log.Segs[0]
	// A piece for each tick, but the last, which has room for one record of 40 bytes.
	for range impl.LogMax - 2 {
		k = keep(t, k, ticks(1))
	}
	k = keep(t, k, ticks(2))
	segs := []string{first}
	for range impl.LogMax - 2 {
		segs = append(segs, modelRecord(ticks(1)))
	}
	last := modelRecord(ticks(2))
	for len(last) < impl.SegMax-100 {
		last += modelRecord(ticks(1))
		k = keep(t, k, ticks(1))
	}
	k.Log.Segs = append(segs, last)
	if !impl.KeeperOk(k) {
		t.Fatalf("it is not ok: %s", kept(k))
	}
	for fine := 0; ; fine++ {
		long, code := impl.KeeperDo(k, signals(0, "abcdefghij", text(fullText)))
		short, is := impl.KeeperDo(k, ticks(1))
		if is == impl.DoFull {
			if fine < 2 || code != impl.DoFull || !sameKeeper(long, k) || !sameKeeper(short, k) {
				t.Errorf("behind %d it is code %d, %d", fine, code, is)
			}
			break
		}
		if room := impl.SegMax - len(k.Log.Segs[impl.LogMax-1]); code == impl.DoFull != (room < 60) {
			t.Errorf("with room for %d bytes it is code %d", room, code)
		}
		k = short
	}
}

func TestKeeperNewOfWrong(t *testing.T) {
	wrong := [][]impl.Prog{nil, {}, setOf(impl.SetMax + 1), append(setOf(1), setOf(1)...), {{}}, {ringProg("up")}}
	for _, p := range notFine() {
		wrong = append(wrong, []impl.Prog{p}, append(setOf(1), p))
	}
	for _, progs := range wrong {
		if k, ok := impl.KeeperNew(progs); ok || !noKeeper(k) {
			t.Errorf("KeeperNew of %v is %s, %v", progs, kept(k), ok)
		}
		for _, l := range []impl.Log{emptyLog(), modelLog(ticks(1)), {}} {
			if k, ok := impl.KeeperRise(progs, l); ok || !noKeeper(k) {
				t.Errorf("KeeperRise of %v is %s, %v", progs, kept(k), ok)
			}
		}
		for _, falls := range [][]int{nil, {0}} {
			if k := impl.KeeperPlay(progs, acts("tick 1"), falls); !noKeeper(k) {
				t.Errorf("KeeperPlay of %v is %s", progs, kept(k))
			}
		}
		k := impl.Keeper{Engine: impl.Engine{Progs: progs}, Log: emptyLog()}
		if impl.KeeperOk(k) {
			t.Errorf("a keeper of %v is ok", progs)
		}
	}
	for n := range impl.SetMax {
		if k, ok := impl.KeeperNew(setOf(n + 1)); !ok || len(k.Engine.Progs) != n+1 || !impl.KeeperOk(k) {
			t.Errorf("KeeperNew of %d programs is %v", n+1, ok)
		}
	}
}

func TestKeeperRiseOfWrong(t *testing.T) {
	progs := wovenEngine(t).Progs
	for what, w := range wrongLogs(t) {
		k, ok := impl.KeeperRise(progs, w.log)
		want, is := modelRise(progs, w.log)
		if ok != is || !sameKeeper(k, want) || !w.mends && ok {
			t.Errorf("%s: KeeperRise is %s, %v", what, kept(k), ok)
		}
	}
	for _, c := range []struct {
		acts string
		ok   bool
	}{
		{"start up 1", true}, {"tick 1", true}, {wovenActs, true}, {wovenActs + "/start one 1", true},
		{"start gone 1", false}, {"start up 1/start gone 1", false}, {"start gone 1/start up 1", false}, {"start up 1/start gone 1/start up 1", false},
		{"cancel 0", false}, {"start up 1/cancel 2", false}, {"start one 1/cancel 0", true}, {"start one 1/cancel 0/cancel 0", false},
		{"start up 1/answer 0 0 1", true}, {"start up 1/answer 0 0 1/answer 0 0 1", false}, {"start up 1/answer 0 1 1", false},
		{wovenActs + "/start one 1/start one 1", false}, {wovenActs + "/start one 1/tick 1", true},
		{strings.Repeat("tick 1000/", 100), true}, {strings.Repeat("tick 1000/", 101), false},
		{"start one 1" + strings.Repeat("/signal 0 other 1", impl.SignalMax), true}, {"start one 1" + strings.Repeat("/signal 0 other 1", impl.SignalMax+1), false},
	} {
		l := modelLog(acts(c.acts)...)
		k, ok := impl.KeeperRise(progs, l)
		want, is := modelRise(progs, l)
		if ok != c.ok || is != c.ok || !sameKeeper(k, want) || ok && !sameLog(k.Log, l) {
			t.Errorf("%q: KeeperRise is %s, %v", c.acts, kept(k), ok)
		}
		// What is torn behind it is not done, even if it could not be.
		l.Segs[len(l.Segs)-1] += modelRecord(starts("gone", num(1)))[:20]
		if again, ok := impl.KeeperRise(progs, l); ok != c.ok || !sameKeeper(again, k) {
			t.Errorf("%q torn: KeeperRise is %s, %v", c.acts, kept(again), ok)
		}
	}
	// A log of acts of other programs.
	if k, ok := impl.KeeperRise(setOf(2), wovenKeeper(t).Log); ok || !noKeeper(k) {
		t.Errorf("KeeperRise is %s, %v", kept(k), ok)
	}
}

// 40 acts, and one more; falls at each place, and at none.
func TestLimitsOfKeeperPlay(t *testing.T) {
	progs := progsOf(t, "up: wait a = go1; done a;")
	list := slices.Repeat([]impl.Act{ticks(1)}, 40)
	if k := impl.KeeperPlay(progs, list, nil); k.Engine.Now != 40 || len(impl.LogActs(k.Log)) != 40 {
		t.Errorf("40 acts are %s", kept(k))
	}
	for _, many := range []int{41, 60, 1000000} {
		for _, falls := range [][]int{nil, {0}, {40}} {
			k := impl.KeeperPlay(progs, slices.Repeat([]impl.Act{ticks(1)}, many), falls)
			if want := newKeeper(t, progs); !sameKeeper(k, want) {
				t.Errorf("%d acts are %s", many, kept(k))
			}
		}
	}
	// 7 bytes more for each place, up to 40: as little as nothing, and as much as all.
	size, whole := len(modelRecord(ticks(1))), 0
	for place := range 40 {
		bytes := 0
		for range place {
			bytes = (bytes + 7) % 40
		}
		want := 39
		if bytes >= size {
			want = 40
			whole++
		}
		for _, falls := range [][]int{{place}, {place, place}, {-1, place, 40}} {
			if k := impl.KeeperPlay(progs, list, falls); k.Engine.Now != want || len(impl.LogActs(k.Log)) != want {
				t.Errorf("a fall at %d is %s", place, kept(k))
			}
		}
	}
	if whole < 5 || whole > 20 {
		t.Errorf("%d of 40 are kept", whole)
	}
	all := make([]int, 40)
	for i := range all {
		all[i] = i
	}
	if k := impl.KeeperPlay(progs, list, all); k.Engine.Now != whole || !impl.KeeperOk(k) {
		t.Errorf("falls everywhere are %s", kept(k))
	}
	if k := impl.KeeperPlay(progs, nil, []int{0, 1}); !sameKeeper(k, newKeeper(t, progs)) {
		t.Errorf("no acts are %s", kept(k))
	}
}
