package tests

import (
	"fmt"
	"slices"
	"sync"
	"testing"

	"loop.example/backstitch/impl"
)

func sameKeeper(a, b impl.Keeper) bool {
	return sameEngine(a.Engine, b.Engine) && sameLog(a.Log, b.Log)
}

func noKeeper(k impl.Keeper) bool {
	return sameKeeper(k, impl.Keeper{})
}

// ownKept is a keeper that may be changed, without another one being changed with it.
func ownKept(k impl.Keeper) impl.Keeper {
	return impl.Keeper{Engine: ownOf(k.Engine), Log: impl.Log{Segs: slices.Clone(k.Log.Segs)}}
}

// kept tells how a keeper stands.
func kept(k impl.Keeper) string {
	return fmt.Sprintf("%s by %q", stands(k.Engine), k.Log.Segs)
}

// newKeeper is a keeper of programs that must be ok.
func newKeeper(t *testing.T, progs []impl.Prog) impl.Keeper {
	t.Helper()
	k, ok := impl.KeeperNew(progs)
	if !ok {
		t.Fatal("KeeperNew is false")
	}
	return k
}

// keep does acts to a keeper, all of which must be fine.
func keep(t *testing.T, k impl.Keeper, list ...impl.Act) impl.Keeper {
	t.Helper()
	for _, a := range list {
		next, code := impl.KeeperDo(k, a)
		if code != impl.DoFine {
			t.Fatalf("%v of %s is code %d", a, kept(k), code)
		}
		k = next
	}
	return k
}

const wovenActs = "start up 1/start f 1/tick 2/start one 1/signal 3 go1 5/cancel 3/tick 7/start f 1/tick 1"

// wovenKeeper is a keeper of wovenEngine, with a log of all acts that lead to it.
func wovenKeeper(t *testing.T) impl.Keeper {
	t.Helper()
	k := keep(t, newKeeper(t, wovenEngine(t).Progs), acts(wovenActs)...)
	if !sameEngine(k.Engine, wovenEngine(t)) {
		t.Fatalf("it is %s", kept(k))
	}
	return k
}

// modelKeep is KeeperDo of a keeper that is ok.
func modelKeep(k impl.Keeper, a impl.Act) (impl.Keeper, int) {
	e, code := modelDo(k.Engine, a, map[string]int{})
	if code != impl.DoFine {
		return k, code
	}
	l, ok := modelAdd(k.Log, a)
	if !ok {
		return k, impl.DoFull
	}
	return impl.Keeper{Engine: e, Log: l}, impl.DoFine
}

// modelRise is KeeperRise of programs that are those of an engine.
func modelRise(progs []impl.Prog, l impl.Log) (impl.Keeper, bool) {
	l, ok := modelMend(l)
	if !ok {
		return impl.Keeper{}, false
	}
	e := impl.Engine{Progs: progs}
	for _, a := range modelActs(l) {
		next, code := modelDo(e, a, map[string]int{})
		if code != impl.DoFine {
			return impl.Keeper{}, false
		}
		e = next
	}
	return impl.Keeper{Engine: e, Log: l}, true
}

// modelFall is KeeperFall of a keeper that is ok.
func modelFall(k impl.Keeper, a impl.Act, bytes int) impl.Keeper {
	l := k.Log
	if _, code := modelDo(k.Engine, a, map[string]int{}); code == impl.DoFine {
		l = modelTear(l, a, bytes)
	}
	up, _ := modelRise(k.Engine.Progs, l)
	return up
}

// modelKeeperOk is KeeperOk, sentence by sentence.
func modelKeeperOk(k impl.Keeper) bool {
	if !modelLogOk(k.Log) || !modelEngineOk(k.Engine) {
		return false
	}
	again, ok := modelRise(k.Engine.Progs, k.Log)
	return ok && sameEngine(again.Engine, k.Engine)
}

// modelPlay is KeeperPlay of programs that are those of an engine.
func modelPlay(progs []impl.Prog, list []impl.Act, falls []int) impl.Keeper {
	k := impl.Keeper{Engine: impl.Engine{Progs: progs}, Log: emptyLog()}
	bytes := 0
	for place := 0; place < len(list) && len(list) <= 40; place++ {
		if slices.Contains(falls, place) {
			k = modelFall(k, list[place], bytes)
		} else {
			k, _ = modelKeep(k, list[place])
		}
		if bytes += 7; bytes >= 40 {
			bytes -= 40
		}
	}
	return k
}

// keptAct is an act, the keeper ahead of it, and what is to come of it.
type keptAct struct {
	before impl.Keeper
	act    impl.Act
	after  impl.Keeper
	code   int
}

// keptActs is acts of some of the plays, done to keepers.
var keptActs = sync.OnceValue(func() []keptAct {
	var list []keptAct
	for i, g := range plays() {
		if i%8 > 0 {
			continue
		}
		k := impl.Keeper{Engine: g.engines[0], Log: emptyLog()}
		d := &dice{uint32(i) + 17}
		for _, a := range g.acts {
			next, code := modelKeep(k, a)
			list = append(list, keptAct{k, a, next, code})
			k = next
			// Now and then a piece is left with room: more of these than need be is a log as well.
			if last := len(k.Log.Segs) - 1; code == impl.DoFine && d.upTo(12) == 0 {
				r := modelRecord(a)
				k = ownKept(k)
				if rest := k.Log.Segs[last][:len(k.Log.Segs[last])-len(r)]; rest != "" {
					k.Log.Segs = append(k.Log.Segs[:last], rest, r)
				}
			}
		}
	}
	return list
})

// fullKeeper is a keeper the log of which has no room for one more tick: a run that goes on, and one that was called off.
func fullKeeper(t *testing.T) impl.Keeper {
	t.Helper()
	k := keep(t, newKeeper(t, progsOf(t, "up: go a = ask(in); wait b = go1; done b;")), acts("start up 1/start up 2/cancel 1")...)
	for {
		next, code := impl.KeeperDo(k, ticks(1))
		if code != impl.DoFine {
			return k
		}
		k = next
	}
}
