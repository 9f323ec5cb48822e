package tests

import (
	"slices"
	"testing"

	"loop.example/backstitch/impl"
)

// Promise 51: a keeper begins with an engine that does nothing, and a log without anything.
func TestPromise51(t *testing.T) {
	look := func(progs []impl.Prog) {
		k, ok := impl.KeeperNew(progs)
		e, is := impl.EngineNew(progs)
		if ok != is || !sameEngine(k.Engine, e) || len(impl.LogActs(k.Log)) != 0 {
			t.Fatalf("KeeperNew is %s, %v", kept(k), ok)
		}
		if ok && (!slices.Equal(k.Log.Segs, []string{""}) || !impl.KeeperOk(k)) {
			t.Fatalf("KeeperNew is %s", kept(k))
		}
	}
	for _, g := range plays() {
		look(g.progs)
	}
	for _, p := range append(fineProgs(), notFine()...) {
		look([]impl.Prog{p})
	}
}

// Promise 52: what is done is kept, and what is not done is not.
func TestPromise52(t *testing.T) {
	codes := map[int]int{}
	for _, d := range keptActs() {
		got, code := impl.KeeperDo(d.before, d.act)
		e, is := impl.EngineDo(d.before.Engine, d.act)
		if code != d.code || code != is || !sameKeeper(got, d.after) || !sameEngine(got.Engine, e) {
			t.Fatalf("%v of %s is %s, %d", d.act, kept(d.before), kept(got), code)
		}
		before, after := impl.LogActs(d.before.Log), impl.LogActs(got.Log)
		if code == impl.DoFine {
			before = append(before, d.act)
		} else if !sameKeeper(got, d.before) {
			t.Fatalf("%v of %s is code %d, and %s", d.act, kept(d.before), code, kept(got))
		}
		if !slices.Equal(before, after) || !impl.KeeperOk(got) {
			t.Fatalf("%v of %s is %s", d.act, kept(d.before), kept(got))
		}
		codes[code]++
	}
	for code := impl.DoFine; code <= impl.DoFull; code++ {
		if codes[code] < 10 {
			t.Errorf("code %d only %d times", code, codes[code])
		}
	}
}

// Promise 53: behind a fall an act is done as a whole, or not at all.
func TestPromise53(t *testing.T) {
	for i, d := range keptActs() {
		size := len(impl.RecordPut(d.act))
		// Each number of bytes now and then, some each time.
		list := []int{0, i % (size + 1), size - 1, size}
		if i%150 == 0 {
			list = farBytes(size)
		}
		for _, bytes := range list {
			want := d.before
			if bytes >= size && d.code == impl.DoFine {
				want = d.after
			}
			got := impl.KeeperFall(d.before, d.act, bytes)
			if !sameKeeper(got, want) || i%5 == 0 && !sameKeeper(got, modelFall(d.before, d.act, bytes)) || i%5 == 1 && !impl.KeeperOk(got) {
				t.Fatalf("%v of %s, %d bytes being kept, is %s, not %s", d.act, kept(d.before), bytes, kept(got), kept(want))
			}
		}
	}
}

// Promise 54: a keeper that is up again has done just what its log says.
func TestPromise54(t *testing.T) {
	for i, d := range keptActs() {
		progs, l := d.before.Engine.Progs, d.after.Log
		k, ok := impl.KeeperRise(progs, l)
		if !ok || !sameKeeper(k, d.after) {
			t.Fatalf("KeeperRise of %s is %s, %v", kept(d.after), kept(k), ok)
		}
		if list := impl.LogActs(l); len(list) <= 60 {
			if e := impl.EnginePlay(progs, list); !sameEngine(e, k.Engine) {
				t.Fatalf("EnginePlay of %v is %s, not %s", list, stands(e), kept(k))
			}
		}
		if again, ok := impl.KeeperRise(progs, k.Log); !ok || !sameKeeper(again, k) {
			t.Fatalf("KeeperRise again is %s, %v", kept(again), ok)
		}
		// Of a log the end of which is torn, in any way.
		torn := (&dice{uint32(i)}).torn(l)
		k, ok = impl.KeeperRise(progs, torn)
		want, is := modelRise(progs, torn)
		if ok != is || !sameKeeper(k, want) || ok && !impl.KeeperOk(k) {
			t.Fatalf("KeeperRise of %q is %s, %v", torn.Segs, kept(k), ok)
		}
	}
}

// falls is some places of a list, and some of none.
func (d *dice) falls(many int) []int {
	list := []int{-1, many, many + 7}
	for range d.upTo(many + 1) {
		list = append(list, d.upTo(many))
	}
	return list
}

// Promise 55: wherever it falls, a keeper is ok, and its engine is as by all acts that it kept.
func TestPromise55(t *testing.T) {
	fell := 0
	for i, g := range plays() {
		if i%3 > 0 {
			continue
		}
		d := &dice{uint32(i) * 31}
		list := g.acts[:min(len(g.acts), 40)]
		falls := d.falls(len(list))
		k := impl.KeeperPlay(g.progs, list, falls)
		told := impl.LogActs(k.Log)
		if !impl.KeeperOk(k) || !sameEngine(k.Engine, impl.EnginePlay(g.progs, told)) {
			t.Fatalf("KeeperPlay of %v, falls at %v, is %s", list, falls, kept(k))
		}
		if want := modelPlay(g.progs, list, falls); !sameKeeper(k, want) {
			t.Fatalf("KeeperPlay of %v, falls at %v, is %s, not %s", list, falls, kept(k), kept(want))
		}
		for _, a := range list {
			if len(told) > 0 && told[0] == a {
				told = told[1:]
			}
		}
		if len(told) > 0 {
			t.Fatalf("KeeperPlay of %v, falls at %v, is %s", list, falls, kept(k))
		}
		if !sameEngine(k.Engine, impl.EnginePlay(g.progs, list)) {
			fell++
		}
	}
	if fell < 100 {
		t.Errorf("only %d fell", fell)
	}
}

// Promise 56: without falls a keeper has the engine that acts alone lead to.
func TestPromise56(t *testing.T) {
	for i, g := range plays() {
		list := g.acts[:min(len(g.acts), 40)]
		for _, falls := range [][]int{nil, {-1, len(list), 99}} {
			k := impl.KeeperPlay(g.progs, list, falls)
			if !sameEngine(k.Engine, g.engines[len(list)]) || !sameEngine(k.Engine, impl.EnginePlay(g.progs, list)) {
				t.Fatalf("KeeperPlay of %v is %s, not %s", list, kept(k), stands(g.engines[len(list)]))
			}
			if i%9 == 0 && !sameKeeper(k, modelPlay(g.progs, list, falls)) {
				t.Fatalf("KeeperPlay of %v is %s", list, kept(k))
			}
		}
	}
}

// Promise 80: an act that a fall took away is done as if it had not fallen.
func TestPromise80(t *testing.T) {
	for _, d := range keptActs() {
		k, code := impl.KeeperDo(impl.KeeperFall(d.before, d.act, 0), d.act)
		if code != d.code || !sameKeeper(k, d.after) {
			t.Fatalf("%v behind a fall of %s is %s, %d", d.act, kept(d.before), kept(k), code)
		}
	}
}
