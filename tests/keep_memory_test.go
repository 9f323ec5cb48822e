package tests

import (
	"fmt"
	"runtime"
	"slices"
	"strings"
	"sync"
	"testing"

	"loop.example/backstitch/impl"
)

func logLists(l impl.Log) []span {
	return []span{listSpan(l.Segs)}
}

func logTexts(l impl.Log) []span {
	var spans []span
	for _, seg := range l.Segs {
		spans = append(spans, textSpan(seg))
	}
	return spans
}

func keeperLists(k impl.Keeper) []span {
	return append(engineLists(k.Engine), logLists(k.Log)...)
}

func keeperTexts(k impl.Keeper) []span {
	return append(engineTexts(k.Engine), logTexts(k.Log)...)
}

func cacheLists(c impl.Cache) []span {
	spans := []span{listSpan(c.Items)}
	for _, item := range c.Items {
		spans = append(spans, outLists(item.Out)...)
	}
	return spans
}

func cacheTexts(c impl.Cache) []span {
	var spans []span
	for _, item := range c.Items {
		spans = append(spans, outTexts(item.Out)...)
	}
	return spans
}

// roomyLog is a log all texts of which nobody else has, with spare room, and something there; so are the others.
func roomyLog(l impl.Log) impl.Log {
	segs := make([]string, 0, len(l.Segs))
	for _, seg := range l.Segs {
		segs = append(segs, ownText(seg))
	}
	return impl.Log{Segs: roomyList(segs, "spare")}
}

func roomyKeeper(k impl.Keeper) impl.Keeper {
	return impl.Keeper{Engine: roomyEngine(k.Engine), Log: roomyLog(k.Log)}
}

func roomyOut(o impl.Out) impl.Out {
	o.Cmds = roomyList(o.Cmds, impl.Cmd{Kind: impl.CmdCall, Name: "spare"})
	o.Vars = roomyList(o.Vars, impl.Pair{Name: "spare", Value: num(1)})
	return o
}

func roomyCache(c impl.Cache) impl.Cache {
	var items []impl.Item
	for _, item := range c.Items {
		item.Out = roomyOut(item.Out)
		items = append(items, item)
	}
	return impl.Cache{Items: roomyList(items, impl.Item{Run: 6, Many: 1})}
}

// seenLog, seenKeeper and seenCache write down all, spare room included.
func seenLog(l impl.Log) string {
	return fmt.Sprintf("%d %q", len(l.Segs), l.Segs[:cap(l.Segs)])
}

func seenKeeper(k impl.Keeper) string {
	return seenEngine(k.Engine) + seenLog(k.Log)
}

func seenCache(c impl.Cache) string {
	s := fmt.Sprint(len(c.Items), "[")
	for _, item := range c.Items[:cap(c.Items)] {
		o := item.Out
		s += fmt.Sprint(item.Run, item.Many, len(o.Cmds), o.Cmds[:cap(o.Cmds)], o.Status, o.Value, o.On, len(o.Vars), o.Vars[:cap(o.Vars)], o.Fuel)
	}
	return s + "]"
}

// memoryLogs is logs of many forms, ok or not.
func memoryLogs(t *testing.T) []impl.Log {
	var list []impl.Log
	for _, l := range okLogs(t) {
		list = append(list, l)
	}
	for what, w := range wrongLogs(t) {
		if !strings.Contains(what, "far too") && !strings.Contains(what, "byte 2") {
			list = append(list, w.log)
		}
	}
	return list
}

// memoryKeepers is keepers of many forms, ok or not.
func memoryKeepers(t *testing.T) []impl.Keeper {
	list := []impl.Keeper{wovenKeeper(t), wordyKeeper(t), fullKeeper(t)}
	for i, d := range keptActs() {
		if i%150 == 0 {
			list = append(list, d.before)
		}
	}
	for _, way := range keeperBreaks {
		k := ownKept(wovenKeeper(t))
		way(&k)
		list = append(list, k)
	}
	return list
}

const wordyActs = `start up "given"/start f "other"/answer 1 0 "once"/signal 0 told "word"/start down "third"/answer 4 0 "late"`

// wordyKeeper is a keeper of wordyEngine, each text in memory of its own.
func wordyKeeper(t *testing.T) impl.Keeper {
	t.Helper()
	k := keep(t, newKeeper(t, wordyEngine(t).Progs), acts(wordyActs)...)
	if !sameEngine(k.Engine, wordyEngine(t)) {
		t.Fatalf("it is %s", kept(k))
	}
	return k
}

// callLog calls all functions of a log, and callKeeper all of a keeper.
func callLog(l impl.Log, list []impl.Act) {
	impl.LogOk(l)
	impl.LogActs(l)
	impl.LogMend(l)
	for _, a := range list {
		impl.LogAdd(l, a)
		for _, n := range []int{-1, 0, 9, 1000} {
			impl.LogTear(l, a, n)
		}
	}
}

func callKeeper(k impl.Keeper, list []impl.Act, falls []int) {
	impl.KeeperOk(k)
	impl.KeeperNew(k.Engine.Progs)
	impl.KeeperRise(k.Engine.Progs, k.Log)
	impl.KeeperPlay(k.Engine.Progs, list, falls)
	for _, a := range list {
		impl.KeeperDo(k, a)
		impl.KeeperFall(k, a, 9)
		impl.KeeperFall(k, a, 99)
	}
}

func TestNothingIsWrittenIntoLogs(t *testing.T) {
	list := append(someActs(), impl.Act{})
	for _, l := range memoryLogs(t) {
		room := roomyLog(l)
		before := seenLog(room)
		callLog(room, list)
		if seenLog(room) != before {
			t.Fatalf("%q was written into", l.Segs)
		}
	}
}

func TestNothingIsWrittenIntoKeepers(t *testing.T) {
	list := roomyList(append(acts(wordyActs+"/tick 1/cancel 0/start up 1/cancel 0"), impl.Act{}), ticks(1))
	falls := roomyList([]int{0, 3, 99}, 1)
	all, places := slices.Clone(list[:cap(list)]), slices.Clone(falls[:cap(falls)])
	for _, k := range memoryKeepers(t) {
		room := roomyKeeper(k)
		before := seenKeeper(room)
		callKeeper(room, list, falls)
		if seenKeeper(room) != before || !slices.Equal(list[:cap(list)], all) || !slices.Equal(falls[:cap(falls)], places) {
			t.Fatalf("%s was written into", kept(k))
		}
	}
}

// someCaches is caches of an engine, ok or not.
func someCaches(e impl.Engine) []impl.Cache {
	list := []impl.Cache{{}}
	if len(e.Runs) > 0 {
		d := &dice{uint32(len(e.Runs)) * 99}
		for range 5 {
			list = append(list, d.throwCache(e))
		}
		list = append(list, impl.Cache{Items: slices.Repeat([]impl.Item{wholeItem(e, 0)}, 5)})
	}
	return list
}

func TestNothingIsWrittenIntoCaches(t *testing.T) {
	look := func(e impl.Engine) {
		e = roomyEngine(e)
		whole := seenEngine(e)
		for _, c := range someCaches(e) {
			c = roomyCache(c)
			before := seenCache(c)
			runs := roomyList([]int{0, 1, 2, 0, 9}, 3)
			all := slices.Clone(runs[:cap(runs)])
			impl.CacheOk(c, e)
			for run := range 9 {
				impl.CacheGet(c, e, run)
				impl.CacheDrop(c, run)
				impl.RunShow(e, run)
				impl.RunsOf(e, run)
				impl.RunLast(e, run)
			}
			impl.CachePlay(e, runs)
			if seenCache(c) != before || seenEngine(e) != whole || !slices.Equal(runs[:cap(runs)], all) {
				t.Fatalf("%s of %s was written into", cached(c), stands(e))
			}
		}
	}
	look(wovenEngine(t))
	look(wordyEngine(t))
	eachEngine(200, look)
	for _, list := range thrownLines() {
		room := roomyList(list, "tick 1")
		before := slices.Clone(room[:cap(room)])
		got := impl.Session(room)
		if !slices.Equal(room[:cap(room)], before) || got != impl.Session(list) {
			t.Fatalf("%q was written into", list)
		}
	}
}

// What lies behind the end of a list is no piece, no act, no fall, no item and no line.
func TestSpareOfKeepersIsNotThere(t *testing.T) {
	for _, l := range memoryLogs(t) {
		room := roomyLog(l)
		if impl.LogOk(room) != impl.LogOk(l) || !sameLog(impl.LogMend(room), impl.LogMend(l)) || !slices.Equal(impl.LogActs(room), impl.LogActs(l)) {
			t.Fatalf("%q has more than it has", l.Segs)
		}
	}
	for _, k := range memoryKeepers(t) {
		room := roomyKeeper(k)
		got, code := impl.KeeperDo(room, ticks(1))
		if want, is := impl.KeeperDo(k, ticks(1)); code != is || !sameKeeper(got, want) || impl.KeeperOk(room) != impl.KeeperOk(k) {
			t.Fatalf("%s has more than it has", kept(k))
		}
	}
	e := wovenEngine(t)
	for _, c := range someCaches(e) {
		room := roomyCache(c)
		got, _, there := impl.CacheGet(room, e, 2)
		if want, _, is := impl.CacheGet(c, e, 2); there != is || !sameCache(got, want) || !sameCache(impl.CacheDrop(room, 6), impl.CacheDrop(c, 6)) {
			t.Fatalf("%s has more than it has", cached(c))
		}
	}
	list, falls := acts("tick 1/tick 1/tick 1"), []int{0, 1, 2}
	if k := impl.KeeperPlay(e.Progs, list[:2], falls[:1]); k.Engine.Now != 1 {
		t.Errorf("it is %s", kept(k))
	}
	if got := impl.Session(strings.Split("size|size|size", "|")[:2]); got != "1 0\n1 0\n" {
		t.Errorf("it is %q", got)
	}
}

func TestMemoryOfLogsIsNew(t *testing.T) {
	x := func(s string) impl.Value { return text(ownText(s)) }
	list := []impl.Act{starts(ownText("up"), x("begun")), signals(3, ownText("told"), x("word")), answers(1, 2, x("answered")), ticks(5), {Kind: 9, Name: ownText("nothing"), Value: x("none")}}
	for _, l := range memoryLogs(t) {
		l = roomyLog(l)
		lists, texts := logLists(l), logTexts(l)
		for _, a := range list {
			given := append(actTexts(a), texts...)
			next, _ := impl.LogAdd(l, a)
			checkApart(t, "LogAdd", logLists(next), logTexts(next), lists, given)
			for _, n := range []int{0, 9, 1000} {
				torn := impl.LogTear(l, a, n)
				checkApart(t, "LogTear", logLists(torn), logTexts(torn), lists, given)
			}
		}
		mended := impl.LogMend(l)
		checkApart(t, "LogMend", logLists(mended), logTexts(mended), lists, texts)
		told := impl.LogActs(l)
		checkApart(t, "LogActs", []span{listSpan(told)}, actTexts(told...), lists, texts)
		if t.Failed() {
			t.Fatalf("of %q", l.Segs)
		}
	}
	for _, a := range list {
		put, record := impl.ActPut(a), impl.RecordPut(a)
		checkApart(t, "ActPut", nil, []span{textSpan(put), textSpan(record)}, nil, actTexts(a))
		back, _ := impl.ActGet(put)
		first, _ := impl.RecordGet(record)
		checkApart(t, "ActGet", nil, actTexts(back, first), nil, []span{textSpan(put), textSpan(record)})
	}
}

func TestMemoryOfKeepersIsNew(t *testing.T) {
	x := func(s string) impl.Value { return text(ownText(s)) }
	for _, k := range memoryKeepers(t) {
		k = roomyKeeper(k)
		lists, texts := keeperLists(k), keeperTexts(k)
		list := []impl.Act{starts(ownText("up"), x("begun")), signals(0, ownText("told"), x("word2")), answers(0, 0, x("answered")), ticks(5), cancels(0), starts(ownText("gone"), x("begun")), {Kind: 9, Name: ownText("nothing")}}
		given := append(actTexts(list...), texts...)
		for _, a := range list {
			next, _ := impl.KeeperDo(k, a)
			checkApart(t, "KeeperDo", keeperLists(next), keeperTexts(next), lists, given)
			for _, n := range []int{0, 999} {
				fell := impl.KeeperFall(k, a, n)
				checkApart(t, "KeeperFall", keeperLists(fell), keeperTexts(fell), lists, given)
			}
		}
		begun, _ := impl.KeeperNew(k.Engine.Progs)
		checkApart(t, "KeeperNew", keeperLists(begun), keeperTexts(begun), lists, texts)
		up, _ := impl.KeeperRise(k.Engine.Progs, k.Log)
		checkApart(t, "KeeperRise", keeperLists(up), keeperTexts(up), lists, texts)
		played := impl.KeeperPlay(k.Engine.Progs, list, []int{1, 3})
		checkApart(t, "KeeperPlay", keeperLists(played), keeperTexts(played), append(lists, listSpan(list)), given)
		if t.Failed() {
			t.Fatalf("of %s", kept(k))
		}
	}
}

func TestMemoryOfCachesIsNew(t *testing.T) {
	look := func(e impl.Engine) {
		lists, texts := engineLists(e), engineTexts(e)
		for _, c := range someCaches(e) {
			c = roomyCache(c)
			lists, texts := append(cacheLists(c), lists...), append(cacheTexts(c), texts...)
			for run := -1; run <= len(e.Runs); run++ {
				next, o, _ := impl.CacheGet(c, e, run)
				checkApart(t, "CacheGet", append(outLists(o), cacheLists(next)...), nil, lists, nil)
				if meetAny(append(outTexts(o), cacheTexts(next)...), texts) || meetAny(outTexts(o), cacheTexts(next)) {
					t.Error("CacheGet shares a text")
				}
				dropped := impl.CacheDrop(c, run)
				checkApart(t, "CacheDrop", cacheLists(dropped), nil, lists, nil)
				if meetAny(cacheTexts(dropped), texts) {
					t.Error("CacheDrop shares a text")
				}
			}
		}
		played, _ := impl.CachePlay(e, []int{0, 1, 0, 2, 0})
		checkApart(t, "CachePlay", cacheLists(played), nil, lists, nil)
		if meetAny(cacheTexts(played), texts) {
			t.Error("CachePlay shares a text")
		}
		for run := range e.Runs {
			show := impl.RunShow(e, run)
			checkApart(t, "RunShow", nil, []span{textSpan(show)}, nil, texts)
		}
		for status := range 6 {
			first, second := impl.RunsOf(e, status), impl.RunsOf(e, status)
			checkApart(t, "RunsOf", []span{listSpan(first), listSpan(second)}, nil, nil, nil)
		}
		if t.Failed() {
			t.Fatalf("of %s", stands(e))
		}
	}
	look(wordyEngine(t))
	look(wovenEngine(t))
	eachEngine(300, look)
}

// No function keeps anything: an answer that is written into changes no other one.
func TestNothingIsKeptOfKeepers(t *testing.T) {
	k := wordyKeeper(t)
	before := seenKeeper(k)
	wreck := func(k impl.Keeper) {
		for i := range k.Engine.Runs {
			clear(k.Engine.Runs[i].Hist[:cap(k.Engine.Runs[i].Hist)])
		}
		clear(k.Engine.Runs[:cap(k.Engine.Runs)])
		clear(k.Engine.Progs[:cap(k.Engine.Progs)])
		clear(k.Log.Segs[:cap(k.Log.Segs)])
	}
	for _, a := range acts(`tick 1/start up 3/signal 3 told "x"/cancel 0/start gone 1`) {
		next, code := impl.KeeperDo(k, a)
		want := kept(next)
		fell := impl.KeeperFall(k, a, 99)
		wreck(next)
		if code == impl.DoFine && kept(fell) != want {
			t.Errorf("a fall by %v is %s, not %s", a, kept(fell), want)
		}
		wreck(fell)
		if again, is := impl.KeeperDo(k, a); is != code || kept(again) != want {
			t.Errorf("%v is %s, not %s", a, kept(again), want)
		}
	}
	if seenKeeper(k) != before {
		t.Error("it is not as it was")
	}
	c, o, _ := impl.CacheGet(impl.Cache{}, k.Engine, 0)
	want := shown(o)
	clear(c.Items[0].Out.Cmds)
	clear(c.Items[0].Out.Vars)
	clear(c.Items)
	if _, again, there := impl.CacheGet(impl.Cache{}, k.Engine, 0); there || shown(o) != want || shown(again) != want {
		t.Errorf("it is %s, not %s", shown(again), want)
	}
}

// What a call answers does not hang on other calls beside it, and no goroutine is left of it.
func TestKeepersSideBySide(t *testing.T) {
	goroutines := runtime.NumGoroutine()
	lines, list := thrownLines()[:60], plays()[:30]
	var want []string
	for _, l := range lines {
		told, _ := modelSession(l)
		want = append(want, strings.Join(told, ""))
	}
	var all sync.WaitGroup
	for range 6 {
		all.Go(func() {
			for i, l := range lines {
				if got := impl.Session(l); got != want[i] {
					t.Errorf("%q is %q, not %q", l, got, want[i])
				}
			}
			for _, g := range list {
				acts := g.acts[:min(len(g.acts), 40)]
				k := impl.KeeperPlay(g.progs, acts, []int{-1})
				if want := g.engines[len(acts)]; !sameEngine(k.Engine, want) {
					t.Errorf("%v is %s, not %s", acts, kept(k), stands(want))
				}
				impl.CachePlay(k.Engine, []int{0, 1, 2, 0})
			}
		})
	}
	all.Wait()
	checkNoneIsLeft(t, goroutines)
}
