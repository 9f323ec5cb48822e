package tests

import (
	"fmt"
	"math"
	"slices"
	"testing"

	"loop.example/backstitch/impl"
)

func sameItem(a, b impl.Item) bool {
	return a.Run == b.Run && a.Many == b.Many && sameOut(a.Out, b.Out)
}

func sameCache(a, b impl.Cache) bool {
	return slices.EqualFunc(a.Items, b.Items, sameItem)
}

// cached tells the items of a cache: runs, and how many events.
func cached(c impl.Cache) string {
	s := ""
	for _, item := range c.Items {
		s += fmt.Sprintf("%d:%d ", item.Run, item.Many)
	}
	return s
}

// itemOf is the item of a run by its first so many events, which must be a history.
func itemOf(e impl.Engine, run, many int) impl.Item {
	r := e.Runs[run]
	o, _ := modelReplay(progOf(e, r), r.Hist[:many])
	return impl.Item{Run: run, Many: many, Out: o}
}

// wholeItem is the item of a run by all its events.
func wholeItem(e impl.Engine, run int) impl.Item {
	return itemOf(e, run, len(e.Runs[run].Hist))
}

// manies is how many first events of a run are a history.
func manies(r impl.Run) []int {
	var list []int
	for n := range len(r.Hist) + 1 {
		if modelHist(r.Hist[:n]) {
			list = append(list, n)
		}
	}
	return list
}

// modelCacheOk is CacheOk, sentence by sentence.
func modelCacheOk(c impl.Cache, e impl.Engine) bool {
	if !modelEngineOk(e) || len(c.Items) > impl.CacheMax {
		return false
	}
	count := map[int]int{}
	for _, item := range c.Items {
		count[item.Run]++
		if count[item.Run] > 1 || item.Run < 0 || item.Run >= len(e.Runs) || !slices.Contains(manies(e.Runs[item.Run]), item.Many) {
			return false
		}
		if !sameOut(item.Out, itemOf(e, item.Run, item.Many).Out) {
			return false
		}
	}
	return true
}

// modelGet is CacheGet of a cache that is ok, and a run that there is.
func modelGet(c impl.Cache, e impl.Engine, run int) (impl.Cache, impl.Out, bool) {
	whole := wholeItem(e, run)
	there := false
	var items []impl.Item
	for _, item := range c.Items {
		if item.Run != run {
			items = append(items, item)
		} else if item.Many == whole.Many {
			there = true
		}
	}
	items = append(items, whole)
	if len(items) > impl.CacheMax {
		items = items[1:]
	}
	return impl.Cache{Items: items}, whole.Out, there
}

// throwCache is a cache that is ok, thrown by dice: some items are of fewer events.
func (d *dice) throwCache(e impl.Engine) impl.Cache {
	var c impl.Cache
	for range d.upTo(impl.CacheMax + 1) {
		run := d.upTo(len(e.Runs))
		if slices.ContainsFunc(c.Items, func(item impl.Item) bool { return item.Run == run }) {
			continue
		}
		list := manies(e.Runs[run])
		many := list[len(list)-1]
		if d.upTo(2) == 0 {
			many = list[d.upTo(len(list))]
		}
		c.Items = append(c.Items, itemOf(e, run, many))
	}
	return c
}

// checkCache holds CacheGet of a cache that is ok, and each run, against the model.
func checkCache(t *testing.T, c impl.Cache, e impl.Engine) {
	t.Helper()
	if !impl.CacheOk(c, e) {
		t.Fatalf("%s is not ok, of %s", cached(c), stands(e))
	}
	for run := range e.Runs {
		got, o, there := impl.CacheGet(c, e, run)
		want, is, was := modelGet(c, e, run)
		if there != was || !sameOut(o, is) || !sameCache(got, want) {
			t.Fatalf("CacheGet of %s by %s is %s, %s, %v", cached(c), stands(e), cached(got), shown(o), there)
		}
	}
	for _, run := range []int{-1, len(e.Runs), impl.RunMax, math.MinInt, math.MaxInt} {
		if got, o, there := impl.CacheGet(c, e, run); there || !noOut(o) || !sameCache(got, c) {
			t.Fatalf("CacheGet of %d is %s, %s, %v", run, cached(got), shown(o), there)
		}
	}
}

// checkNoCache says that a cache is not ok: it is told as it is.
func checkNoCache(t *testing.T, what string, c impl.Cache, e impl.Engine) {
	t.Helper()
	if impl.CacheOk(c, e) {
		t.Errorf("%s: it is ok", what)
	}
	for _, run := range []int{-1, 0, 1, 2, 7, 8} {
		if got, o, there := impl.CacheGet(c, e, run); there || !noOut(o) || !sameCache(got, c) {
			t.Errorf("%s: CacheGet is %s, %s, %v", what, cached(got), shown(o), there)
		}
	}
}

// cacheBreaks is ways to break a cache of runs 0, 2 and 5 of wovenEngine, each one sentence of what is ok alone.
var cacheBreaks = map[string]func(c *impl.Cache, e impl.Engine){
	"one item too many":         func(c *impl.Cache, e impl.Engine) { c.Items = append(c.Items, wholeItem(e, 1)) },
	"far too many":              func(c *impl.Cache, e impl.Engine) { c.Items = slices.Repeat(c.Items, 10000) },
	"a run twice":               func(c *impl.Cache, e impl.Engine) { c.Items[2] = c.Items[0] },
	"a run twice, side by side": func(c *impl.Cache, e impl.Engine) { c.Items[1] = c.Items[0] },
	"a run twice, unlike":       func(c *impl.Cache, e impl.Engine) { c.Items[2] = itemOf(e, 2, 1) },
	"a run below 0":             func(c *impl.Cache, e impl.Engine) { c.Items[0].Run = -1 },
	"a run far below":           func(c *impl.Cache, e impl.Engine) { c.Items[0].Run = math.MinInt },
	"a run behind all":          func(c *impl.Cache, e impl.Engine) { c.Items[1].Run = len(e.Runs) },
	"a run far away":            func(c *impl.Cache, e impl.Engine) { c.Items[1].Run = math.MaxInt },
	"another run":               func(c *impl.Cache, e impl.Engine) { c.Items[0].Run = 3 },
	"no events":                 func(c *impl.Cache, e impl.Engine) { c.Items[0].Many = 0 },
	"no events, nothing":        func(c *impl.Cache, e impl.Engine) { c.Items[0] = impl.Item{} },
	"events below 0":            func(c *impl.Cache, e impl.Engine) { c.Items[0].Many = -1 },
	"events far below":          func(c *impl.Cache, e impl.Engine) { c.Items[0].Many = math.MinInt },
	"one event too many":        func(c *impl.Cache, e impl.Engine) { c.Items[0].Many++ },
	"far too many events":       func(c *impl.Cache, e impl.Engine) { c.Items[0].Many = math.MaxInt },
	"events cut amid a task":    func(c *impl.Cache, e impl.Engine) { c.Items[0].Many = 3 },
	"events cut behind a task":  func(c *impl.Cache, e impl.Engine) { c.Items[0].Many = 2 },
	"fewer events":              func(c *impl.Cache, e impl.Engine) { c.Items[1].Many = 1 },
	"nothing told":              func(c *impl.Cache, e impl.Engine) { c.Items[0].Out = impl.Out{} },
	"told of another run":       func(c *impl.Cache, e impl.Engine) { c.Items[0].Out = c.Items[1].Out },
	"told of fewer events":      func(c *impl.Cache, e impl.Engine) { c.Items[1].Out = itemOf(e, 2, 4).Out },
	"a Cmd less":                func(c *impl.Cache, e impl.Engine) { c.Items[0].Out.Cmds = c.Items[0].Out.Cmds[:1] },
	"a Cmd more":                func(c *impl.Cache, e impl.Engine) { o := &c.Items[0].Out; o.Cmds = append(o.Cmds, o.Cmds[0]) },
	"a Cmd of another kind":     func(c *impl.Cache, e impl.Engine) { c.Items[0].Out.Cmds[0].Kind = impl.CmdChild },
	"a Cmd of another name":     func(c *impl.Cache, e impl.Engine) { c.Items[0].Out.Cmds[0].Name = "asks" },
	"a Cmd of another Arg":      func(c *impl.Cache, e impl.Engine) { c.Items[0].Out.Cmds[0].Arg = text("1") },
	"another Status":            func(c *impl.Cache, e impl.Engine) { c.Items[0].Out.Status = impl.OutDone },
	"a Value":                   func(c *impl.Cache, e impl.Engine) { c.Items[0].Out.Value = num(0) },
	"another On":                func(c *impl.Cache, e impl.Engine) { c.Items[0].Out.On = "place 0" },
	"a name less":               func(c *impl.Cache, e impl.Engine) { c.Items[1].Out.Vars = nil },
	"a name more": func(c *impl.Cache, e impl.Engine) {
		o := &c.Items[0].Out
		o.Vars = append(o.Vars, impl.Pair{Name: "a"})
	},
	"a name that is another one": func(c *impl.Cache, e impl.Engine) { c.Items[0].Out.Vars[0].Name = "a" },
	"a name that is otherwise":   func(c *impl.Cache, e impl.Engine) { c.Items[2].Out.Vars[0].Value = num(3) },
	"another Fuel":               func(c *impl.Cache, e impl.Engine) { c.Items[2].Out.Fuel++ },
	"the last one is wrong":      func(c *impl.Cache, e impl.Engine) { c.Items[2].Out.Fuel = -1 },
}

func TestCacheOkBroken(t *testing.T) {
	e := wovenEngine(t)
	whole := func() impl.Cache {
		return impl.Cache{Items: []impl.Item{wholeItem(e, 0), wholeItem(e, 2), wholeItem(e, 5)}}
	}
	for what, way := range cacheBreaks {
		c := whole()
		way(&c, e)
		if modelCacheOk(c, e) {
			t.Errorf("%s: it is ok by the model", what)
		}
		checkNoCache(t, what, c, e)
	}
	checkCache(t, whole(), e)
	// A cache of an engine that is not ok is not, even without anything.
	for what, way := range breaks {
		x := ownOf(e)
		way(&x)
		checkNoCache(t, what, whole(), x)
		checkNoCache(t, what, impl.Cache{}, x)
		if c, n := impl.CachePlay(x, []int{0, 0}); n != 0 || len(c.Items) != 0 {
			t.Errorf("%s: CachePlay is %s, %d", what, cached(c), n)
		}
	}
	checkNoCache(t, "nothing", impl.Cache{}, impl.Engine{})
	// Of an engine that was another one.
	checkNoCache(t, "another engine", whole(), newEngine(t, upDown, sleeper))
}

// An item of fewer events: as many as are a history, with news or without.
func TestItemsOfFewerEvents(t *testing.T) {
	e := wovenEngine(t)
	for run, want := range []string{"[1 4]", "[1 3 4 6]", "[1 4 5 7]", "[1 2 3 5 6]", "[1 2]", "[1 3]", "[1 4]"} {
		if got := fmt.Sprint(manies(e.Runs[run])); got != want {
			t.Fatalf("run %d is a history by %s", run, got)
		}
		for many := range len(e.Runs[run].Hist) + 2 {
			var o impl.Out
			if many <= len(e.Runs[run].Hist) {
				o, _ = impl.Replay(progOf(e, e.Runs[run]), e.Runs[run].Hist[:many])
			}
			c := impl.Cache{Items: []impl.Item{wholeItem(e, (run+1)%7), {Run: run, Many: many, Out: o}}}
			if !slices.Contains(manies(e.Runs[run]), many) {
				checkNoCache(t, fmt.Sprintf("run %d by %d", run, many), c, e)
				continue
			}
			checkCache(t, c, e)
			got, _, there := impl.CacheGet(c, e, run)
			if there != (many == len(e.Runs[run].Hist)) || len(got.Items) != 2 || got.Items[1].Many != len(e.Runs[run].Hist) {
				t.Errorf("run %d by %d is there: %v, and then %s", run, many, there, cached(got))
			}
		}
	}
	// By its beginning alone nothing is told.
	c := impl.Cache{Items: []impl.Item{{Run: 2, Many: 1}}}
	got, o, there := impl.CacheGet(c, e, 2)
	if !impl.CacheOk(c, e) || there || o.On != "place 2" || cached(got) != "2:7 " {
		t.Errorf("it is %s, %s, %v", cached(got), shown(o), there)
	}
}

// CacheMax items, and one more: the one asked for longest ago goes.
func TestCacheMax(t *testing.T) {
	e := wovenEngine(t)
	var c impl.Cache
	for i, step := range []struct {
		run   int
		there bool
		then  string
	}{
		{0, false, "0:4 "}, {1, false, "0:4 1:6 "}, {2, false, "0:4 1:6 2:7 "}, {3, false, "1:6 2:7 3:6 "},
		{1, true, "2:7 3:6 1:6 "}, {0, false, "3:6 1:6 0:4 "}, {0, true, "3:6 1:6 0:4 "}, {3, true, "1:6 0:4 3:6 "},
		{2, false, "0:4 3:6 2:7 "}, {1, false, "3:6 2:7 1:6 "}, {9, false, "3:6 2:7 1:6 "}, {2, true, "3:6 1:6 2:7 "},
	} {
		next, _, there := impl.CacheGet(c, e, step.run)
		if there != step.there || cached(next) != step.then {
			t.Fatalf("step %d is %s, %v", i, cached(next), there)
		}
		c = next
	}
	// A run that goes on is not there any more; all others are.
	e = do(t, e, "answer 2 2 5")
	next, o, there := impl.CacheGet(c, e, 2)
	if there || o.On != "signal go1" || cached(next) != "3:6 1:6 2:9 " {
		t.Errorf("it is %s, %v", cached(next), there)
	}
	if _, _, there := impl.CacheGet(next, e, 1); !there {
		t.Error("it is gone")
	}
}

// Promise 57: what a cache tells is how the run stands.
func TestPromise57(t *testing.T) {
	d := &dice{57}
	was, not := 0, 0
	eachEngine(12, func(e impl.Engine) {
		if len(e.Runs) == 0 {
			checkCache(t, impl.Cache{}, e)
			return
		}
		c := d.throwCache(e)
		checkCache(t, c, e)
		for run := range e.Runs {
			next, o, there := impl.CacheGet(c, e, run)
			is, ok := impl.EngineOut(e, run)
			if !ok || !sameOut(o, is) || !impl.CacheOk(next, e) {
				t.Fatalf("CacheGet of %s by %s is %s, %s", cached(c), stands(e), cached(next), shown(o))
			}
			again, o2, is2 := impl.CacheGet(next, e, run)
			if !is2 || !sameOut(o2, o) || !sameCache(again, next) {
				t.Fatalf("CacheGet of %s by %s is %s, %s", cached(next), stands(e), cached(again), shown(o2))
			}
			if there {
				was++
			} else {
				not++
			}
		}
	})
	if was < 100 || not < 500 {
		t.Errorf("%d were there, %d not", was, not)
	}
}

// Promise 58: a cache is ok whatever is done since.
func TestPromise58(t *testing.T) {
	d := &dice{58}
	n := 0
	for i, x := range doneActs() {
		if i%9 > 0 || len(x.before.Runs) == 0 {
			continue
		}
		c := d.throwCache(x.before)
		if !impl.CacheOk(c, x.before) || !impl.CacheOk(c, x.after) || !modelCacheOk(c, x.after) {
			t.Fatalf("%s of %s is not ok behind %v", cached(c), stands(x.before), x.act)
		}
		n++
	}
	if n < 500 {
		t.Errorf("only %d were tried", n)
	}
}

// Promise 59: a run that was dropped is not in the cache, and all others are.
func TestPromise59(t *testing.T) {
	e := wovenEngine(t)
	item := func(run int) impl.Item { return wholeItem(e, run) }
	wrong := impl.Item{Run: -1, Many: -5, Out: impl.Out{On: "x", Cmds: []impl.Cmd{{Kind: 9, Name: "let"}}, Vars: []impl.Pair{{Name: "9", Value: impl.Value{Kind: 7}}}}}
	for _, list := range [][]impl.Item{
		nil, {}, {item(0)}, {item(0), item(1)}, {item(2), item(0), item(1)}, {item(5), item(1), item(3)},
		// Any cache: not only one that is ok.
		{item(0), item(0)}, {item(0), item(1), item(0)}, {item(1), item(0), item(0), item(2), item(0), item(3), item(1)}, {wrong, item(0), wrong}, {{}, item(1), {Run: 1}, {Run: 2, Many: 1}}, slices.Repeat([]impl.Item{item(0), item(1), wrong}, 30),
	} {
		for _, run := range []int{-1, 0, 1, 2, 3, 7, 8, math.MinInt, math.MaxInt} {
			var rest []impl.Item
			for _, x := range list {
				if x.Run != run {
					rest = append(rest, x)
				}
			}
			got := impl.CacheDrop(impl.Cache{Items: list}, run)
			if !sameCache(got, impl.Cache{Items: rest}) {
				t.Errorf("CacheDrop of %s by %d is %s", cached(impl.Cache{Items: list}), run, cached(got))
			}
			if !sameCache(impl.CacheDrop(got, run), got) {
				t.Errorf("CacheDrop again by %d is another one", run)
			}
		}
	}
}

// Promise 60: who asks for at most so many runs as a cache has room for works each out once.
func TestPromise60(t *testing.T) {
	d := &dice{60}
	eachEngine(15, func(e impl.Engine) {
		if len(e.Runs) == 0 {
			return
		}
		var few, runs []int
		for range impl.CacheMax {
			few = append(few, d.upTo(len(e.Runs)))
		}
		for range d.upTo(41) {
			runs = append(runs, few[d.upTo(len(few))])
		}
		unlike := map[int]int{}
		for _, run := range runs {
			unlike[run]++
		}
		if c, n := impl.CachePlay(e, runs); n != len(runs)-len(unlike) || len(c.Items) != len(unlike) || !impl.CacheOk(c, e) {
			t.Fatalf("CachePlay of %v is %s, %d, of %s", runs, cached(c), n, stands(e))
		}
	})
}

// modelCachePlay is CachePlay of an engine that is ok.
func modelCachePlay(e impl.Engine, runs []int) (impl.Cache, int) {
	var c impl.Cache
	n := 0
	for _, run := range runs {
		if run >= 0 && run < len(e.Runs) {
			next, _, there := modelGet(c, e, run)
			if there {
				n++
			}
			c = next
		}
	}
	return c, n
}

func TestCachePlay(t *testing.T) {
	d := &dice{61}
	eachEngine(40, func(e impl.Engine) {
		var runs []int
		for range d.upTo(41) {
			runs = append(runs, d.upTo(impl.RunMax+2)-1)
		}
		got, n := impl.CachePlay(e, runs)
		want, is := modelCachePlay(e, runs)
		if n != is || !sameCache(got, want) || !impl.CacheOk(got, e) {
			t.Fatalf("CachePlay of %v is %s, %d, not %s, %d, of %s", runs, cached(got), n, cached(want), is, stands(e))
		}
	})
	e := wovenEngine(t)
	for _, c := range []struct {
		runs []int
		then string
		n    int
	}{
		{nil, "", 0}, {[]int{}, "", 0}, {[]int{0}, "0:4 ", 0}, {[]int{0, 0}, "0:4 ", 1}, {[]int{-1, 7, 8, 99, math.MinInt, math.MaxInt}, "", 0}, {[]int{0, 9, 0}, "0:4 ", 1},
		{[]int{0, 1, 2, 0, 1, 2}, "0:4 1:6 2:7 ", 3}, {[]int{0, 1, 2, 3, 0}, "2:7 3:6 0:4 ", 0}, {[]int{0, 1, 2, 0, 3, 0}, "2:7 3:6 0:4 ", 2},
		// 40 runs, and one more; one that is none is one of these as well.
		{slices.Repeat([]int{4}, 40), "4:2 ", 39}, {slices.Repeat([]int{4}, 41), "", 0}, {append(slices.Repeat([]int{4}, 39), 9), "4:2 ", 38}, {append(slices.Repeat([]int{4}, 40), 9), "", 0}, {slices.Repeat([]int{9}, 41), "", 0}, {slices.Repeat([]int{4}, 1000000), "", 0},
	} {
		if got, n := impl.CachePlay(e, c.runs); n != c.n || cached(got) != c.then {
			t.Errorf("CachePlay of %v is %s, %d", c.runs[:min(len(c.runs), 45)], cached(got), n)
		}
	}
}

// Promise 81: a cache without anything has no run.
func TestPromise81(t *testing.T) {
	eachEngine(20, func(e impl.Engine) {
		for run := range e.Runs {
			for _, none := range []impl.Cache{{}, {Items: []impl.Item{}}} {
				c, o, there := impl.CacheGet(none, e, run)
				is, _ := impl.EngineOut(e, run)
				if there || !sameOut(o, is) || !sameCache(c, impl.Cache{Items: []impl.Item{wholeItem(e, run)}}) {
					t.Fatalf("CacheGet of %d by %s is %s, %s, %v", run, stands(e), cached(c), shown(o), there)
				}
				if _, o, there := impl.CacheGet(c, e, run); !there || !sameOut(o, is) {
					t.Fatalf("CacheGet of %d by %s again is %s, %v", run, stands(e), shown(o), there)
				}
			}
		}
	})
}

// Promise 86: a run that was dropped is worked out anew, and stands as it did.
func TestPromise86(t *testing.T) {
	d := &dice{86}
	eachEngine(20, func(e impl.Engine) {
		if len(e.Runs) == 0 {
			return
		}
		for run := range e.Runs {
			c, before, _ := impl.CacheGet(d.throwCache(e), e, run)
			dropped := impl.CacheDrop(c, run)
			if !impl.CacheOk(dropped, e) {
				t.Fatalf("%s without %d is not ok", cached(c), run)
			}
			if again, o, there := impl.CacheGet(dropped, e, run); there || !sameOut(o, before) || !sameCache(again, c) {
				t.Fatalf("%s without %d is %s, %s, %v", cached(c), run, cached(again), shown(o), there)
			}
		}
	})
}
