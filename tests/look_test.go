package tests

import (
	"math"
	"slices"
	"strings"
	"testing"

	"loop.example/backstitch/impl"
)

// modelStatus is how a run stands, by a word and a number; 5 if it was called off.
func modelStatus(e impl.Engine, r impl.Run) (string, int) {
	o, _ := modelReplay(progOf(e, r), r.Hist)
	value := impl.ValuePut(o.Value)
	if lastKind(r.Hist) == impl.EventCancel {
		return "called off", 5
	}
	return map[int]string{impl.OutWaits: "waits for " + o.On, impl.OutDone: "done " + value, impl.OutFail: "failed " + value, impl.OutAgain: "again " + value}[o.Status], o.Status
}

// modelLast is RunLast of a run that there is.
func modelLast(e impl.Engine, run int) int {
	at := e.Runs[run]
	for _, r := range e.Runs[run+1:] {
		o, _ := modelReplay(progOf(e, at), at.Hist)
		if r.Prog == at.Prog && r.Parent == at.Parent && r.Place == at.Place && o.Status == impl.OutAgain && r.Hist[0].Value == o.Value {
			at = r
		}
	}
	return at.Id
}

// checkLooks holds what is told of an engine that is ok against the model.
func checkLooks(t *testing.T, e impl.Engine) {
	t.Helper()
	var of [6][]int
	for run, r := range e.Runs {
		how, status := modelStatus(e, r)
		of[status] = append(of[status], run)
		if got := impl.RunShow(e, run); got != r.Prog+" "+how {
			t.Fatalf("RunShow of %d is %q, of %s", run, got, stands(e))
		}
		if got := impl.RunLast(e, run); got != modelLast(e, run) {
			t.Fatalf("RunLast of %d is %d, of %s", run, got, stands(e))
		}
	}
	for status := 1; status <= 5; status++ {
		if got := impl.RunsOf(e, status); !slices.Equal(got, of[status]) {
			t.Fatalf("RunsOf %d is %v, of %s", status, got, stands(e))
		}
	}
	for _, status := range []int{0, -1, 6, math.MinInt, math.MaxInt} {
		if got := impl.RunsOf(e, status); len(got) != 0 {
			t.Fatalf("RunsOf %d is %v, of %s", status, got, stands(e))
		}
	}
	for _, run := range []int{-1, len(e.Runs), impl.RunMax, math.MinInt, math.MaxInt} {
		if show, last := impl.RunShow(e, run), impl.RunLast(e, run); show != "" || last != -1 {
			t.Fatalf("of %d is told %q, %d", run, show, last)
		}
	}
}

// shows is each run's RunShow, and what each went on as.
func shows(e impl.Engine) (string, []int) {
	var list []string
	var last []int
	for run := range e.Runs {
		list, last = append(list, impl.RunShow(e, run)), append(last, impl.RunLast(e, run))
	}
	return strings.Join(list, "; "), last
}

func TestLooks(t *testing.T) {
	for _, c := range scenes {
		checkLooks(t, do(t, newEngine(t, c.progs...), c.acts))
	}
	checkLooks(t, wovenEngine(t))
	if got, _ := shows(wovenEngine(t)); got != "up waits for place 1; down again 2; f waits for place 2; one called off; one waits for signal go1; down waits for place 0; f waits for place 1" {
		t.Errorf("it is %s", got)
	}
	for _, c := range []struct {
		progs []string
		acts  string
		want  string
		last  []int
	}{
		{[]string{"up: done in;"}, `start up 1/start up none/start up "ab"/start up ""`, `up done 1; up done none; up done "ab"; up done ""`, []int{0, 1, 2, 3}},
		{[]string{"up: fail in;"}, `start up -1/start up none/start up "x"`, `up failed -1; up failed none; up failed "x"`, []int{0, 1, 2}},
		{[]string{"up: let a = (in + 1); done a;"}, `start up none`, `up failed "value"`, []int{0}},
		{[]string{"up: let a = in;"}, "start up 1", "up done none", []int{0}},
		{[]string{"up: wait a = go1; wait abcdefghij = abcdefghij; done a;"}, "start up 1/start up 1/signal 1 go1 1/start up 1/cancel 2", "up waits for signal go1; up waits for signal abcdefghij; up called off", []int{0, 1, 2}},
		// Anew and anew.
		{[]string{"up: if (in < 3) { again (in + 1); } done in;"}, "start up 1", "up again 2; up again 3; up done 3", []int{2, 2, 2}},
		{[]string{"up: if (in < 3) { again (in + 1); } done in;"}, "start up 1/start up 1", "up again 2; up again 3; up done 3; up again 2; up again 3; up done 3", []int{2, 2, 2, 5, 5, 5}},
		{[]string{`up: if (in == "x") { again none; } if (in == none) { again ""; } wait a = go1; done a;`}, `start up "x"/cancel 2`, `up again none; up again ""; up called off`, []int{2, 2, 2}},
		// The first behind it that is alike, whoever began that; none ahead of it.
		{[]string{"up: wait a = go1; again 2;"}, "start up 1/start up 2/signal 0 go1 1", "up again 2; up waits for signal go1; up waits for signal go1", []int{1, 1, 2}},
		{[]string{"up: wait a = go1; again 2;"}, "start up 2/start up 1/signal 1 go1 1", "up waits for signal go1; up again 2; up waits for signal go1", []int{0, 2, 2}},
		{[]string{"up: wait a = go1; again 2;"}, "start up 1/start up 2/signal 0 go1 1/signal 1 go1 1", "up again 2; up again 2; up waits for signal go1; up waits for signal go1", []int{2, 2, 2, 3}},
		// Another value, another program, another one that it is for, another place are not alike.
		{[]string{"up: wait a = go1; again a;", "down: wait a = go1; again a;"}, `start up 1/start up 3/start down 2/start up "2"/start up none/signal 0 go1 2`, `up again 2; up waits for signal go1; down waits for signal go1; up waits for signal go1; up waits for signal go1; up waits for signal go1`, []int{5, 1, 2, 3, 4, 5}},
		{[]string{"up: child a = down(in); done a;", "down: wait a = go1; again 2;"}, "start up 1/start down 2/start up 2/signal 1 go1 1", "up waits for place 0; down again 2; down waits for signal go1; up waits for place 0; down waits for signal go1; down waits for signal go1", []int{0, 5, 2, 3, 4, 5}},
		{[]string{"up: child a = down(in); child b = down(2); done b;", "down: wait a = go1; if (a == 9) { again 2; } done 1;"}, "start up 1/signal 1 go1 9/signal 2 go1 1", "up waits for place 1; down again 2; down done 1; down waits for signal go1", []int{0, 2, 2, 3}},
		{[]string{"up: child a = down(in); child b = down(2); done b;", "down: wait a = go1; if (a == 9) { again in; } done 1;"}, "start up 2/signal 1 go1 1/signal 2 go1 9", "up waits for place 1; down done 1; down again 2; down waits for signal go1", []int{0, 1, 3, 3}},
		// Without room nothing goes on.
		{[]string{"up: again in;"}, "start up 1", strings.Repeat("up again 1; ", 7) + "up again 1", []int{7, 7, 7, 7, 7, 7, 7, 7}},
		{[]string{"up: again (in + 1);", "down: done in;"}, "start down 5/start up 1", "down done 5; up again 2; up again 3; up again 4; up again 5; up again 6; up again 7; up again 8", []int{0, 7, 7, 7, 7, 7, 7, 7}},
		{[]string{"up: done in;"}, "", "", nil},
	} {
		e := do(t, newEngine(t, c.progs...), c.acts)
		got, last := shows(e)
		if got != c.want || !slices.Equal(last, c.last) {
			t.Errorf("%q by %q\n is %s, %v\nnot %s, %v", c.progs, c.acts, got, last, c.want, c.last)
		}
		checkLooks(t, e)
	}
}

// A run that went on anew, and one behind it that is another one's by one thing alone.
func TestRunLastOfMadeEngines(t *testing.T) {
	progs := progsOf(t, "up: child a = down(1); child b = down(2); done b;", "down: if (in == 1) { again 2; } wait a = go1;", "like: wait a = go1;")
	e := impl.Engine{Progs: progs, Runs: []impl.Run{
		{Id: 0, Prog: "up", Hist: events("start 1/task 1/cmd 3 down 1/came 3 0 no  none/task 1/cmd 3 down 2"), Parent: -1},
		{Id: 1, Prog: "down", Hist: events("start 1/task 1/cmd 6  2"), Place: 0},
		{Id: 2, Prog: "down", Hist: events("start 2/task 0"), Place: 1},
		{Id: 3, Prog: "down", Hist: events("start 2/task 0"), Parent: -1},
		{Id: 4, Prog: "like", Hist: events("start 2/task 0/cancel")},
		{Id: 5, Prog: "down", Hist: events("start 3/task 0/cancel")},
	}}
	if got, last := shows(e); !impl.EngineOk(e) || !slices.Equal(last, []int{0, 1, 2, 3, 4, 5}) {
		t.Errorf("it is %s, %v", got, last)
	}
	checkLooks(t, e)
	for id := 6; id < 8; id++ {
		e.Runs = append(e.Runs, impl.Run{Id: id, Prog: "down", Hist: events("start 2/task 0/cancel")})
		if got, last := shows(e); !impl.EngineOk(e) || last[1] != 6 {
			t.Errorf("it is %s, %v", got, last)
		}
		checkLooks(t, e)
	}
}

func TestLooksAtWrong(t *testing.T) {
	look := func(what string, e impl.Engine) {
		for _, run := range []int{-1, 0, 1, 2, 8} {
			if show, last := impl.RunShow(e, run), impl.RunLast(e, run); show != "" || last != -1 {
				t.Errorf("%s: of %d is told %q, %d", what, run, show, last)
			}
		}
		for status := -1; status < 7; status++ {
			if list := impl.RunsOf(e, status); len(list) != 0 {
				t.Errorf("%s: RunsOf %d is %v", what, status, list)
			}
		}
	}
	for what, way := range breaks {
		e := wovenEngine(t)
		way(&e)
		look(what, e)
	}
	look("nothing", impl.Engine{})
	// One that was called off as it began was never done, and stands in no other way.
	e := wovenEngine(t)
	e.Runs[6].Hist, e.Timers = events("start 1/cancel"), e.Timers[1:]
	if !impl.EngineOk(e) || impl.RunShow(e, 6) != "f called off" || !slices.Equal(impl.RunsOf(e, 5), []int{3, 6}) || impl.RunLast(e, 6) != 6 {
		t.Errorf("it is %s", stands(e))
	}
	checkLooks(t, e)
}

// Promise 61: each run stands in one way.
func TestPromise61(t *testing.T) {
	var many [6]int
	eachEngine(4, func(e impl.Engine) {
		var all []int
		for status := 1; status <= 5; status++ {
			list := impl.RunsOf(e, status)
			many[status] += len(list)
			if !slices.IsSorted(list) {
				t.Fatalf("RunsOf %d is %v, of %s", status, list, stands(e))
			}
			for _, run := range list {
				if impl.HistOpen(e.Runs[run].Hist) != (status == 1) || (lastKind(e.Runs[run].Hist) == impl.EventCancel) != (status == 5) {
					t.Fatalf("RunsOf %d is %v, of %s", status, list, stands(e))
				}
			}
			all = append(all, list...)
		}
		slices.Sort(all)
		for run := range e.Runs {
			if len(all) != len(e.Runs) || all[run] != run {
				t.Fatalf("all are %v, of %s", all, stands(e))
			}
		}
	})
	for status := 1; status <= 5; status++ {
		if many[status] < 100 {
			t.Errorf("status %d only %d times", status, many[status])
		}
	}
}

// Promise 62: how a run stands is told by its program's name, and how it ended.
func TestPromise62(t *testing.T) {
	alike := 0
	eachEngine(12, func(e impl.Engine) {
		checkLooks(t, e)
		of := map[string]string{}
		for run, r := range e.Runs {
			show := impl.RunShow(e, run)
			if !strings.HasPrefix(show, r.Prog+" ") {
				t.Fatalf("RunShow of %d is %q, of %s", run, show, stands(e))
			}
			if other, ok := of[show]; ok {
				alike++
				if other != r.Prog {
					t.Fatalf("%q is told of %s and %s", show, other, r.Prog)
				}
			}
			of[show] = r.Prog
		}
	})
	if alike < 100 {
		t.Errorf("only %d are alike", alike)
	}
}

// Promise 63: the run that one went on as went on no more.
func TestPromise63(t *testing.T) {
	went := 0
	eachEngine(4, func(e impl.Engine) {
		for run, r := range e.Runs {
			last := impl.RunLast(e, run)
			if last < run || last >= len(e.Runs) || impl.RunLast(e, last) != last {
				t.Fatalf("RunLast of %d is %d, of %s", run, last, stands(e))
			}
			if n := e.Runs[last]; n.Prog != r.Prog || n.Parent != r.Parent || n.Place != r.Place {
				t.Fatalf("RunLast of %d is %d, of %s", run, last, stands(e))
			}
			if last > run {
				went++
			}
		}
	})
	if went < 200 {
		t.Errorf("only %d went on", went)
	}
}

// Promise 84: a run that goes on anew is another one then, if there is room.
func TestPromise84(t *testing.T) {
	anew, full := 0, 0
	eachEngine(3, func(e impl.Engine) {
		for _, run := range impl.RunsOf(e, impl.OutAgain) {
			last := impl.RunLast(e, run)
			if len(e.Runs) < impl.RunMax {
				anew++
				if last == run {
					t.Fatalf("RunLast of %d is that, of %s", run, stands(e))
				}
			} else if last == run {
				full++
			}
		}
		for run := range e.Runs {
			if o, _ := impl.EngineOut(e, run); o.Status != impl.OutAgain && impl.RunLast(e, run) != run {
				t.Fatalf("RunLast of %d is another one, of %s", run, stands(e))
			}
		}
	})
	if anew < 100 || full < 20 {
		t.Errorf("%d went on anew, %d had no room", anew, full)
	}
}
