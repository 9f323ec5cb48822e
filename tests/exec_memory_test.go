package tests

import (
	"runtime"
	"slices"
	"sync"
	"testing"
	"time"

	"loop.example/backstitch/impl"
)

// cmdTexts, varTexts and cameTexts are the memory of all texts of lists.
func cmdTexts(list []impl.Cmd) []span {
	var spans []span
	for _, c := range list {
		spans = append(spans, textSpan(c.Name), textSpan(c.Arg.Text))
	}
	return spans
}

func varTexts(list []impl.Pair) []span {
	var spans []span
	for _, p := range list {
		spans = append(spans, textSpan(p.Name), textSpan(p.Value.Text))
	}
	return spans
}

func cameTexts(list []impl.Came) []span {
	var spans []span
	for _, c := range list {
		spans = append(spans, textSpan(c.Name), textSpan(c.Value.Text))
	}
	return spans
}

func outTexts(o impl.Out) []span {
	return slices.Concat(cmdTexts(o.Cmds), varTexts(o.Vars), []span{textSpan(o.On), textSpan(o.Value.Text)})
}

func outLists(o impl.Out) []span {
	return []span{listSpan(o.Cmds), listSpan(o.Vars)}
}

// wordy is a program that hands texts on in all ways that there are, and what comes for it.
func wordy(t *testing.T) given {
	p := getProg(t, "program one { let a = in; go c = f(a); join b = c; join d = c; wait e = up; child g = one(e); set in = g; done in; }")
	x := func(s string) impl.Value { return text(ownText(s)) }
	return given{p, x("given"), came(answer(0, x("answered")), signal(ownText("up"), x("told")), childEnd(1, x("ended")))}
}

// roomyCame is a list with spare room, and something there.
func roomyCame(list []impl.Came) []impl.Came {
	room := append(make([]impl.Came, 0, len(list)+3), list...)
	for i := len(room); i < cap(room); i++ {
		room[:cap(room)][i] = signal("spare", num(i))
	}
	return room
}

func TestNothingIsWrittenByDoing(t *testing.T) {
	for _, g := range append(givens(), wordy(t)) {
		p, list := g.prog, roomyCame(g.came)
		p.Steps = roomySteps(p.Steps)
		before, all := seenSteps(p.Steps), slices.Clone(list[:cap(list)])
		o := impl.Exec(p, g.in, list)
		if seenSteps(p.Steps) != before || !slices.Equal(list[:cap(list)], all) {
			t.Fatalf("%s was written into", g.tell())
		}
		cmds := append(make([]impl.Cmd, 0, len(o.Cmds)+3), o.Cmds...)
		kept := slices.Clone(cmds[:cap(cmds)])
		o.Cmds = cmds
		for _, c := range mores(o) {
			impl.ExecWants(o, c)
		}
		if !slices.Equal(cmds[:cap(cmds)], kept) {
			t.Fatalf("what %s asked for was written into", g.tell())
		}
	}
}

// What lies behind the end of a list has not come, is no step, and was not asked for.
func TestSpareThingsHaveNotCome(t *testing.T) {
	p := getProg(t, "program one { call a = f(in); done a; }")
	list := came(answer(1, num(1)), answer(0, num(2)))
	if o := impl.Exec(p, num(1), list[:1]); o.Status != impl.OutWaits {
		t.Errorf("it is %s", shown(o))
	}
	cut := impl.Prog{Name: "one", Steps: p.Steps[:1]}
	if got := shown(impl.Exec(cut, num(1), list)); got != "done none; call f 1, done none; in=1; 1" {
		t.Errorf("it is %s", got)
	}
	cmds := []impl.Cmd{cmd(impl.CmdCall, "f", num(1)), cmd(impl.CmdCall, "f", num(1))}
	if impl.ExecWants(impl.Out{Status: impl.OutWaits, On: "place 1", Cmds: cmds[:1]}, answer(1, num(1))) {
		t.Error("what was not asked for is wanted")
	}
}

func TestMemoryOfDoingIsNew(t *testing.T) {
	for _, g := range append(givens(), wordy(t)) {
		o, again := impl.Exec(g.prog, g.in, g.came), impl.Exec(g.prog, g.in, g.came)
		if meetAny(outLists(o), outLists(again)) || listSpan(o.Cmds).meets(listSpan(o.Vars)) {
			t.Errorf("two lists of %s share memory", g.tell())
		}
		if meetAny(outLists(o), append(stepLists(g.prog.Steps), listSpan(g.came))) {
			t.Errorf("%s shares a list with what is given", g.tell())
		}
		given := slices.Concat(progTexts(g.prog), cameTexts(g.came), []span{textSpan(g.in.Text)})
		if meetAny(outTexts(o), given) {
			t.Errorf("%s shares a text with what is given: %s", g.tell(), shown(o))
		}
		if meetAny(cmdTexts(o.Cmds), append(varTexts(o.Vars), textSpan(o.Value.Text))) || meetAny(varTexts(o.Vars), []span{textSpan(o.Value.Text)}) {
			t.Errorf("two parts of %s share a text: %s", g.tell(), shown(o))
		}
	}
	g := wordy(t)
	want := `done "ended"; call f "given", child one "told", done "ended"; in="ended" a="given" b="answered" d="answered" e="told" g="ended"; 8`
	if got := shown(impl.Exec(g.prog, g.in, g.came)); got != want {
		t.Errorf("it is %s", got)
	}
}

// No function keeps anything: an answer that is written into changes no later one.
func TestNothingIsKeptOfDoing(t *testing.T) {
	g := wordy(t)
	o := impl.Exec(g.prog, g.in, g.came)
	want := shown(o)
	clear(o.Cmds[:cap(o.Cmds)])
	clear(o.Vars[:cap(o.Vars)])
	if got := shown(impl.Exec(g.prog, g.in, g.came)); got != want {
		t.Errorf("it is %s, not %s", got, want)
	}
	// A signal that was had is had by that call alone.
	p := getProg(t, "program one { wait a = up; done a; }")
	list := came(signal("up", num(1)))
	for range 3 {
		if got := shown(impl.Exec(p, num(0), list)); got != "done 1; done 1; in=0 a=1; 2" {
			t.Errorf("it is %s", got)
		}
	}
}

// What a call answers does not hang on how goroutines run, nor on other calls beside it.
func TestDoingSideBySide(t *testing.T) {
	list := givens()[:200]
	list = append(slices.Clip(list), givens()[len(givens())-300:]...)
	var want []string
	for _, g := range list {
		want = append(want, shown(impl.Exec(g.prog, g.in, g.came)))
	}
	var all sync.WaitGroup
	for range 8 {
		all.Go(func() {
			for i, g := range list {
				if got := shown(impl.Exec(g.prog, g.in, g.came)); got != want[i] {
					t.Errorf("%s is %s, not %s", g.tell(), got, want[i])
				}
			}
		})
	}
	all.Wait()
}

// No goroutine is left when a call has answered, however the program stands then.
func TestNoGoroutineIsLeft(t *testing.T) {
	before := runtime.NumGoroutine()
	for _, g := range givens() {
		impl.Exec(g.prog, g.in, g.came)
		impl.Exec(g.prog, g.in, nil)
		impl.Exec(g.prog, impl.Value{Kind: 9}, nil)
		impl.Exec(g.prog, g.in, wrongCame()[:1])
	}
	checkNoneIsLeft(t, before)
}

// checkNoneIsLeft says that there are no more goroutines than so many. One that has done all it does may take a while until it is counted no more.
func checkNoneIsLeft(t *testing.T, goroutines int) {
	t.Helper()
	for range 200 {
		if runtime.NumGoroutine() <= goroutines {
			return
		}
		time.Sleep(5 * time.Millisecond)
	}
	t.Errorf("%d goroutines are left", runtime.NumGoroutine()-goroutines)
}
