package tests

import (
	"slices"
	"strings"
	"sync"
	"testing"

	"loop.example/backstitch/impl"
)

// eventTexts is the memory of all texts of events.
func eventTexts(list []impl.Event) []span {
	var spans []span
	for _, e := range list {
		spans = append(spans, textSpan(e.Value.Text))
		spans = slices.Concat(spans, cmdTexts([]impl.Cmd{e.Cmd}), cameTexts([]impl.Came{e.Came}))
	}
	return spans
}

// roomyEvents is a list with spare room, and something there.
func roomyEvents(list []impl.Event) []impl.Event {
	room := append(make([]impl.Event, 0, len(list)+3), list...)
	for i := len(room); i < cap(room); i++ {
		room[:cap(room)][i] = comes(signal("spare", num(i)))
	}
	return room
}

// ownHist is a history all texts of which nobody else has, not even by their being constants.
func ownHist(list []impl.Event) []impl.Event {
	list = slices.Clone(list)
	for i := range list {
		e := &list[i]
		for _, s := range []*string{&e.Value.Text, &e.Cmd.Name, &e.Cmd.Arg.Text, &e.Came.Name, &e.Came.Value.Text} {
			*s = ownText(*s)
		}
	}
	return list
}

// wordyHist is a history with texts wherever they may be, each in memory of its own, and its program.
func wordyHist(t *testing.T) retold {
	p := getProg(t, "program one { go a = first(in); wait b = up; call c = second(b); child d = third(c); join e = a; done e; }")
	return retold{p, ownHist(events(`start "given"/came 4 0 ok up "told"/task 2/cmd 1 first "given"/cmd 1 second "told"/came 1 1 ok  "answered"/task 1/cmd 3 third "answered"/came 3 2 ok  "ended"/task 0/came 1 0 ok  "late"/task 1/cmd 4  "late"`))}
}

// someRetolds is some programs with histories, as they are and as no history may be.
func someRetolds(t *testing.T) []retold {
	list := []retold{wordyHist(t)}
	for i, r := range retolds() {
		if i%9 == 0 {
			list = append(list, r)
		}
	}
	for _, all := range brokenHists {
		for _, s := range all {
			list = append(list, retold{list[0].prog, events(s)})
		}
	}
	return list
}

func TestNothingIsWrittenIntoHistories(t *testing.T) {
	for _, r := range someRetolds(t) {
		p, list := r.prog, roomyEvents(r.hist)
		p.Steps = roomySteps(p.Steps)
		before, all := seenSteps(p.Steps), slices.Clone(list[:cap(list)])
		impl.HistOk(list)
		impl.HistPut(list)
		impl.HistCmds(list)
		impl.HistCame(list)
		impl.HistOpen(list)
		impl.HistNews(list)
		impl.HistTasks(list)
		for n := range 4 {
			impl.HistCut(list, n)
		}
		impl.Replay(p, list)
		impl.ReplayOk(p, list)
		impl.ReplayNext(p, list)
		if seenSteps(p.Steps) != before || !slices.Equal(list[:cap(list)], all) {
			t.Fatalf("%s by %s was written into", impl.ProgPut(r.prog), written(r.hist))
		}
	}
	for i, g := range givens() {
		if i%5 > 0 {
			continue
		}
		p, list := g.prog, roomyCame(g.came)
		p.Steps = roomySteps(p.Steps)
		before, all := seenSteps(p.Steps), slices.Clone(list[:cap(list)])
		impl.ReplayAll(p, g.in, list)
		if seenSteps(p.Steps) != before || !slices.Equal(list[:cap(list)], all) {
			t.Fatalf("%s was written into", g.tell())
		}
	}
}

// What lies behind the end of a list was not written down, and has not come.
func TestSpareEventsAreNotThere(t *testing.T) {
	list := events(gotPut)
	if !impl.HistNews(list[:1]) || impl.HistPut(list[:3]) != "start 1\ntask 1\ncmd 1 get 1\n" || impl.HistTasks(list[:4]) != 1 || impl.HistOk(list[:2]) || impl.HistOk(list[:0]) {
		t.Error("it has more than it has")
	}
	if o, at := impl.Replay(one(t, getPut), list[:3]); at != -1 || o.On != "place 0" {
		t.Errorf("it is %s, %d", shown(o), at)
	}
	if next, ok := impl.ReplayNext(one(t, getPut), list[:4]); !ok || !slices.Equal(next, list[4:6]) {
		t.Errorf("it goes on by %s", written(next))
	}
	all := came(answer(0, num(5)), answer(1, num(7)))
	if got := impl.ReplayAll(one(t, getPut), num(1), all[:1]); !slices.Equal(got, list[:6]) {
		t.Errorf("it is %s", written(got))
	}
}

// checkApart says that an answer shares no memory with what is given, nor two parts of it with each other.
func checkApart(t *testing.T, what string, lists, texts, given, givenTexts []span) {
	t.Helper()
	if meetAny(lists, given) {
		t.Errorf("%s shares a list", what)
	}
	if meetAny(texts, givenTexts) {
		t.Errorf("%s shares a text", what)
	}
	for i := range texts {
		if meetAny(texts[:i], texts[i:i+1]) {
			t.Errorf("%s has a text twice", what)
		}
	}
	for i := range lists {
		if meetAny(lists[:i], lists[i:i+1]) {
			t.Errorf("%s has a list twice", what)
		}
	}
}

func TestMemoryOfHistoriesIsNew(t *testing.T) {
	all := someRetolds(t)
	for i, r := range all {
		if i%4 > 0 {
			continue
		}
		r.hist = ownHist(r.hist)
		lists := append(stepLists(r.prog.Steps), listSpan(r.hist))
		texts := append(progTexts(r.prog), eventTexts(r.hist)...)
		cmds, things := impl.HistCmds(r.hist), impl.HistCame(r.hist)
		checkApart(t, "HistCmds", []span{listSpan(cmds)}, cmdTexts(cmds), lists, texts)
		checkApart(t, "HistCame", []span{listSpan(things)}, cameTexts(things), lists, texts)
		for _, n := range []int{1, 2, 99} {
			cut := impl.HistCut(r.hist, n)
			checkApart(t, "HistCut", []span{listSpan(cut)}, eventTexts(cut), lists, texts)
		}
		put := impl.HistPut(r.hist)
		checkApart(t, "HistPut", nil, []span{textSpan(put)}, nil, texts)
		back, _ := impl.HistGet(put)
		checkApart(t, "HistGet", []span{listSpan(back)}, eventTexts(back), nil, []span{textSpan(put)})
		o, _ := impl.Replay(r.prog, r.hist)
		checkApart(t, "Replay", outLists(o), nil, lists, nil)
		checkApart(t, "Replay", nil, outTexts(o), nil, texts)
		next, _ := impl.ReplayNext(r.prog, r.hist)
		checkApart(t, "ReplayNext", []span{listSpan(next)}, eventTexts(next), lists, texts)
		again, _ := impl.ReplayNext(r.prog, r.hist)
		checkApart(t, "ReplayNext", []span{listSpan(next), listSpan(again)}, nil, nil, nil)
		if t.Failed() {
			t.Fatalf("%s by %s", impl.ProgPut(r.prog), written(r.hist))
		}
	}
	for _, g := range append(givens()[:400], wordy(t)) {
		list, again := impl.ReplayAll(g.prog, g.in, g.came), impl.ReplayAll(g.prog, g.in, g.came)
		given := slices.Concat(progTexts(g.prog), cameTexts(g.came), []span{textSpan(g.in.Text)})
		checkApart(t, "ReplayAll", []span{listSpan(list), listSpan(again)}, eventTexts(list), append(stepLists(g.prog.Steps), listSpan(g.came)), given)
	}
}

// The texts of a history are all there, each in its place, and its own.
func TestWordyHistory(t *testing.T) {
	r := wordyHist(t)
	put := lines(`start "given"`, `came 4 0 ok up "told"`, "task 2", `cmd 1 first "given"`, `cmd 1 second "told"`, `came 1 1 ok  "answered"`, "task 1", `cmd 3 third "answered"`, `came 3 2 ok  "ended"`, "task 0", `came 1 0 ok  "late"`, "task 1", `cmd 4  "late"`)
	checkHist(t, r.hist, put)
	if !impl.ReplayOk(r.prog, r.hist) {
		t.Error("it is another program's")
	}
	// A list that is written into afterwards changes nothing of an answer, nor of a later one.
	back, _ := impl.HistGet(put)
	cut, cmds := impl.HistCut(back, 9), impl.HistCmds(back)
	clear(back[:cap(back)])
	if impl.HistPut(cut) != put || len(cmds) != 4 || cmds[2] != cmd(impl.CmdChild, "third", text("answered")) {
		t.Errorf("it is %s", written(cut))
	}
	clear(cut[:cap(cut)])
	if again, ok := impl.HistGet(put); !ok || impl.HistPut(again) != put {
		t.Errorf("it is %s", written(again))
	}
}

// What a call answers does not hang on other calls beside it.
func TestReplaySideBySide(t *testing.T) {
	list := slices.Clone(retolds()[:300])
	tell := func(r retold) string {
		o, _ := impl.Replay(r.prog, r.hist)
		next, _ := impl.ReplayNext(r.prog, r.hist)
		return strings.Join([]string{shown(o), written(next), impl.HistPut(impl.HistCut(r.hist, 2)), impl.HistPut(impl.ReplayAll(r.prog, r.hist[0].Value, impl.HistCame(r.hist)))}, "\n")
	}
	var want []string
	for _, r := range list {
		want = append(want, tell(r))
	}
	var all sync.WaitGroup
	for range 6 {
		all.Go(func() {
			for i, r := range list {
				if got := tell(r); got != want[i] {
					t.Errorf("%s by %s is %s, not %s", impl.ProgPut(r.prog), written(r.hist), got, want[i])
				}
			}
		})
	}
	all.Wait()
}
