package tests

import (
	"fmt"
	"math"
	"slices"
	"strings"
	"testing"

	"loop.example/backstitch/impl"
)

// checkNoHist says what all functions answer at events that are no history.
func checkNoHist(t *testing.T, list []impl.Event) {
	t.Helper()
	if impl.HistOk(list) {
		t.Errorf("%v is a history", list)
	}
	if s := impl.HistPut(list); s != "" {
		t.Errorf("%v is written as %q", list, s)
	}
	if len(impl.HistCmds(list)) != 0 || len(impl.HistCame(list)) != 0 || impl.HistTasks(list) != 0 || impl.HistOpen(list) || impl.HistNews(list) {
		t.Errorf("of %v something is told", list)
	}
	for _, n := range []int{0, 1, 2, 99, -1} {
		if len(impl.HistCut(list, n)) != 0 {
			t.Errorf("%v is cut", list)
		}
	}
}

// checkHist says that events are a history, and written and read so.
func checkHist(t *testing.T, list []impl.Event, put string) {
	t.Helper()
	if !impl.HistOk(list) {
		t.Errorf("%s is no history", put)
	}
	if s := impl.HistPut(list); s != put {
		t.Errorf("%s is written as %s", put, s)
	}
	if back, ok := impl.HistGet(put); !ok || !slices.Equal(back, list) {
		t.Errorf("%s is read as %v %v", put, back, ok)
	}
}

// okHists is histories, by their lines.
var okHists = []string{
	"start 1",
	"start none",
	`start ""`,
	"start 1/cancel",
	"start 1/task 0",
	"start 1/task 0/cancel",
	"start 1/task 1/cmd 1 f 1",
	"start 1/task 1/cmd 1 f 1/cancel",
	"start 1/task 1/cmd 2  0",
	"start 1/task 1/cmd 3 f none",
	"start 1/task 1/cmd 4  none",
	"start 1/task 1/cmd 5  1",
	`start 1/task 1/cmd 6  ""`,
	"start 1/task 2/cmd 1 f 1/cmd 4  1",
	"start 1/task 3/cmd 1 f 1/cmd 1 f 1/cmd 5  1",
	// A signal may come whatever was asked for, and as often as it does.
	"start 1/came 4 0 ok up 1",
	"start 1/came 4 0 ok up 1/came 4 0 ok up 1/came 4 0 ok up 2/task 0",
	"start 1/came 4 0 ok up 1/cancel",
	"start 1/came 4 0 ok up 1/task 1/cmd 1 f 1",
	"start 1/task 0/came 4 0 ok up none/task 0/came 4 0 ok up none/task 0",
	"start 1/task 0/came 4 0 ok up none/task 1/cmd 4  1",
	// What comes for a place, ahead of and behind others.
	"start 1/task 1/cmd 1 f 1/came 1 0 ok  1",
	"start 1/task 1/cmd 1 f 1/came 1 0 no  none",
	"start 1/task 1/cmd 2  1/came 2 0 ok  none",
	"start 1/task 1/cmd 3 f 1/came 3 0 ok  1",
	"start 1/task 1/cmd 3 f 1/came 3 0 no  none",
	"start 1/task 2/cmd 1 f 1/cmd 2  5/came 2 1 ok  none/came 1 0 ok  2/task 0",
	"start 1/task 2/cmd 1 f 1/cmd 2  5/came 2 1 ok  none/task 0/came 1 0 ok  2/task 1/cmd 4  7",
	"start 1/task 1/cmd 1 f 1/came 1 0 ok  1/task 1/cmd 1 f 1/came 1 1 ok  1/came 4 0 ok up 1/task 1/cmd 3 f 1/came 3 2 ok  1/cancel",
	"start 1/task 1/cmd 1 f 1/came 4 0 ok up 1/came 1 0 ok  1",
	"start 1/task 0/came 4 0 ok up 1/task 1/cmd 1 f 1/came 1 0 ok  1/task 1/cmd 6  1",
}

// brokenHists is what is no history, by the sentence that is broken.
var brokenHists = map[string][]string{
	"no event":                     {""},
	"the first is another one":     {"task 0", "cmd 1 f 1", "cmd 4  1", "came 4 0 ok up 1", "came 1 0 ok  1", "cancel", "task 0/start 1", "came 4 0 ok up 1/start 1/task 0", "cancel/start 1", "task 1/cmd 1 f 1"},
	"a second EventStart":          {"start 1/start 1", "start 1/start 2", "start 1/task 0/start 1", "start 1/task 1/cmd 1 f 1/start 1", "start 1/came 4 0 ok up 1/start 1", "start 1/task 0/start 1/task 0", "start 1/start 1/task 0", "start 1/task 1/start 1/cmd 1 f 1"},
	"too few EventCmd":             {"start 1/task 1", "start 1/task 40", "start 1/task 2/cmd 1 f 1", "start 1/task 3/cmd 1 f 1/cmd 4  1", "start 1/task 1/cancel", "start 1/task 1/came 4 0 ok up 1", "start 1/task 1/came 4 0 ok up 1/cmd 1 f 1", "start 1/task 2/cmd 1 f 1/came 4 0 ok up 1/cmd 1 f 1", "start 1/task 2/cmd 1 f 1/came 1 0 ok  1/cmd 1 f 1", "start 1/task 2/cmd 1 f 1/cancel", "start 1/task 2/cmd 4  1", "start 1/task 1/came 4 0 ok up 1/task 0", "start 1/task 1/task 0"},
	"too many EventCmd":            {"start 1/task 0/cmd 1 f 1", "start 1/task 0/cmd 4  1", "start 1/task 1/cmd 1 f 1/cmd 1 f 1", "start 1/task 1/cmd 1 f 1/cmd 4  1", "start 1/cmd 1 f 1", "start 1/cmd 4  1", "start 1/came 4 0 ok up 1/cmd 1 f 1", "start 1/task 0/came 4 0 ok up 1/cmd 1 f 1", "start 1/task 1/cmd 1 f 1/came 1 0 ok  1/cmd 4  1", "start 1/cmd 1 f 1/task 1", "start 1/cmd 1 f 1/task 0"},
	"an end is not the last there": {"start 1/task 2/cmd 4  1/cmd 1 f 1", "start 1/task 2/cmd 5  1/cmd 2  1", "start 1/task 2/cmd 6  1/cmd 3 f 1", "start 1/task 2/cmd 4  1/cmd 4  1", "start 1/task 3/cmd 1 f 1/cmd 5  1/cmd 6  1"},
	"an end is not the last": {"start 1/task 1/cmd 4  1/cancel", "start 1/task 1/cmd 5  1/cancel", "start 1/task 1/cmd 6  1/cancel", "start 1/task 1/cmd 4  1/came 4 0 ok up 1", "start 1/task 1/cmd 5  1/came 4 0 ok up 1/task 0", "start 1/task 1/cmd 6  1/came 4 0 ok up 1/task 1/cmd 6  1",
		"start 1/task 2/cmd 1 f 1/cmd 4  1/came 1 0 ok  1", "start 1/task 1/cmd 4  1/task 0", "start 1/task 1/cmd 4  1/start 1", "start 1/task 0/came 4 0 ok up 1/task 1/cmd 5  1/came 4 0 ok up 1"},
	"EventCancel is not the last":            {"start 1/cancel/cancel", "start 1/cancel/task 0", "start 1/cancel/came 4 0 ok up 1", "start 1/cancel/came 4 0 ok up 1/task 0", "start 1/cancel/start 1", "start 1/task 1/cmd 1 f 1/cancel/came 1 0 ok  1", "start 1/cancel/task 1/cmd 4  1"},
	"nothing between two tasks":              {"start 1/task 0/task 0", "start 1/task 1/cmd 1 f 1/task 0", "start 1/task 0/task 1/cmd 1 f 1", "start 1/task 1/cmd 1 f 1/task 1/cmd 4  1", "start 1/task 0/came 4 0 ok up 1/task 0/task 0", "start 1/came 4 0 ok up 1/came 4 0 ok up 1/task 0/task 0"},
	"it comes for what was not asked for":    {"start 1/came 1 0 ok  1", "start 1/came 2 0 ok  none", "start 1/came 3 0 no  none", "start 1/task 0/came 1 0 ok  1", "start 1/task 1/cmd 1 f 1/came 1 1 ok  1", "start 1/task 1/cmd 1 f 1/came 1 39 ok  1", "start 1/task 2/cmd 1 f 1/cmd 1 f 1/came 1 2 ok  1/task 0"},
	"it comes ahead of what was asked for":   {"start 1/came 1 0 ok  1/task 1/cmd 1 f 1", "start 1/task 1/cmd 1 f 1/came 1 1 ok  1/task 1/cmd 1 f 1"},
	"it comes for something of another kind": {"start 1/task 1/cmd 1 f 1/came 2 0 ok  none", "start 1/task 1/cmd 1 f 1/came 3 0 ok  1", "start 1/task 1/cmd 2  1/came 1 0 ok  1", "start 1/task 1/cmd 2  1/came 3 0 ok  none", "start 1/task 1/cmd 3 f 1/came 1 0 ok  1", "start 1/task 1/cmd 3 f 1/came 2 0 ok  none", "start 1/task 2/cmd 1 f 1/cmd 2  1/came 1 1 ok  1", "start 1/task 2/cmd 1 f 1/cmd 2  1/came 2 0 ok  none"},
	"it comes twice":                         {"start 1/task 1/cmd 1 f 1/came 1 0 ok  1/came 1 0 ok  1", "start 1/task 1/cmd 1 f 1/came 1 0 ok  1/came 1 0 no  none", "start 1/task 1/cmd 1 f 1/came 1 0 no  none/task 0/came 1 0 ok  1", "start 1/task 1/cmd 2  1/came 2 0 ok  none/came 2 0 ok  none", "start 1/task 1/cmd 3 f 1/came 3 0 ok  1/task 1/cmd 3 f 1/came 3 0 ok  1", "start 1/task 1/cmd 1 f 1/came 1 0 ok  1/came 4 0 ok up 1/came 1 0 ok  1/task 0"},
	"an event is not ok":                     {"start 1/task -1", "start 1/task 41", "start 1000000001", "start 1/task 1/cmd 0 f 1", "start 1/task 1/cmd 7  1", "start 1/task 1/cmd 1  1", "start 1/task 1/cmd 1 1 1", "start 1/task 1/cmd 1 let 1", "start 1/task 1/cmd 2  -1", "start 1/task 1/cmd 2  none", "start 1/task 1/cmd 2 f 1", "start 1/task 1/cmd 4 f 1", "start 1/came 4 0 no up none", "start 1/came 4 0 ok  1", "start 1/came 4 1 ok up 1", "start 1/came 5 0 ok up 1", "start 1/came 0 0 ok  1", "start 1/task 1/cmd 1 f 1/came 1 0 no  1", "start 1/task 1/cmd 1 f 1/came 1 0 ok f 1", "start 1/task 1/cmd 1 f 1/came 1 -1 ok  1", "start 1/task 1/cmd 1 f 1/came 1 40 ok  1", "start 1/task 1/cmd 2  1/came 2 0 no  none", "start 1/task 1/cmd 2  1/came 2 0 ok  1"},
}

func TestHistories(t *testing.T) {
	for _, s := range okHists {
		checkHist(t, events(s), strings.ReplaceAll(s, "/", "\n")+"\n")
		if !modelHist(events(s)) {
			t.Errorf("%s is none here", s)
		}
	}
	for why, list := range brokenHists {
		for _, s := range list {
			checkNoHist(t, events(s))
			if modelHist(events(s)) {
				t.Errorf("%s: %s is a history here", why, s)
			}
			put := strings.ReplaceAll(s, "/", "\n") + "\n"
			if back, ok := impl.HistGet(put); ok || len(back) != 0 {
				t.Errorf("%s: %s is read as %v %v", why, s, back, ok)
			}
		}
	}
}

// Each event is written as the document has it.
func TestLinesOfEvents(t *testing.T) {
	list := []impl.Event{began(text("a b")), task(5), asks(impl.CmdCall, "get", num(-3)), asks(impl.CmdTimer, "", num(7)), asks(impl.CmdChild, "one", impl.Value{}), asks(impl.CmdCall, "f", text(" ")), asks(impl.CmdCall, "g", text("")),
		comes(answer(0, text("ok no"))), comes(fired(1)), comes(impl.Came{Kind: impl.CameChild, Place: 2}), comes(signal("up", text("  "))), comes(noAnswer(3)), comes(answer(4, impl.Value{})), task(1), asks(impl.CmdDone, "", text("start 1"))}
	checkHist(t, list, lines(`start "a b"`, "task 5", "cmd 1 get -3", "cmd 2  7", "cmd 3 one none", `cmd 1 f " "`, `cmd 1 g ""`,
		`came 1 0 ok  "ok no"`, "came 2 1 ok  none", "came 3 2 no  none", `came 4 0 ok up "  "`, "came 1 3 no  none", "came 1 4 ok  none", "task 1", `cmd 4  "start 1"`))
	for kind, want := range map[int]string{impl.CmdDone: "cmd 4  1\n", impl.CmdFail: "cmd 5  1\n", impl.CmdAgain: "cmd 6  1\n"} {
		checkHist(t, []impl.Event{began(num(1)), task(1), asks(kind, "", num(1))}, "start 1\ntask 1\n"+want)
	}
	checkHist(t, []impl.Event{began(num(1)), calledOff()}, "start 1\ncancel\n")
	for _, v := range okValues {
		checkHist(t, []impl.Event{began(v.value)}, "start "+v.text+"\n")
		checkHist(t, []impl.Event{began(num(1)), comes(signal("up", v.value)), task(2), asks(impl.CmdChild, "f", v.value), asks(impl.CmdAgain, "", v.value)}, lines("start 1", "came 4 0 ok up "+v.text, "task 2", "cmd 3 f "+v.text, "cmd 6  "+v.text))
	}
}

// wrongHistTexts is texts that no history is written as.
var wrongHistTexts = []string{
	"", "\n", " ", "start", "start\n", "start \n", "start 1", "start 1 \n", " start 1\n", "start  1\n", "start 1\n\n", "\nstart 1\n", "start 1\n ", "start 1\n\ntask 0\n", "start 1\r\n", "start\t1\n", "Start 1\n", "start 01\n", "start +1\n", "start -0\n", "start 1 2\n",
	"start a\n", "start \"a\n", "start \"\n\"\n", "start \"a\"\"\n", "start none \n", "start 1000000001\n", "start \"zzzzzzzzzzzzzzzzzzzzzzzzz\"\n", "starts 1\n", "start1\n", "1\n", "start 1\x00\n", "start 1 # note\n", "# note\nstart 1\n",
	"start 1\ntask\n", "start 1\ntask \n", "start 1\ntask 00\n", "start 1\ntask +0\n", "start 1\ntask -0\n", "start 1\ntask 0 \n", "start 1\ntask 0", "start 1\ntask x\n", "start 1\ntask none\n", "start 1\ntask 99999999999999999999\n", "start 1\ntask 0 0\n",
	"start 1\ntask 1\ncmd\n", "start 1\ntask 1\ncmd 1\n", "start 1\ntask 1\ncmd 1 f\n", "start 1\ntask 1\ncmd 1 f \n", "start 1\ntask 1\ncmd 01 f 1\n", "start 1\ntask 1\ncmd 1 f 1 \n", "start 1\ntask 1\ncmd 1  f 1\n", "start 1\ntask 1\ncmd 1 f  1\n", "start 1\ntask 1\ncmd 4 1\n", "start 1\ntask 1\ncmd 4 none 1\n", "start 1\ntask 1\ncmd 4   1\n", "start 1\ntask 1\ncmd x f 1\n", "start 1\ntask 1\ncmd 1 f 1", "start 1\ntask 1\ncmd one f 1\n", "start 1\ntask 01\ncmd 1 f 1\n", "start 1\ntask 1\ncmd 99999999999999999999 f 1\n",
	"start 1\ncame\n", "start 1\ncame 4 0 ok up\n", "start 1\ncame 4 0 ok up \n", "start 1\ncame 4 0 yes up 1\n", "start 1\ncame 4 0 no up 1\n", "start 1\ncame 4 0  up 1\n", "start 1\ncame 4 0 OK up 1\n", "start 1\ncame 4 00 ok up 1\n", "start 1\ncame 4 +0 ok up 1\n", "start 1\ncame 4 -0 ok up 1\n", "start 1\ncame 04 0 ok up 1\n", "start 1\ncame 4 0 ok  up 1\n", "start 1\ncame 4 0 ok up  1\n", "start 1\ncame 4 0 ok up 1 \n", "start 1\ncame 4 x ok up 1\n", "start 1\ncame 4  ok up 1\n", "start 1\ncame 4 0 ok up 1",
	"start 1\ntask 1\ncmd 1 f 1\ncame 1 0 ok 1\n", "start 1\ntask 1\ncmd 1 f 1\ncame 1 0 ok   1\n", "start 1\ntask 1\ncmd 1 f 1\ncame 1 0 maybe  none\n", "start 1\ntask 1\ncmd 1 f 1\ncame 1 0   none\n", "start 1\ntask 1\ncmd 1 f 1\ncame 1 x no  none\n", "start 1\ntask 1\ncmd 1 f 1\ncame 1 0 no  x\n",
	"start 1\ncancel", "start 1\ncancel \n", "start 1\ncancel 1\n", "start 1\n cancel\n", "start 1\ncancels\n", "start 1\nCancel\n", "start 1\ncancel\n\n", "start 1\ncancelcancel\n",
	"start 1\nother\n", "start 1\n0\n", "start 1\nend\n",
}

func TestHistGetOfWrong(t *testing.T) {
	for _, s := range wrongHistTexts {
		if list, ok := impl.HistGet(s); ok || len(list) != 0 {
			t.Errorf("%q is read as %v", s, list)
		}
	}
	for _, s := range wrongTexts {
		for _, whole := range []string{"start " + s + "\n", "start 1\ntask 1\ncmd 1 f " + s + "\n", "start 1\ncame 4 0 ok up " + s + "\n"} {
			if list, ok := impl.HistGet(whole); ok || len(list) != 0 {
				t.Errorf("%q is read as %v", whole, list)
			}
		}
	}
	for _, s := range slices.Concat(wrongNames, keptWords) {
		for _, whole := range []string{"start 1\ntask 1\ncmd 1 " + s + " 1\n", "start 1\ntask 1\ncmd 3 " + s + " 1\n", "start 1\ncame 4 0 ok " + s + " 1\n"} {
			if list, ok := impl.HistGet(whole); ok || len(list) != 0 {
				t.Errorf("%q is read as %v", whole, list)
			}
		}
	}
	// Long texts are none either.
	for _, s := range []string{strings.Repeat("start 1\n", 100000), "start 1\n" + strings.Repeat("task 0\n", 100000), strings.Repeat("\n", 100000), strings.Repeat("x", 1000000), "start " + strings.Repeat("9", 100000) + "\n"} {
		if list, ok := impl.HistGet(s); ok || len(list) != 0 {
			t.Errorf("a text of %d bytes is read as %v", len(s), list)
		}
	}
}

// wrongEvents is events that are not ok: a part too much, or one that is wrong.
func wrongEvents() []impl.Event {
	var list []impl.Event
	v, c, w := num(1), cmd(impl.CmdCall, "f", num(1)), signal("up", num(1))
	for _, e := range []impl.Event{began(num(1)), task(0), asks(impl.CmdDone, "", num(1)), comes(w), calledOff()} {
		with := []impl.Event{e, e, e, e, e, e, e}
		with[0].Value, with[1].Many, with[2].Cmd, with[3].Came = v, 1, c, w
		with[4].Value.Text, with[5].Cmd.Arg, with[6].Came.Ok = "x", v, !e.Came.Ok
		for i, kind := range []int{impl.EventStart, impl.EventTask, impl.EventCmd, impl.EventCame, 0, impl.EventCmd, 0} {
			if e.Kind != kind {
				list = append(list, with[i])
			}
		}
		for _, many := range []int{-1, 1, impl.CmdMax} {
			if e.Kind != impl.EventTask {
				e.Many = many
				list = append(list, e)
			}
		}
	}
	for _, kind := range []int{0, -1, 6, 7, 100, math.MaxInt, math.MinInt} {
		list = append(list, impl.Event{Kind: kind}, impl.Event{Kind: kind, Value: v}, impl.Event{Kind: kind, Cmd: c}, impl.Event{Kind: kind, Came: w}, impl.Event{Kind: kind, Many: 1})
	}
	for _, v := range wrongValues {
		list = append(list, began(v), asks(impl.CmdDone, "", v), asks(impl.CmdCall, "f", v), comes(signal("up", v)), comes(answer(0, v)))
	}
	for _, many := range []int{-1, -impl.CmdMax, impl.CmdMax + 1, 1000, math.MaxInt, math.MinInt} {
		list = append(list, task(many))
	}
	for _, c := range wrongCame() {
		list = append(list, comes(c))
	}
	for _, s := range append(slices.Clone(wrongNames), keptWords...) {
		list = append(list, asks(impl.CmdCall, s, v), comes(signal(s, v)))
	}
	return append(list, asks(0, "", v), asks(7, "", v), asks(impl.CmdTimer, "", num(-1)), asks(impl.CmdTimer, "", text("")), asks(impl.CmdFail, "f", v))
}

func TestWrongEvents(t *testing.T) {
	for _, e := range wrongEvents() {
		if modelEvent(e) {
			t.Errorf("%v is ok", e)
		}
		start, asked := began(num(1)), asks(impl.CmdCall, "f", num(1))
		checkNoHist(t, []impl.Event{e})
		checkNoHist(t, []impl.Event{start, e})
		checkNoHist(t, []impl.Event{start, task(0), e})
		checkNoHist(t, []impl.Event{start, task(1), e})
		checkNoHist(t, []impl.Event{start, task(1), asked, e})
		checkNoHist(t, []impl.Event{start, task(2), asked, e})
		checkNoHist(t, []impl.Event{e, task(0)})
		checkNoHist(t, []impl.Event{start, task(1), asked, e, task(0)})
		checkNoHist(t, append([]impl.Event{start, e}, called(max(0, min(e.Many, 50)))...))
		checkNoHist(t, append([]impl.Event{start, e}, called(max(0, min(e.Many, 50)))[1:]...))
	}
}

func TestNoHistoryAtAll(t *testing.T) {
	checkNoHist(t, nil)
	checkNoHist(t, []impl.Event{})
	checkNoHist(t, make([]impl.Event, 0, 5))
}

// HistOk is by each sentence alone, of what is thrown and of what was changed by one event.
func TestHistOkOfThrown(t *testing.T) {
	is, not := 0, 0
	for i, list := range hists() {
		if !modelHist(list) || !impl.HistOk(list) {
			t.Fatalf("%s is no history", written(list))
		}
		d := &dice{uint32(i)*31 + 5}
		for range 40 {
			other := d.changed(list)
			if got, want := impl.HistOk(other), modelHist(other); got != want {
				t.Fatalf("%s is a history: %v", written(other), got)
			} else if want {
				is++
				checkHist(t, other, written(other))
			} else {
				not++
				if not%10 == 0 {
					checkNoHist(t, other)
				}
			}
		}
	}
	if is < 3000 || not < 3000 {
		t.Errorf("%d are histories, %d not", is, not)
	}
}

func TestLimitsOfHistories(t *testing.T) {
	start := []impl.Event{began(num(1))}
	// Things asked for by one task, and by several.
	checkHist(t, append(start, called(impl.CmdMax)...), written(append(start, called(impl.CmdMax)...)))
	checkNoHist(t, append(start, called(impl.CmdMax+1)...))
	up := comes(signal("up", num(1)))
	for _, parts := range [][]int{{20, 20}, {39, 1}, {1, 39}, {40, 0}, {0, 40}, {13, 13, 14}} {
		list := slices.Clone(start)
		for i, n := range parts {
			if i > 0 {
				list = append(list, up)
			}
			list = append(list, called(n)...)
		}
		checkHist(t, list, written(list))
		if len(impl.HistCmds(list)) != impl.CmdMax {
			t.Errorf("by %v there are %d", parts, len(impl.HistCmds(list)))
		}
		for n := 1; n <= impl.CmdMax; n += 13 {
			checkNoHist(t, slices.Concat(list, []impl.Event{up}, called(n)))
		}
		more := slices.Concat(list, []impl.Event{up, task(0), comes(answer(39, num(1)))})
		checkHist(t, more, written(more))
		checkNoHist(t, slices.Concat(list, []impl.Event{up, task(1), asks(impl.CmdDone, "", num(1))}))
	}
	// An end is one of these.
	full := slices.Concat(start, called(impl.CmdMax))
	full[len(full)-1] = asks(impl.CmdFail, "", text("many"))
	checkHist(t, full, written(full))
	// Things that came, with tasks between and without, of all kinds.
	for _, between := range []bool{false, true} {
		list := slices.Concat(start, called(3))
		for i := range impl.CameMax {
			c := signal("up", num(i))
			if i < 3 {
				c = answer(2-i, num(i))
			}
			list = append(list, comes(c))
			if between {
				list = append(list, task(0))
			}
		}
		checkHist(t, list, written(list))
		if len(impl.HistCame(list)) != impl.CameMax {
			t.Errorf("there came %d", len(impl.HistCame(list)))
		}
		checkNoHist(t, append(slices.Clone(list), up))
		checkNoHist(t, append(slices.Clone(list), up, task(0)))
		checkHist(t, append(slices.Clone(list), calledOff()), written(list)+"cancel\n")
	}
}

// A history is bound by what it asks for and by what came ahead of HistMax: the longest has 163 events, and no list of HistMax, or of more, is one.
func TestHistMax(t *testing.T) {
	list := longest()
	checkHist(t, list, written(list))
	if want := 1 + impl.CmdMax + 2*impl.CameMax + 1 + 1; len(list) != want {
		t.Errorf("it has %d events, not %d", len(list), want)
	}
	open := slices.Clip(list[:len(list)-1])
	for _, e := range append(otherEvents(), wrongEvents()...) {
		if e != calledOff() {
			checkNoHist(t, append(open, e))
		}
	}
	for _, size := range []int{impl.HistMax - 1, impl.HistMax, impl.HistMax + 1, 10 * impl.HistMax} {
		tasks := slices.Clone(open)
		for len(tasks) < size {
			tasks = append(tasks, comes(signal("up", num(1))), task(0))
		}
		checkNoHist(t, tasks[:size])
		checkNoHist(t, slices.Repeat([]impl.Event{began(num(1))}, size))
		came := append([]impl.Event{began(num(1))}, slices.Repeat([]impl.Event{comes(signal("up", num(1)))}, size-1)...)
		checkNoHist(t, came)
		if list, ok := impl.HistGet(written(came)); ok || len(list) != 0 {
			t.Errorf("a history of %d events is read", size)
		}
		checkNoHist(t, append([]impl.Event{began(num(1))}, called(size-2)...))
	}
}

func TestWhatAHistoryTells(t *testing.T) {
	for _, c := range []struct {
		hist, cmds, came string
		tasks            int
		open, news       bool
	}{
		{"start 1", "", "", 0, true, true},
		{"start 1/cancel", "", "", 0, false, false},
		{"start 1/came 4 0 ok up 1", "", "came 4 0 ok up 1", 0, true, true},
		{"start 1/came 4 0 ok up 1/cancel", "", "came 4 0 ok up 1", 0, false, false},
		{"start 1/task 0", "", "", 1, true, false},
		{"start 1/task 0/cancel", "", "", 1, false, false},
		{"start 1/task 0/came 4 0 ok up 1/came 4 0 ok down 2", "", "came 4 0 ok up 1/came 4 0 ok down 2", 1, true, true},
		{"start 1/task 0/came 4 0 ok up 1/cancel", "", "came 4 0 ok up 1", 1, false, false},
		{"start 1/task 0/came 4 0 ok up 1/task 0", "", "came 4 0 ok up 1", 2, true, false},
		{"start 1/task 2/cmd 1 f 1/cmd 2  3", "cmd 1 f 1/cmd 2  3", "", 1, true, false},
		{"start 1/task 2/cmd 1 f 1/cmd 2  3/came 2 1 ok  none", "cmd 1 f 1/cmd 2  3", "came 2 1 ok  none", 1, true, true},
		{"start 1/task 2/cmd 1 f 1/cmd 2  3/came 2 1 ok  none/task 1/cmd 5  9", "cmd 1 f 1/cmd 2  3/cmd 5  9", "came 2 1 ok  none", 2, false, false},
		{"start 1/task 1/cmd 4  1", "cmd 4  1", "", 1, false, false},
		{"start 1/task 1/cmd 5  1", "cmd 5  1", "", 1, false, false},
		{"start 1/task 1/cmd 6  1", "cmd 6  1", "", 1, false, false},
		{"start 1/task 1/cmd 3 f 1/came 3 0 no  none/came 4 0 ok a 2/task 1/cmd 1 g 2/came 1 1 ok  4/task 0", "cmd 3 f 1/cmd 1 g 2", "came 3 0 no  none/came 4 0 ok a 2/came 1 1 ok  4", 3, true, false},
	} {
		list := events(c.hist)
		var cmds, came []impl.Event
		for _, one := range impl.HistCmds(list) {
			cmds = append(cmds, impl.Event{Kind: impl.EventCmd, Cmd: one})
		}
		for _, one := range impl.HistCame(list) {
			came = append(came, comes(one))
		}
		if !slices.Equal(cmds, events(c.cmds)) || !slices.Equal(came, events(c.came)) {
			t.Errorf("%s asks %v, and there came %v", c.hist, cmds, came)
		}
		if impl.HistTasks(list) != c.tasks || impl.HistOpen(list) != c.open || impl.HistNews(list) != c.news {
			t.Errorf("%s has %d tasks, open %v, news %v", c.hist, impl.HistTasks(list), impl.HistOpen(list), impl.HistNews(list))
		}
	}
}

func TestHistCut(t *testing.T) {
	const whole = "start 1/came 4 0 ok up 1/task 0/came 4 0 ok up 2/task 2/cmd 1 f 1/cmd 2  3/came 2 1 ok  none/came 1 0 ok  5/task 1/cmd 3 g 1/came 3 2 ok  7"
	cuts := map[int]string{
		0: "", -1: "", math.MinInt: "",
		1: "start 1/came 4 0 ok up 1/task 0",
		2: "start 1/came 4 0 ok up 1/task 0/came 4 0 ok up 2/task 2/cmd 1 f 1/cmd 2  3",
		3: "start 1/came 4 0 ok up 1/task 0/came 4 0 ok up 2/task 2/cmd 1 f 1/cmd 2  3/came 2 1 ok  none/came 1 0 ok  5/task 1/cmd 3 g 1",
		4: whole, 5: whole, 100: whole, math.MaxInt: whole,
	}
	for n, want := range cuts {
		if got := impl.HistCut(events(whole), n); !slices.Equal(got, events(want)) {
			t.Errorf("by %d tasks it is %s", n, written(got))
		}
	}
	for s, want := range map[string]string{
		"start 1":                               "start 1",
		"start 1/cancel":                        "start 1/cancel",
		"start 1/came 4 0 ok up 1":              "start 1/came 4 0 ok up 1",
		"start 1/task 0/cancel":                 "start 1/task 0",
		"start 1/task 1/cmd 4  1":               "start 1/task 1/cmd 4  1",
		"start 1/task 1/cmd 1 f 1/cancel":       "start 1/task 1/cmd 1 f 1",
		"start 1/task 0/came 4 0 ok up 1":       "start 1/task 0",
		"start 1/task 0/came 4 0 ok u 1/cancel": "start 1/task 0",
	} {
		if got := impl.HistCut(events(s), 1); !slices.Equal(got, events(want)) {
			t.Errorf("%s by 1 task is %s", s, written(got))
		}
		if got := impl.HistCut(events(s), 2); !slices.Equal(got, events(s)) {
			t.Errorf("%s by 2 tasks is %s", s, written(got))
		}
		if got := impl.HistCut(events(s), 0); len(got) != 0 {
			t.Errorf("%s by 0 tasks is %s", s, written(got))
		}
	}
	for why, list := range brokenHists {
		for _, s := range list {
			for _, n := range []int{-1, 0, 1, 2, 9, math.MaxInt} {
				if got := impl.HistCut(events(s), n); len(got) != 0 {
					t.Errorf("%s: %s", why, fmt.Sprint(got))
				}
			}
		}
	}
}
