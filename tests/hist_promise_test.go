package tests

import (
	"math"
	"slices"
	"strings"
	"testing"

	"loop.example/backstitch/impl"
)

// bent is texts that are as another one but for a byte, a line or an end.
func (d *dice) bent(s string) string {
	at := d.upTo(len(s))
	signs := " \n0123456789-\"abokn\x00\xff"
	sign := string(signs[d.upTo(len(signs))])
	all := strings.SplitAfter(s, "\n")
	line := d.upTo(len(all))
	switch d.upTo(7) {
	case 0:
		return s[:at] + s[at+1:]
	case 1:
		return s[:at] + sign + s[at:]
	case 2:
		return s[:at] + sign + s[at+1:]
	case 3:
		return s[:at]
	case 4:
		return strings.Join(slices.Delete(all, line, line+1), "")
	case 5:
		return strings.Join(slices.Insert(all, line, all[d.upTo(len(all))]), "")
	}
	to := d.upTo(len(all))
	all[line], all[to] = all[to], all[line]
	return strings.Join(all, "")
}

// Promise 19: a history is read back from its text.
func TestPromise19(t *testing.T) {
	for i, list := range hists() {
		put := impl.HistPut(list)
		if put != written(list) {
			t.Fatalf("%s is written as %s", written(list), put)
		}
		back, ok := impl.HistGet(put)
		if !ok || !slices.Equal(back, list) {
			t.Fatalf("%s is read as %s, %v", put, written(back), ok)
		}
		d := &dice{uint32(i)*17 + 3}
		for range 20 {
			s := d.bent(put)
			back, ok := impl.HistGet(s)
			if ok && (!modelHist(back) || impl.HistPut(back) != s || written(back) != s) || !ok && len(back) != 0 {
				t.Fatalf("%q is read as %s, %v", s, written(back), ok)
			}
		}
	}
}

// Promise 20: a history up to a task is one.
func TestPromise20(t *testing.T) {
	cuts := 0
	for _, list := range hists() {
		ends := modelEnds(list)
		for n := 1; n <= len(ends)+2; n++ {
			want := list
			if n <= len(ends) {
				want = list[:ends[n-1]]
				cuts++
			}
			cut := impl.HistCut(list, n)
			if !slices.Equal(cut, want) || !impl.HistOk(cut) || impl.HistTasks(cut) != min(n, len(ends)) {
				t.Fatalf("%s by %d tasks is %s", written(list), n, written(cut))
			}
			if again := impl.HistCut(cut, n); !slices.Equal(again, cut) {
				t.Fatalf("%s by %d tasks again is %s", written(list), n, written(again))
			}
		}
		for _, n := range []int{0, -1, math.MinInt} {
			if cut := impl.HistCut(list, n); len(cut) != 0 {
				t.Fatalf("%s by %d tasks is %s", written(list), n, written(cut))
			}
		}
		if !slices.Equal(impl.HistCut(list, math.MaxInt), list) {
			t.Fatalf("%s is not all of it", written(list))
		}
	}
	if cuts < 5000 {
		t.Errorf("only %d cuts", cuts)
	}
}

// Promise 21: a history has as many things asked for as its tasks tell, and as many that came as it has room for.
func TestPromise21(t *testing.T) {
	for _, list := range hists() {
		all := 0
		for _, e := range only(list, impl.EventTask) {
			all += e.Many
		}
		cmds, came := impl.HistCmds(list), impl.HistCame(list)
		if len(cmds) != all || len(cmds) > impl.CmdMax || len(came) > impl.CameMax || impl.HistTasks(list) > len(came)+1 {
			t.Errorf("%s has %d tasks, asks %d, and there came %d", written(list), impl.HistTasks(list), len(cmds), len(came))
		}
		if impl.HistTasks(list) != len(only(list, impl.EventTask)) {
			t.Errorf("%s has %d tasks", written(list), impl.HistTasks(list))
		}
		for i, e := range only(list, impl.EventCmd) {
			if cmds[i] != e.Cmd {
				t.Errorf("%s asks %v", written(list), cmds)
			}
		}
		for i, e := range only(list, impl.EventCame) {
			if came[i] != e.Came {
				t.Errorf("%s has %v", written(list), came)
			}
		}
		if len(came) != len(only(list, impl.EventCame)) {
			t.Errorf("%s has %v", written(list), came)
		}
	}
}

// Promise 22: behind an end nothing stands.
func TestPromise22(t *testing.T) {
	all := append(otherEvents(), wrongEvents()[:20]...)
	open, shut := 0, 0
	for _, list := range hists() {
		is := impl.HistOpen(list)
		if is != modelOpen(list) || is != impl.HistOk(append(slices.Clip(list), calledOff())) {
			t.Errorf("%s is open: %v", written(list), is)
		}
		if is {
			open++
			continue
		}
		shut++
		for _, e := range append(all, list...) {
			if impl.HistOk(append(slices.Clip(list), e)) {
				t.Errorf("behind %s may stand %v", written(list), e)
			}
		}
	}
	if open < 500 || shut < 300 {
		t.Errorf("%d are open, %d not", open, shut)
	}
}

// Promise 23: something that comes is news, and a task takes it.
func TestPromise23(t *testing.T) {
	news := 0
	for _, list := range hists() {
		last := lastKind(list)
		want := last == impl.EventStart || last == impl.EventCame
		if impl.HistNews(list) != want {
			t.Errorf("%s has news: %v", written(list), !want)
		}
		more := append(slices.Clip(list), comes(signal("up", num(1))))
		room := len(impl.HistCame(list)) < impl.CameMax
		if got := impl.HistNews(more); got != (impl.HistOpen(list) && room) {
			t.Errorf("%s has news: %v", written(more), got)
		}
		if !want {
			// A task has something to take, or may not stand there.
			checkNoHist(t, append(slices.Clip(list), task(0)))
			continue
		}
		news++
		taken := append(slices.Clip(list), task(0))
		if !impl.HistOk(taken) || impl.HistNews(taken) || !impl.HistOpen(taken) {
			t.Errorf("%s has news: %v", written(taken), impl.HistNews(taken))
		}
		if ended := append(slices.Clip(list), task(1), asks(impl.CmdDone, "", num(1))); impl.HistNews(ended) {
			t.Errorf("%s has news", written(ended))
		}
		if off := append(slices.Clip(list), calledOff()); impl.HistNews(off) {
			t.Errorf("%s has news", written(off))
		}
	}
	if news < 100 {
		t.Errorf("only %d have news", news)
	}
}

// Promise 73: a history has a line for each event.
func TestPromise73(t *testing.T) {
	for _, list := range hists() {
		put := impl.HistPut(list)
		if strings.Count(put, "\n") != len(list) || !strings.HasSuffix(put, "\n") {
			t.Errorf("%v is written as %q", list, put)
		}
		for i, line := range strings.Split(strings.TrimSuffix(put, "\n"), "\n") {
			if word := []string{"start", "task", "cmd", "came", "cancel"}[list[i].Kind-1]; strings.Split(line, " ")[0] != word {
				t.Errorf("%v is written as %q", list[i], line)
			}
		}
		for n := range impl.HistTasks(list) {
			cut := impl.HistPut(impl.HistCut(list, n+1))
			if !strings.HasPrefix(put, cut) || cut == "" {
				t.Errorf("%q does not begin with %q", put, cut)
			}
		}
	}
}

// Promise 83: a history begins once, with what is given.
func TestPromise83(t *testing.T) {
	for i, list := range hists() {
		if list[0].Kind != impl.EventStart || len(only(list, impl.EventStart)) != 1 {
			t.Errorf("%s begins otherwise", written(list))
		}
		checkNoHist(t, list[1:])
		for at := range len(list) + 1 {
			if i%10 == 0 || at == 0 || at == len(list) {
				checkNoHist(t, slices.Insert(slices.Clone(list), at, began(num(1))))
			}
		}
		if !impl.HistOpen(list) {
			continue
		}
		off := append(slices.Clip(list), calledOff())
		for _, e := range otherEvents() {
			if impl.HistOk(append(off, e)) {
				t.Errorf("behind %s may stand %v", written(off), e)
			}
		}
	}
}
