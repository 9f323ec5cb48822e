package tests

import (
	"math"
	"slices"
	"strings"
	"testing"

	"loop.example/backstitch/impl"
)

// one is a program of the steps that a text tells.
func one(t *testing.T, s string) impl.Prog {
	t.Helper()
	return getProg(t, "program one {"+s+"}")
}

func noOut(o impl.Out) bool {
	return sameOut(o, impl.Out{})
}

const (
	getPut  = "call a = get(in); call b = put(a); done b;"
	gotPut  = "start 1/task 1/cmd 1 get 1/came 1 0 ok  5/task 1/cmd 1 put 5/came 1 1 ok  7/task 1/cmd 4  7"
	both    = "go a = f(in); go b = g(in); join c = a; join d = b; done (c + d);"
	gotBoth = "start 1/task 2/cmd 1 f 1/cmd 1 g 1/came 1 1 ok  2/task 0/came 1 0 ok  3/task 1/cmd 4  5"
)

// replays is programs, histories, the event that is not as the program has it, and how it stands as it was done last.
var replays = []struct {
	prog, hist string
	at         int
	out        string
}{
	// As it was.
	{getPut, gotPut, -1, "done 7; call get 1, call put 5, done 7; in=1 a=5 b=7; 3"},
	{both, gotBoth, -1, "done 5; call f 1, call g 1, done 5; in=1 c=3 d=2; 5"},
	{getPut, "start 1/task 1/cmd 1 get 1", -1, "waits place 0; call get 1; in=1; 1"},
	{getPut, "start 1/task 1/cmd 1 get 1/came 1 0 ok  5/task 1/cmd 1 put 5", -1, "waits place 1; call get 1, call put 5; in=1 a=5; 2"},
	{"sleep 3; child a = two(in); done a;", "start 1/task 1/cmd 2  3/came 2 0 ok  none/task 1/cmd 3 two 1/came 3 1 no  none/task 1/cmd 4  none", -1, "done none; timer 3, child two 1, done none; in=1 a=none; 3"},
	{"wait a = up; again a;", `start 1/task 0/came 4 0 ok down 1/task 0/came 4 0 ok up "x"/task 1/cmd 6  "x"`, -1, `again "x"; again "x"; in=1 a="x"; 2`},
	{"fail in;", "start 1/task 1/cmd 5  1", -1, "fail 1; fail 1; in=1; 1"},
	// Something that came since the last task is not done yet, nor does it matter that it was called off.
	{getPut, "start 1/task 1/cmd 1 get 1/came 1 0 ok  5", -1, "waits place 0; call get 1; in=1; 1"},
	{getPut, "start 1/task 1/cmd 1 get 1/cancel", -1, "waits place 0; call get 1; in=1; 1"},
	{getPut, "start 1/task 1/cmd 1 get 1/came 1 0 ok  5/cancel", -1, "waits place 0; call get 1; in=1; 1"},
	// Nothing was done: no program is another one.
	{getPut, "start 1", -1, ""},
	{getPut, "start 1/cancel", -1, ""},
	{getPut, "start 1/came 4 0 ok up 1", -1, ""},
	{"done in;", "start 1/came 4 0 ok up 1/came 4 0 ok up 1/cancel", -1, ""},
	// Several things that came ahead of one task.
	{"wait a = up; wait b = up; done (a - b);", "start 1/came 4 0 ok up 1/came 4 0 ok up 5/task 1/cmd 4  -4", -1, "done -4; done -4; in=1 a=1 b=5; 3"},
	{both, "start 1/task 2/cmd 1 f 1/cmd 1 g 1/came 1 1 ok  2/came 1 0 ok  3/task 1/cmd 4  5", -1, "done 5; call f 1, call g 1, done 5; in=1 c=3 d=2; 5"},
	// The first that is not the same: by its kind, name, or what is given with it.
	{"call a = got(in); call b = put(a); done b;", gotPut, 2, "waits place 0; call got 1; in=1; 1"},
	{"call a = get(2); call b = put(a); done b;", gotPut, 2, "waits place 0; call get 2; in=1; 1"},
	{`call a = get("1"); call b = put(a); done b;`, gotPut, 2, `waits place 0; call get "1"; in=1; 1`},
	{"child a = get(in); call b = put(a); done b;", gotPut, 2, "waits place 0; child get 1; in=1; 1"},
	{"sleep 1; done in;", gotPut, 2, "waits place 0; timer 1; in=1; 1"},
	{"done in;", gotPut, 2, "done 1; done 1; in=1; 1"},
	{"call a = get(in); call b = put((a + 1)); done b;", gotPut, 5, "waits place 1; call get 1, call put 6; in=1 a=5; 2"},
	{"call a = get(in); call b = push(a); done b;", gotPut, 5, "waits place 1; call get 1, call push 5; in=1 a=5; 2"},
	{"call a = get(in); done a;", gotPut, 5, "done 5; call get 1, done 5; in=1 a=5; 2"},
	{"call a = get(in); call b = put(a); done a;", gotPut, 8, "done 5; call get 1, call put 5, done 5; in=1 a=5 b=7; 3"},
	{"call a = get(in); call b = put(a); fail b;", gotPut, 8, "fail 7; call get 1, call put 5, fail 7; in=1 a=5 b=7; 3"},
	{"call a = get(in); call b = put(a); again b;", gotPut, 8, "again 7; call get 1, call put 5, again 7; in=1 a=5 b=7; 3"},
	{"go a = f(in); go b = h(in); join c = a; join d = b; done (c + d);", gotBoth, 3, "waits place 0; call f 1, call h 1; in=1; 3"},
	{"go b = g(in); go a = f(in); join c = a; join d = b; done (c + d);", gotBoth, 2, "waits place 1; call g 1, call f 1; in=1; 3"},
	// It asks for less: the first that is one too many.
	{"wait a = up; done a;", gotPut, 2, "waits signal up; ; in=1; 1"},
	{"wait a = up; done a;", gotBoth, 2, "waits signal up; ; in=1; 1"},
	{"go a = f(in); join c = a; done c;", gotBoth, 3, "waits place 0; call f 1; in=1; 2"},
	{"call a = get(in); wait b = up;", gotPut, 5, "waits signal up; call get 1; in=1 a=5; 2"},
	{"call a = get(in); call b = put(a); wait c = up;", gotPut, 8, "waits signal up; call get 1, call put 5; in=1 a=5 b=7; 3"},
	{"go a = f(in); go b = g(in); join c = b; join d = a; wait e = up;", gotBoth, 8, "waits signal up; call f 1, call g 1; in=1 c=2 d=3; 5"},
	// It asks for more: the task that has too few.
	{both, "start 1/task 0", 1, "waits place 0; call f 1, call g 1; in=1; 3"},
	{both, "start 1/task 1/cmd 1 f 1", 1, "waits place 0; call f 1, call g 1; in=1; 3"},
	{both, "start 1/came 4 0 ok up 1/task 1/cmd 1 f 1/cancel", 2, "waits place 0; call f 1, call g 1; in=1; 3"},
	{"go a = f(in); go b = g(in); done 1;", "start 1/task 2/cmd 1 f 1/cmd 1 g 1/came 1 1 ok  2/task 0", 1, "done 1; call f 1, call g 1, done 1; in=1; 3"},
	{getPut, "start 1/task 1/cmd 1 get 1/came 1 0 ok  5/task 0", 4, "waits place 1; call get 1, call put 5; in=1 a=5; 2"},
	{getPut, "start 1/task 1/cmd 1 get 1/came 4 0 ok up 5/task 0/came 1 0 ok  5/task 0/came 4 0 ok up 1/task 0", 6, "waits place 1; call get 1, call put 5; in=1 a=5; 2"},
	{"go a = f(in); go b = g(in); join c = b; done c;", gotBoth, 5, "done 2; call f 1, call g 1, done 2; in=1 c=2; 4"},
	{"done in;", "start 1/task 0", 1, "done 1; done 1; in=1; 1"},
	// The first that is not the same stands ahead of what is missing, and of what is too much.
	{"go a = f(in); go b = h(in); go c = f(in); done 1;", "start 1/task 2/cmd 1 f 1/cmd 1 g 1", 3, "done 1; call f 1, call h 1, call f 1, done 1; in=1; 4"},
	{"go a = h(in); wait b = up;", "start 1/task 3/cmd 1 f 1/cmd 1 f 1/cmd 1 f 1", 2, "waits signal up; call h 1; in=1; 2"},
	// It ends at the first: what is otherwise further on is not told.
	{"call a = got(in); done a;", gotPut, 2, "waits place 0; call got 1; in=1; 1"},
}

func TestReplay(t *testing.T) {
	for _, c := range replays {
		p, list := one(t, c.prog), events(c.hist)
		o, at := impl.Replay(p, list)
		got := shown(o)
		if noOut(o) {
			got = ""
		}
		if at != c.at || got != c.out {
			t.Errorf("%s by %s\n is %s, %d\nnot %s, %d", c.prog, c.hist, got, at, c.out, c.at)
		}
		if impl.ReplayOk(p, list) != (c.at == -1) {
			t.Errorf("%s by %s is ok: %v", c.prog, c.hist, c.at != -1)
		}
	}
}

// notFine is programs that are not, one for each code, and others.
func notFine() []impl.Prog {
	return []impl.Prog{{}, {Name: "one"}, {Name: "let", Steps: steps(done(name("in")))}, {Name: "one", Steps: steps(impl.Step{})}, prog(done(name("x"))), prog(set("x", name("in"))), prog(join("a", "b")), prog(let("in", name("in"))), prog(times(impl.BodyMax+1, done(name("in")))...)}
}

func TestReplayOfWrong(t *testing.T) {
	fine := one(t, getPut)
	none := func(p impl.Prog, list []impl.Event) {
		t.Helper()
		if o, at := impl.Replay(p, list); at != 0 || !noOut(o) {
			t.Errorf("%v by %v is %s, %d", p, list, shown(o), at)
		}
		if next, ok := impl.ReplayNext(p, list); ok || len(next) != 0 || impl.ReplayOk(p, list) {
			t.Errorf("%v by %v goes on: %v", p, list, next)
		}
	}
	for _, p := range notFine() {
		for _, s := range []string{gotPut, "start 1", "start 1/task 0", "start 1/came 4 0 ok up 1", ""} {
			none(p, events(s))
		}
		for _, in := range []impl.Value{num(1), {Kind: 9}} {
			if list := impl.ReplayAll(p, in, came(signal("up", num(1)))); len(list) != 0 {
				t.Errorf("%v has the history %v", p, list)
			}
		}
	}
	for why, list := range brokenHists {
		for _, s := range list {
			none(fine, events(s))
			if t.Failed() {
				t.Fatal(why)
			}
		}
	}
	none(fine, nil)
	for _, e := range wrongEvents() {
		none(fine, []impl.Event{e})
		none(fine, []impl.Event{began(num(1)), e})
		none(fine, append(events("start 1/task 1/cmd 1 get 1"), e))
	}
	for _, v := range wrongValues {
		if list := impl.ReplayAll(fine, v, nil); len(list) != 0 {
			t.Errorf("of %v there is a history %v", v, list)
		}
	}
}

// nexts is programs, histories, and the events of doing them once more; - if there are none.
var nexts = []struct{ prog, hist, next string }{
	{getPut, "start 1", "task 1/cmd 1 get 1"},
	{getPut, "start 1/came 4 0 ok up 1", "task 1/cmd 1 get 1"},
	{getPut, "start 1/task 1/cmd 1 get 1/came 1 0 ok  5", "task 1/cmd 1 put 5"},
	{getPut, "start 1/task 1/cmd 1 get 1/came 1 0 no  none", "task 1/cmd 1 put none"},
	{getPut, "start 1/task 1/cmd 1 get 1/came 4 0 ok up 1", "task 0"},
	{getPut, "start 1/task 1/cmd 1 get 1/came 4 0 ok up 1/came 1 0 ok  5/came 4 0 ok up 2", "task 1/cmd 1 put 5"},
	{getPut, "start 1/task 1/cmd 1 get 1/came 1 0 ok  5/task 1/cmd 1 put 5/came 1 1 ok  7", "task 1/cmd 4  7"},
	{both, "start 1", "task 2/cmd 1 f 1/cmd 1 g 1"},
	{both, "start 1/task 2/cmd 1 f 1/cmd 1 g 1/came 1 1 ok  2", "task 0"},
	{both, "start 1/task 2/cmd 1 f 1/cmd 1 g 1/came 1 1 ok  2/came 1 0 ok  3", "task 1/cmd 4  5"},
	{both, "start 1/task 2/cmd 1 f 1/cmd 1 g 1/came 1 1 ok  2/task 0/came 1 0 ok  3", "task 1/cmd 4  5"},
	{"wait a = up; wait b = up; go c = f(a); sleep b; again b;", "start 1/came 4 0 ok up 3/came 4 0 ok up 4", "task 2/cmd 1 f 3/cmd 2  4"},
	{"done in;", `start "x"`, `task 1/cmd 4  "x"`},
	{"fail in;", "start none", "task 1/cmd 5  none"},
	{"again in;", "start 0", "task 1/cmd 6  0"},
	{"let a = 1;", "start 0", "task 1/cmd 4  none"},
	{"sleep in;", "start -1", `task 1/cmd 5  "value"`},
	// No news: it was done, it ended, or was called off.
	{getPut, "start 1/task 1/cmd 1 get 1", "-"},
	{getPut, gotPut, "-"},
	{getPut, "start 1/cancel", "-"},
	{getPut, "start 1/came 4 0 ok up 1/cancel", "-"},
	{getPut, "start 1/task 1/cmd 1 get 1/came 1 0 ok  5/cancel", "-"},
	{getPut, "start 1/task 1/cmd 1 get 1/came 4 0 ok up 1/task 0", "-"},
	// It is another program's.
	{getPut, "start 1/task 1/cmd 1 got 1/came 1 0 ok  5", "-"},
	{getPut, "start 1/task 0/came 4 0 ok up 1", "-"},
	{getPut, "start 1/task 2/cmd 1 get 1/cmd 1 get 1/came 1 0 ok  5", "-"},
	{"wait a = up;", "start 1/task 1/cmd 1 get 1/came 4 0 ok up 5", "-"},
	{getPut, "start 1/task 1/cmd 1 get 1/came 1 0 ok  5/task 0/came 4 0 ok up 5", "-"},
}

func TestReplayNext(t *testing.T) {
	for _, c := range nexts {
		want := events(strings.TrimPrefix(c.next, "-"))
		if next, ok := impl.ReplayNext(one(t, c.prog), events(c.hist)); ok != (c.next != "-") || !slices.Equal(next, want) {
			t.Errorf("%s by %s goes on by %s, %v", c.prog, c.hist, written(next), ok)
		}
	}
}

func TestReplayAll(t *testing.T) {
	up, down := signal("up", num(5)), signal("down", num(6))
	for _, c := range []struct {
		prog, hist string
		came       []impl.Came
	}{
		{getPut, "start 1/task 1/cmd 1 get 1", nil},
		{getPut, gotPut, came(answer(0, num(5)), answer(1, num(7)))},
		{both, gotBoth, came(answer(1, num(2)), answer(0, num(3)))},
		{"done in;", "start 1/task 1/cmd 4  1", nil},
		// What was not asked for, came already, or is of another kind is passed over.
		{getPut, gotPut, came(answer(1, num(9)), answer(0, num(5)), answer(0, num(6)), fired(1), childEnd(1, num(1)), answer(1, num(7)))},
		{getPut, gotPut, came(answer(39, num(9)), fired(0), childEnd(0, num(9)), noAnswer(1), answer(0, num(5)), noAnswer(0), answer(1, num(7)))},
		{getPut, "start 1/task 1/cmd 1 get 1/came 1 0 no  none/task 1/cmd 1 put none", came(noAnswer(0), answer(0, num(5)))},
		// So is what is not ok.
		{getPut, gotPut, slices.Concat(wrongCame(), came(answer(0, num(5))), wrongCame(), came(answer(1, num(7))), wrongCame())},
		// And all behind an end.
		{getPut, gotPut, came(answer(0, num(5)), answer(1, num(7)), up, answer(2, num(1)), answer(0, num(1)), up)},
		{"done in;", "start 1/task 1/cmd 4  1", came(up, down, answer(0, num(1)), childEnd(0, num(1)))},
		{"again in;", "start 1/task 1/cmd 6  1", came(up)},
		{"fail in;", "start 1/task 1/cmd 5  1", came(up)},
		// Signals stand, whoever waits for them, each with a task.
		{"wait a = up; done a;", "start 1/task 0/came 4 0 ok down 6/task 0/came 4 0 ok up 5/task 1/cmd 4  5", came(down, up, up)},
		{getPut, "start 1/task 1/cmd 1 get 1/came 4 0 ok up 5/task 0/came 4 0 ok up 5/task 0", came(up, up)},
		{getPut, "start 1/task 1/cmd 1 get 1/came 4 0 ok up 5/task 0/came 1 0 ok  5/task 1/cmd 1 put 5", came(up, answer(0, num(5)))},
		{"sleep 2; child a = two(in); done a;", "start 1/task 1/cmd 2  2/came 2 0 ok  none/task 1/cmd 3 two 1/came 3 1 ok  8/task 1/cmd 4  8", came(childEnd(1, num(8)), childEnd(0, num(8)), fired(0), fired(0), fired(1), childEnd(1, num(8)))},
	} {
		if got := impl.ReplayAll(one(t, c.prog), num(1), c.came); !slices.Equal(got, events(c.hist)) {
			t.Errorf("%s by %v\n is %s", c.prog, c.came, written(got))
		}
	}
	for _, v := range okValues {
		want := []impl.Event{began(v.value), task(1), asks(impl.CmdDone, "", v.value)}
		if got := impl.ReplayAll(one(t, "done in;"), v.value, nil); !slices.Equal(got, want) {
			t.Errorf("of %s it is %s", v.text, written(got))
		}
	}
}

// ups is so many signals, the last of which is another one.
func ups(many int) []impl.Came {
	list := slices.Repeat(came(signal("up", num(1))), many-1)
	return append(list, signal("last", num(2)))
}

// What there may be of each: things that came, things asked for, and so events.
func TestLimitsOfReplayAll(t *testing.T) {
	for _, c := range []struct {
		prog                     string
		came, took, asked, tasks int
		open                     bool
	}{
		{"wait a = last; done a;", impl.CameMax - 1, impl.CameMax - 1, 1, impl.CameMax, false},
		{"wait a = last; done a;", impl.CameMax, impl.CameMax, 1, impl.CameMax + 1, false},
		{"wait a = last; done a;", impl.CameMax + 1, impl.CameMax, 0, impl.CameMax + 1, true},
		{"wait a = last; done a;", 10 * impl.CameMax, impl.CameMax, 0, impl.CameMax + 1, true},
		{asks39 + "wait a = last; done a;", impl.CameMax, impl.CameMax, impl.CmdMax, impl.CameMax + 1, false},
		{asks39 + "wait a = last; sleep 1; done a;", impl.CameMax, impl.CameMax, impl.CmdMax, impl.CameMax + 1, false},
		{asks39 + "wait a = last; wait b = last;", impl.CameMax, impl.CameMax, impl.CmdMax - 1, impl.CameMax + 1, true},
		{"while 1 { go c = f(1); }", impl.CameMax, 0, impl.CmdMax, 1, false},
		{"while 1 { go c = f(1); wait a = up; }", impl.CameMax, impl.CmdMax - 1, impl.CmdMax, impl.CmdMax, false},
	} {
		p := one(t, c.prog)
		list := impl.ReplayAll(p, num(0), ups(c.came))
		if !impl.HistOk(list) || len(impl.HistCame(list)) != c.took || len(impl.HistCmds(list)) != c.asked || impl.HistTasks(list) != c.tasks || impl.HistOpen(list) != c.open {
			t.Errorf("%s by %d has %d tasks, asks %d, and %d came: %v", c.prog, c.came, impl.HistTasks(list), len(impl.HistCmds(list)), len(impl.HistCame(list)), impl.HistOpen(list))
		}
		if len(list) != 1+c.took+c.asked+c.tasks || len(list) > impl.HistMax {
			t.Errorf("%s by %d has %d events", c.prog, c.came, len(list))
		}
		if o, at := impl.Replay(p, list); at != -1 || !slices.Equal(o.Cmds, impl.HistCmds(list)) {
			t.Errorf("%s by %d is %s, %d", c.prog, c.came, shown(o), at)
		}
		if c.open {
			// One more that comes may not stand behind; without one it may, and is done.
			checkNoHist(t, append(slices.Clip(list), comes(signal("last", num(1)))))
		}
	}
	full := impl.ReplayAll(one(t, asks39+"wait a = last; done a;"), num(0), ups(impl.CameMax))
	open := full[:len(full)-2]
	if next, ok := impl.ReplayNext(one(t, asks39+"wait a = last; done a;"), open); !ok || !slices.Equal(next, full[len(open):]) {
		t.Errorf("the last task is %s", written(next))
	}
}

// However much comes, it ends, and soon.
func TestReplayAllOfVeryMuch(t *testing.T) {
	much := slices.Repeat(came(answer(0, num(1)), impl.Came{}, signal("up", num(1)), fired(impl.CmdMax-1), answer(math.MaxInt, num(1))), 100000)
	p := one(t, "go c = f(1); while 1 { wait a = down; }")
	list := impl.ReplayAll(p, num(0), much)
	if len(impl.HistCame(list)) != impl.CameMax || impl.HistTasks(list) != impl.CameMax+1 || list[3].Came != answer(0, num(1)) || list[5].Came != signal("up", num(1)) {
		t.Errorf("it is %s", written(list))
	}
}
