package tests

import (
	"cmp"
	"fmt"
	"slices"
	"strconv"
	"strings"
	"testing"

	"loop.example/backstitch/impl"
)

func starts(s string, v impl.Value) impl.Act {
	return impl.Act{Kind: impl.ActStart, Name: s, Ok: true, Value: v}
}

func signals(run int, s string, v impl.Value) impl.Act {
	return impl.Act{Kind: impl.ActSignal, Run: run, Name: s, Ok: true, Value: v}
}

func answers(run, place int, v impl.Value) impl.Act {
	return impl.Act{Kind: impl.ActAnswer, Run: run, Place: place, Ok: true, Value: v}
}

func refuses(run, place int) impl.Act {
	return impl.Act{Kind: impl.ActAnswer, Run: run, Place: place}
}

func cancels(run int) impl.Act {
	return impl.Act{Kind: impl.ActCancel, Run: run, Ok: true}
}

func ticks(n int) impl.Act {
	return impl.Act{Kind: impl.ActTick, Ok: true, Num: n}
}

// actOf reads an act that the tests themselves wrote.
func actOf(line string) impl.Act {
	is := func(s string) int { return valueOf(s).Num }
	f := strings.Split(line, " ")
	switch f[0] {
	case "start":
		return starts(f[1], valueOf(f[2]))
	case "signal":
		return signals(is(f[1]), f[2], valueOf(f[3]))
	case "answer":
		return answers(is(f[1]), is(f[2]), valueOf(f[3]))
	case "refuse":
		return refuses(is(f[1]), is(f[2]))
	case "cancel":
		return cancels(is(f[1]))
	case "tick":
		return ticks(is(f[1]))
	}
	panic("no act: " + line)
}

// acts is what lines tell, parted by `/`.
func acts(s string) []impl.Act {
	var list []impl.Act
	for line := range strings.SplitSeq(s, "/") {
		if line != "" {
			list = append(list, actOf(line))
		}
	}
	return list
}

// progsOf reads programs, each as its name, a colon, and its steps.
func progsOf(t *testing.T, list ...string) []impl.Prog {
	t.Helper()
	var progs []impl.Prog
	for _, s := range list {
		called, body, _ := strings.Cut(s, ":")
		progs = append(progs, getProg(t, "program "+called+" {"+body+"}"))
	}
	return progs
}

// newEngine is an engine with programs that must be ok.
func newEngine(t *testing.T, list ...string) impl.Engine {
	t.Helper()
	e, ok := impl.EngineNew(progsOf(t, list...))
	if !ok {
		t.Fatalf("EngineNew of %q is false", list)
	}
	return e
}

// do does acts to an engine, all of which must be fine.
func do(t *testing.T, e impl.Engine, list string) impl.Engine {
	t.Helper()
	for _, a := range acts(list) {
		next, code := impl.EngineDo(e, a)
		if code != impl.DoFine {
			t.Fatalf("%v of %s in %q is code %d", a, stands(e), list, code)
		}
		e = next
	}
	return e
}

// code is the code of one more act; with one but DoFine the engine must be as it was.
func code(t *testing.T, e impl.Engine, a impl.Act) int {
	t.Helper()
	next, code := impl.EngineDo(e, a)
	if code != impl.DoFine && !sameEngine(e, next) {
		t.Errorf("%v of %s is code %d, and %s", a, stands(e), code, stands(next))
	}
	return code
}

func sameRun(a, b impl.Run) bool {
	return a.Id == b.Id && a.Prog == b.Prog && a.Parent == b.Parent && a.Place == b.Place && slices.Equal(a.Hist, b.Hist)
}

func sameEngine(a, b impl.Engine) bool {
	return a.Now == b.Now && slices.EqualFunc(a.Progs, b.Progs, sameProg) && slices.EqualFunc(a.Runs, b.Runs, sameRun) && slices.Equal(a.Timers, b.Timers)
}

func noEngine(e impl.Engine) bool {
	return sameEngine(e, impl.Engine{})
}

// ownOf is an engine that may be changed, without another one being changed with it.
func ownOf(e impl.Engine) impl.Engine {
	e.Progs, e.Runs, e.Timers = slices.Clone(e.Progs), slices.Clone(e.Runs), slices.Clone(e.Timers)
	for i := range e.Runs {
		e.Runs[i].Hist = slices.Clone(e.Runs[i].Hist)
	}
	return e
}

// oneLine is events in one line, as eventOf reads them.
func oneLine(list []impl.Event) string {
	return strings.TrimSuffix(strings.ReplaceAll(written(list), "\n", "/"), "/")
}

// runStands tells how a run stands, and for whom it is.
func runStands(e impl.Engine, r impl.Run) string {
	s := fmt.Sprintf("%d %s ", r.Id, r.Prog)
	if r.Parent != -1 || r.Place != 0 {
		s += fmt.Sprintf("for %d.%d ", r.Parent, r.Place)
	}
	if lastKind(r.Hist) == impl.EventCancel {
		return s + "called off"
	}
	at := slices.IndexFunc(e.Progs, func(p impl.Prog) bool { return p.Name == r.Prog })
	if at < 0 || impl.ProgCheck(e.Progs[at]) != impl.ProgFine || !modelHist(r.Hist) {
		return s + oneLine(r.Hist)
	}
	o, _ := modelReplay(e.Progs[at], r.Hist)
	how, _, _ := strings.Cut(shown(o), ";")
	return s + how
}

// stands tells the time, how each run stands, and each timer, by its run, its place and when it is over.
func stands(e impl.Engine) string {
	list := []string{strconv.Itoa(e.Now)}
	for _, r := range e.Runs {
		list = append(list, runStands(e, r))
	}
	for _, t := range e.Timers {
		list = append(list, fmt.Sprintf("%d.%d@%d", t.Run, t.Place, t.At))
	}
	return strings.Join(list, "; ")
}

// modelUnder is what is under way of a run, by places; kind 0 elsewhere.
func modelUnder(r impl.Run) []impl.Cmd {
	var cmds []impl.Cmd
	for _, e := range only(r.Hist, impl.EventCmd) {
		cmds = append(cmds, e.Cmd)
	}
	for place := range cmds {
		came := slices.ContainsFunc(only(r.Hist, impl.EventCame), func(e impl.Event) bool { return e.Came.Kind != impl.CameSignal && e.Came.Place == place })
		if came || !modelOpen(r.Hist) || isEndKind(cmds[place].Kind) {
			cmds[place] = impl.Cmd{}
		}
	}
	return cmds
}

func modelIsUnder(r impl.Run, kind, place int) bool {
	under := modelUnder(r)
	return place < len(under) && under[place].Kind == kind
}

// modelSet says whether programs may be those of an engine.
func modelSet(list []impl.Prog) bool {
	count := map[string]int{}
	for _, p := range list {
		count[p.Name]++
		if count[p.Name] > 1 || impl.ProgCheck(p) != impl.ProgFine {
			return false
		}
	}
	return len(list) >= 1 && len(list) <= impl.SetMax
}

// modelRun says whether a run may stand behind others.
func modelRun(e impl.Engine, at int) bool {
	r := e.Runs[at]
	of := slices.IndexFunc(e.Progs, func(p impl.Prog) bool { return p.Name == r.Prog })
	if r.Id != at || of < 0 || !modelHist(r.Hist) {
		return false
	}
	_, other := modelReplay(e.Progs[of], r.Hist)
	last := lastKind(r.Hist)
	if other != -1 || last == impl.EventStart || last == impl.EventCame {
		return false
	}
	if r.Parent == -1 {
		return r.Place == 0
	}
	if r.Parent < 0 || r.Parent >= at || r.Place < 0 {
		return false
	}
	asked := only(e.Runs[r.Parent].Hist, impl.EventCmd)
	return r.Place < len(asked) && asked[r.Place].Cmd.Kind == impl.CmdChild
}

func modelOrder(a, b impl.Timer) int {
	return cmp.Or(a.At-b.At, a.Run-b.Run, a.Place-b.Place)
}

// modelEngineOk is EngineOk, sentence by sentence, each looked for all over the engine anew.
func modelEngineOk(e impl.Engine) bool {
	if !modelSet(e.Progs) || e.Now < 0 || e.Now > impl.ClockMax || len(e.Runs) > impl.RunMax {
		return false
	}
	for at := range e.Runs {
		if !modelRun(e, at) {
			return false
		}
	}
	// Each timer that is told takes one that is due; each child one that is waited for.
	due, waited := map[[2]int]int{}, map[[2]int]int{}
	for _, r := range e.Runs {
		for place, c := range modelUnder(r) {
			if c.Kind == impl.CmdTimer {
				due[[2]int{r.Id, place}] = c.Arg.Num + 1
			}
			if c.Kind == impl.CmdChild {
				waited[[2]int{r.Id, place}]++
			}
		}
	}
	for i, t := range e.Timers {
		key := [2]int{t.Run, t.Place}
		if i > 0 && modelOrder(e.Timers[i-1], t) >= 0 || due[key] == 0 || t.At < e.Now || t.At >= e.Now+due[key] {
			return false
		}
		delete(due, key)
	}
	for _, r := range e.Runs {
		if r.Parent >= 0 && modelOpen(r.Hist) && modelOpen(e.Runs[r.Parent].Hist) {
			waited[[2]int{r.Parent, r.Place}]--
		}
	}
	for _, n := range waited {
		if n != 0 {
			return false
		}
	}
	return len(due) == 0
}

// modelActOk is ActOk: what a kind does not have is taken out, and must have been nothing.
func modelActOk(a impl.Act) bool {
	has := map[int]string{impl.ActStart: "name value", impl.ActSignal: "run name value", impl.ActAnswer: "run place ok value", impl.ActCancel: "run", impl.ActTick: "num"}[a.Kind]
	if has == "" {
		return false
	}
	of := func(s string) bool { return slices.Contains(strings.Fields(has), s) }
	fits := []bool{
		a.Run == 0 || of("run") && a.Run > 0 && a.Run < impl.RunMax,
		a.Place == 0 || of("place") && a.Place > 0 && a.Place < impl.CmdMax,
		impl.NameOk(a.Name) == of("name") && (of("name") || a.Name == ""),
		a.Ok || of("ok") && a.Value == impl.Value{},
		a.Value == impl.Value{} || of("value") && impl.ValueOk(a.Value),
		of("num") && a.Num >= 1 && a.Num <= impl.TickMax || !of("num") && a.Num == 0,
	}
	return !slices.Contains(fits, false)
}

// model does acts to an engine that is ok, in another way: timers are a list in which the first is looked for each time.
type model struct {
	e impl.Engine
	// met counts what was met on the way.
	met map[string]int
}

func (m *model) has(prog string) bool {
	return slices.ContainsFunc(m.e.Progs, func(p impl.Prog) bool { return p.Name == prog })
}

// code is why an act that is ok is not done.
func (m *model) code(a impl.Act) int {
	full := len(m.e.Runs) == impl.RunMax
	switch {
	case a.Kind == impl.ActStart && !m.has(a.Name):
		return impl.DoNone
	case a.Kind == impl.ActStart && full:
		return impl.DoFull
	case a.Kind == impl.ActTick && m.e.Now+a.Num > impl.ClockMax:
		return impl.DoFull
	case a.Kind == impl.ActStart || a.Kind == impl.ActTick:
		return impl.DoFine
	case a.Run >= len(m.e.Runs):
		return impl.DoNone
	case !modelOpen(m.e.Runs[a.Run].Hist):
		return impl.DoOver
	case a.Kind == impl.ActSignal && m.told(a.Run) >= impl.SignalMax:
		return impl.DoFull
	case a.Kind == impl.ActAnswer && !modelIsUnder(m.e.Runs[a.Run], impl.CmdCall, a.Place):
		return impl.DoCmd
	}
	return impl.DoFine
}

// told is how many signals came to a run.
func (m *model) told(run int) int {
	n := 0
	for _, e := range only(m.e.Runs[run].Hist, impl.EventCame) {
		if e.Came.Kind == impl.CameSignal {
			n++
		}
	}
	return n
}

func (m *model) write(run int, list ...impl.Event) {
	m.e.Runs[run].Hist = append(slices.Clip(m.e.Runs[run].Hist), list...)
}

func (m *model) begin(prog string, v impl.Value, parent, place int) bool {
	if !m.has(prog) || len(m.e.Runs) == impl.RunMax {
		return false
	}
	m.e.Runs = append(m.e.Runs, impl.Run{Id: len(m.e.Runs), Prog: prog, Hist: []impl.Event{began(v)}, Parent: parent, Place: place})
	return true
}

// left is what follows as a run goes on no more, but that others wait for it.
func (m *model) left(run int) {
	m.e.Timers = slices.DeleteFunc(m.e.Timers, func(t impl.Timer) bool { return t.Run == run })
}

// waiting tells who waits for a run.
func (m *model) waiting(run int, how impl.Came, met string) {
	r := m.e.Runs[run]
	if r.Parent == -1 {
		return
	}
	if !modelIsUnder(m.e.Runs[r.Parent], impl.CmdChild, r.Place) {
		m.met[met+" for one that is over"]++
		return
	}
	m.met[met+" for one that waits"]++
	how.Kind, how.Place = impl.CameChild, r.Place
	m.write(r.Parent, comes(how))
}

// asked does what a run asked for at a place.
func (m *model) asked(run, place int, c impl.Cmd) {
	r := m.e.Runs[run]
	switch c.Kind {
	case impl.CmdTimer:
		m.e.Timers = append(m.e.Timers, impl.Timer{Run: run, Place: place, At: m.e.Now + c.Arg.Num})
	case impl.CmdChild:
		if !m.begin(c.Name, c.Arg, run, place) {
			m.met[map[bool]string{true: "child without room", false: "child of no program"}[m.has(c.Name)]]++
			m.write(run, comes(impl.Came{Kind: impl.CameChild, Place: place}))
			return
		}
		m.met["child"]++
	case impl.CmdAgain:
		m.left(run)
		if m.begin(r.Prog, c.Arg, r.Parent, r.Place) {
			m.met[map[bool]string{true: "again", false: "again for another one"}[r.Parent == -1]]++
			return
		}
		m.waiting(run, impl.Came{}, "again without room")
	case impl.CmdDone:
		m.left(run)
		m.waiting(run, impl.Came{Ok: true, Value: c.Arg}, "done")
	case impl.CmdFail:
		m.left(run)
		m.waiting(run, impl.Came{}, "failed")
	}
}

// settle does each run with news, the first first.
func (m *model) settle() {
	for run := 0; run < len(m.e.Runs); run++ {
		r := m.e.Runs[run]
		if last := lastKind(r.Hist); last != impl.EventStart && last != impl.EventCame {
			continue
		}
		at := slices.IndexFunc(m.e.Progs, func(p impl.Prog) bool { return p.Name == r.Prog })
		next, _ := modelNext(m.e.Progs[at], r.Hist)
		place := len(only(r.Hist, impl.EventCmd))
		m.write(run, next...)
		for i, e := range next[1:] {
			m.asked(run, place+i, e.Cmd)
		}
		// The first with news may be one ahead now.
		run = -1
	}
}

// tick goes on moment by moment.
func (m *model) tick(n int) {
	for then := m.e.Now + n; ; m.e.Now++ {
		over := 0
		for {
			slices.SortFunc(m.e.Timers, modelOrder)
			if len(m.e.Timers) == 0 || m.e.Timers[0].At > m.e.Now {
				break
			}
			t := m.e.Timers[0]
			m.e.Timers = slices.Delete(m.e.Timers, 0, 1)
			m.write(t.Run, comes(fired(t.Place)))
			m.settle()
			over++
		}
		if over > 1 {
			m.met["timers at one time"]++
		}
		if m.e.Now == then {
			return
		}
	}
}

// modelDo is EngineDo of an engine that is ok.
func modelDo(e impl.Engine, a impl.Act, met map[string]int) (impl.Engine, int) {
	m := &model{ownOf(e), met}
	if !modelActOk(a) {
		return e, impl.DoForm
	}
	if code := m.code(a); code != impl.DoFine {
		return e, code
	}
	switch a.Kind {
	case impl.ActStart:
		m.begin(a.Name, a.Value, -1, 0)
	case impl.ActSignal:
		m.write(a.Run, comes(signal(a.Name, a.Value)))
	case impl.ActAnswer:
		m.write(a.Run, comes(impl.Came{Kind: impl.CameAnswer, Place: a.Place, Ok: a.Ok, Value: a.Value}))
	case impl.ActCancel:
		m.write(a.Run, calledOff())
		m.left(a.Run)
		m.waiting(a.Run, impl.Came{}, "called off")
	case impl.ActTick:
		m.tick(a.Num)
	}
	m.settle()
	slices.SortFunc(m.e.Timers, modelOrder)
	return m.e, impl.DoFine
}
