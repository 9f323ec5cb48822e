package tests

import (
	"fmt"
	"slices"
	"strconv"
	"strings"
	"sync"

	"loop.example/backstitch/impl"
)

func began(v impl.Value) impl.Event {
	return impl.Event{Kind: impl.EventStart, Value: v}
}

func task(many int) impl.Event {
	return impl.Event{Kind: impl.EventTask, Many: many}
}

func asks(kind int, s string, arg impl.Value) impl.Event {
	return impl.Event{Kind: impl.EventCmd, Cmd: cmd(kind, s, arg)}
}

func comes(c impl.Came) impl.Event {
	return impl.Event{Kind: impl.EventCame, Came: c}
}

func calledOff() impl.Event {
	return impl.Event{Kind: impl.EventCancel}
}

// called is a task that asks for so many calls.
func called(many int) []impl.Event {
	list := []impl.Event{task(many)}
	for i := range many {
		list = append(list, asks(impl.CmdCall, "f", num(i)))
	}
	return list
}

// valueOf and events read values and lines that the tests themselves wrote, a history or not.
func valueOf(s string) impl.Value {
	if s == "none" {
		return impl.Value{}
	}
	if strings.HasPrefix(s, `"`) {
		return text(strings.Trim(s, `"`))
	}
	n, err := strconv.Atoi(s)
	if err != nil {
		panic("no value: " + s)
	}
	return num(n)
}

func eventOf(line string) impl.Event {
	is := func(s string) int { return valueOf(s).Num }
	f := strings.Split(line, " ")
	switch f[0] {
	case "start":
		return began(valueOf(f[1]))
	case "task":
		return task(is(f[1]))
	case "cmd":
		return asks(is(f[1]), f[2], valueOf(f[3]))
	case "came":
		return comes(impl.Came{Kind: is(f[1]), Place: is(f[2]), Ok: f[3] == "ok", Name: f[4], Value: valueOf(f[5])})
	case "cancel":
		return calledOff()
	}
	panic("no event: " + line)
}

// events is what lines tell, parted by `/`.
func events(s string) []impl.Event {
	var list []impl.Event
	for line := range strings.SplitSeq(s, "/") {
		if line != "" {
			list = append(list, eventOf(line))
		}
	}
	return list
}

// written is how events are to be written, apart from the program's own way.
func written(list []impl.Event) string {
	s := ""
	for _, e := range list {
		switch e.Kind {
		case impl.EventStart:
			s += fmt.Sprintf("start %s\n", impl.ValuePut(e.Value))
		case impl.EventTask:
			s += fmt.Sprintf("task %d\n", e.Many)
		case impl.EventCmd:
			s += fmt.Sprintf("cmd %d %s %s\n", e.Cmd.Kind, e.Cmd.Name, impl.ValuePut(e.Cmd.Arg))
		case impl.EventCame:
			ok := map[bool]string{true: "ok", false: "no"}[e.Came.Ok]
			s += fmt.Sprintf("came %d %d %s %s %s\n", e.Came.Kind, e.Came.Place, ok, e.Came.Name, impl.ValuePut(e.Came.Value))
		case impl.EventCancel:
			s += "cancel\n"
		}
	}
	return s
}

// only is the events of one kind.
func only(list []impl.Event, kind int) []impl.Event {
	var all []impl.Event
	for _, e := range list {
		if e.Kind == kind {
			all = append(all, e)
		}
	}
	return all
}

// lastKind is the kind of the last event; 0 if there is none.
func lastKind(list []impl.Event) int {
	if len(list) == 0 {
		return 0
	}
	return list[len(list)-1].Kind
}

// modelEvent says whether an event has what its kind needs.
func modelEvent(e impl.Event) bool {
	bare := e
	switch e.Kind {
	case impl.EventStart:
		bare.Value = impl.Value{}
	case impl.EventTask:
		bare.Many = 0
	case impl.EventCmd:
		bare.Cmd = impl.Cmd{}
	case impl.EventCame:
		bare.Came = impl.Came{}
	}
	ok := map[int]bool{impl.EventStart: impl.ValueOk(e.Value), impl.EventTask: 0 <= e.Many && e.Many <= impl.CmdMax, impl.EventCmd: impl.CmdOk(e.Cmd), impl.EventCame: impl.CameOk(e.Came), impl.EventCancel: true}
	return ok[e.Kind] && bare == impl.Event{Kind: e.Kind}
}

// modelComes says whether what came at a place of a list was asked for ahead, and did not come ahead.
func modelComes(list []impl.Event, at int) bool {
	c := list[at].Came
	if c.Kind == impl.CameSignal {
		return true
	}
	for _, e := range only(list[:at], impl.EventCame) {
		if e.Came.Kind != impl.CameSignal && e.Came.Place == c.Place {
			return false
		}
	}
	ahead := only(list[:at], impl.EventCmd)
	kinds := map[int]int{impl.CameAnswer: impl.CmdCall, impl.CameFire: impl.CmdTimer, impl.CameChild: impl.CmdChild}
	return c.Place < len(ahead) && ahead[c.Place].Cmd.Kind == kinds[c.Kind]
}

// modelHist is HistOk, sentence by sentence, each looked for all over the list anew.
func modelHist(list []impl.Event) bool {
	for at, e := range list {
		last := at == len(list)-1
		if !modelEvent(e) || (at == 0) != (e.Kind == impl.EventStart) {
			return false
		}
		ahead := at - 1
		for ahead >= 0 && list[ahead].Kind == impl.EventCmd {
			ahead--
		}
		behind := at + 1
		for behind < len(list) && list[behind].Kind == impl.EventCmd {
			behind++
		}
		switch e.Kind {
		case impl.EventTask:
			between := list[ahead].Kind
			if behind-at-1 != e.Many || between != impl.EventStart && between != impl.EventCame {
				return false
			}
		case impl.EventCmd:
			if list[ahead].Kind != impl.EventTask || isEndKind(e.Cmd.Kind) && !last {
				return false
			}
		case impl.EventCame:
			if !modelComes(list, at) {
				return false
			}
		case impl.EventCancel:
			if !last {
				return false
			}
		}
	}
	return len(list) > 0 && len(list) <= impl.HistMax && len(only(list, impl.EventCmd)) <= impl.CmdMax && len(only(list, impl.EventCame)) <= impl.CameMax
}

// modelOpen says whether a history has no end.
func modelOpen(list []impl.Event) bool {
	last := list[len(list)-1]
	return last.Kind != impl.EventCancel && (last.Kind != impl.EventCmd || !isEndKind(last.Cmd.Kind))
}

// modelEnds is the places behind each task and what it asks for.
func modelEnds(list []impl.Event) []int {
	var ends []int
	for at, e := range list {
		if e.Kind == impl.EventTask {
			ends = append(ends, at+1+e.Many)
		}
	}
	return ends
}

// modelAll is ReplayAll of what is ok, each history being looked at anew.
func modelAll(g given) []impl.Event {
	list := []impl.Event{began(g.in)}
	var all []impl.Came
	done := func() []impl.Event {
		fresh := modelOf(g.prog, g.in, all).Cmds[len(only(list, impl.EventCmd)):]
		more := []impl.Event{task(len(fresh))}
		for _, c := range fresh {
			more = append(more, asks(c.Kind, c.Name, c.Arg))
		}
		return more
	}
	list = append(list, done()...)
	for _, c := range g.came {
		if more := append(slices.Clone(list), comes(c)); modelHist(more) {
			list, all = more, append(all, c)
			list = append(list, done()...)
		}
	}
	return list
}

var throwCmds = []impl.Cmd{cmd(impl.CmdCall, "f", num(1)), cmd(impl.CmdCall, "abcdefghij", text("a b")), cmd(impl.CmdTimer, "", num(0)), cmd(impl.CmdTimer, "", num(impl.NumMax)), cmd(impl.CmdChild, "one", impl.Value{}), cmd(impl.CmdChild, "f", text(""))}

// throwHist is a history of no program, thrown by dice: so many turns of things that come and a task.
func (d *dice) throwHist(turns int) []impl.Event {
	list := []impl.Event{began(okValues[d.upTo(len(okValues))].value)}
	for range turns {
		for range d.upTo(3) {
			list = d.withCame(list)
		}
		if k := list[len(list)-1].Kind; k != impl.EventStart && k != impl.EventCame {
			continue
		}
		many := min(d.upTo(5), impl.CmdMax-len(only(list, impl.EventCmd)))
		list = append(list, task(many))
		for range many {
			c := throwCmds[d.upTo(len(throwCmds))]
			list = append(list, asks(c.Kind, c.Name, c.Arg))
		}
	}
	switch last := len(list) - 1; d.upTo(4) {
	case 0:
		list = append(list, calledOff())
	case 1:
		if list[last].Kind == impl.EventCmd {
			list[last] = asks(impl.CmdDone+d.upTo(3), "", okValues[d.upTo(len(okValues))].value)
		}
	}
	return list
}

// withCame is a history with something more that came, if that may be.
func (d *dice) withCame(list []impl.Event) []impl.Event {
	v := okValues[d.upTo(len(okValues))].value
	c := signal([]string{"up", "down", "f"}[d.upTo(3)], v)
	if ahead := only(list, impl.EventCmd); len(ahead) > 0 && d.upTo(3) > 0 {
		place := d.upTo(len(ahead))
		c = wanted(impl.Out{On: "place 0", Cmds: []impl.Cmd{ahead[place].Cmd}}, v)
		c.Place = place
		if c.Kind != impl.CameFire && d.upTo(4) == 0 {
			c.Ok, c.Value = false, impl.Value{}
		}
	}
	if more := append(slices.Clip(list), comes(c)); modelHist(more) {
		return more
	}
	return list
}

// longest is a history that has all that there may be: tasks, things asked for, things that came, and one by which it was called off.
func longest() []impl.Event {
	list := append([]impl.Event{began(num(0))}, called(impl.CmdMax)...)
	for i := range impl.CameMax {
		c := signal("up", num(i))
		if i < impl.CmdMax {
			c = answer(i, num(i))
		}
		list = append(list, comes(c), task(0))
	}
	return append(list, calledOff())
}

// hists is histories of many forms: of no program, of programs that are done, and long ones.
var hists = sync.OnceValue(func() [][]impl.Event {
	var list [][]impl.Event
	for seed := range 1500 {
		d := &dice{uint32(seed)*104729 + 1}
		list = append(list, d.throwHist(d.upTo(7)))
	}
	for seed := range 40 {
		d := &dice{uint32(seed)*104729 + 7}
		list = append(list, d.throwHist(80))
	}
	for i, g := range givens() {
		if i%8 == 0 {
			list = append(list, modelAll(g))
		}
	}
	whole := longest()
	for n := range len(whole) + 1 {
		if modelHist(whole[:n]) {
			list = append(list, slices.Clip(whole[:n]))
		}
	}
	return list
})

// otherEvents is events of each kind that may stand where another one does.
func otherEvents() []impl.Event {
	list := []impl.Event{began(num(1)), task(0), task(1), task(2), calledOff()}
	for _, c := range append(throwCmds, cmd(impl.CmdDone, "", num(1)), cmd(impl.CmdFail, "", text("x")), cmd(impl.CmdAgain, "", impl.Value{})) {
		list = append(list, asks(c.Kind, c.Name, c.Arg))
	}
	for _, place := range []int{0, 1, 2, 5, impl.CmdMax - 1} {
		list = append(list, comes(answer(place, num(1))), comes(noAnswer(place)), comes(fired(place)), comes(childEnd(place, num(2))))
	}
	return append(list, comes(signal("up", num(1))), impl.Event{}, task(-1), comes(answer(-1, num(1))))
}

// changed is a list with one event left out, put in, doubled, moved, or another one.
func (d *dice) changed(list []impl.Event) []impl.Event {
	others := otherEvents()
	list = slices.Clone(list)
	at := d.upTo(len(list))
	other := others[d.upTo(len(others))]
	switch d.upTo(7) {
	case 0:
		return slices.Delete(list, at, at+1)
	case 1:
		return slices.Insert(list, at, list[at])
	case 2:
		to := d.upTo(len(list))
		list[at], list[to] = list[to], list[at]
	case 3:
		list[at] = other
	case 4:
		return slices.Insert(list, at, other)
	case 5:
		return append(list, other)
	case 6:
		list[at].Many += d.upTo(3) - 1
	}
	return list
}
