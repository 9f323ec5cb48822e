package tests

import (
	"fmt"
	"slices"
	"strconv"
	"strings"
	"sync"
	"testing"

	"loop.example/backstitch/impl"
)

// op is one thing that a row of steps, laid out flat, does: begin a step, do it, test, turn, open and close a body, go elsewhere.
type op struct {
	does string
	step impl.Step
	to   int
}

// flat lays steps out behind others, with jumps in place of branches and loops.
func flat(ops []op, list []impl.Step) []op {
	for _, s := range list {
		ops = append(ops, op{does: "begin"})
		top := len(ops)
		switch s.Kind {
		case impl.StepIf:
			ops = append(ops, op{does: "test", step: s}, op{does: "open"})
			ops = append(flat(ops, s.Body), op{does: "close"}, op{does: "jump"})
			out := len(ops) - 1
			ops[top].to = len(ops)
			ops = append(flat(append(ops, op{does: "open"}), s.Else), op{does: "close"})
			ops[out].to = len(ops)
		case impl.StepWhile:
			ops = append(ops, op{does: "test", step: s}, op{does: "begin"}, op{does: "open"})
			ops = append(flat(ops, s.Body), op{does: "close"}, op{does: "jump", to: top})
			ops[top].to = len(ops)
		default:
			ops = append(ops, op{does: "step", step: s})
		}
	}
	return ops
}

// row is a name that is there; its place is below 0, if it is for a value.
type row struct {
	pair  impl.Pair
	place int
}

// machine does a flat program: another way than the program's own.
type machine struct {
	out  impl.Out
	rows []row
	left []impl.Came
	over bool
}

// modelOf is Exec of what is ok.
func modelOf(p impl.Prog, in impl.Value, list []impl.Came) impl.Out {
	o, _ := modelEnd(p, in, list)
	return o
}

// modelEnd is Exec of what is ok, and whether all steps were done, up to behind the last.
func modelEnd(p impl.Prog, in impl.Value, list []impl.Came) (impl.Out, bool) {
	m := machine{left: slices.Clone(list)}
	m.made("in", in, -1)
	var open []int
	ops := append(flat([]op{{does: "open"}}, p.Steps), op{does: "close"})
	for at := 0; at < len(ops) && !m.over; at++ {
		switch o := ops[at]; o.does {
		case "begin":
			if m.out.Fuel == impl.FuelMax {
				m.end(impl.CmdFail, text("fuel"))
			} else {
				m.out.Fuel++
			}
		case "open":
			open = append(open, len(m.rows))
		case "close":
			m.rows, open = m.rows[:open[len(open)-1]], open[:len(open)-1]
		case "jump":
			at = o.to - 1
		case "test":
			if v, ok := m.worth(o.step.Expr); ok && !counts(impl.ValuePut(v)) {
				at = o.to - 1
			}
		case "step":
			m.step(o.step)
		}
	}
	whole := !m.over
	if whole {
		m.end(impl.CmdDone, impl.Value{})
	}
	m.out.Vars = m.vars()
	return m.out, whole
}

func (m *machine) made(s string, v impl.Value, place int) {
	m.rows = append(m.rows, row{impl.Pair{Name: s, Value: v}, place})
}

func (m *machine) find(s string) *row {
	return &m.rows[slices.IndexFunc(m.rows, func(r row) bool { return r.pair.Name == s })]
}

func (m *machine) vars() []impl.Pair {
	var list []impl.Pair
	for _, r := range m.rows {
		if r.place < 0 {
			list = append(list, r.pair)
		}
	}
	return list
}

func (m *machine) end(kind int, v impl.Value) {
	m.over = true
	m.out.Cmds = append(m.out.Cmds, cmd(kind, "", v))
	m.out.Value = v
	m.out.Status = []int{impl.OutDone, impl.OutFail, impl.OutAgain}[kind-impl.CmdDone]
}

func (m *machine) worth(e impl.Expr) (impl.Value, bool) {
	v, ok := impl.ExprEval(e, m.vars())
	if !ok {
		m.end(impl.CmdFail, text("value"))
	}
	return v, ok
}

// asked is the place of something that is asked for; false if it failed there.
func (m *machine) asked(kind int, s string, e impl.Expr) (int, bool) {
	v, ok := m.worth(e)
	if !ok {
		return 0, false
	}
	if kind == impl.CmdTimer && (v.Kind != impl.IsNum || v.Num < 0) {
		m.end(impl.CmdFail, text("value"))
		return 0, false
	}
	if len(m.out.Cmds) == impl.CmdMax-1 {
		m.end(impl.CmdFail, text("many"))
		return 0, false
	}
	m.out.Cmds = append(m.out.Cmds, cmd(kind, s, v))
	return len(m.out.Cmds) - 1, true
}

// takes makes a name of what came for a place, or waits.
func (m *machine) takes(s string, kind, place int) {
	for _, c := range m.left {
		if c.Kind == kind && c.Place == place {
			if s != "" {
				m.made(s, c.Value, -1)
			}
			return
		}
	}
	m.over, m.out.Status, m.out.On = true, impl.OutWaits, fmt.Sprintf("place %d", place)
}

func (m *machine) takesSignal(s, what string) {
	for i, c := range m.left {
		if c.Kind == impl.CameSignal && c.Name == what {
			m.made(s, c.Value, -1)
			m.left = slices.Delete(m.left, i, i+1)
			return
		}
	}
	m.over, m.out.Status, m.out.On = true, impl.OutWaits, "signal "+what
}

func (m *machine) step(s impl.Step) {
	kinds := map[int][2]int{impl.StepCall: {impl.CmdCall, impl.CameAnswer}, impl.StepSleep: {impl.CmdTimer, impl.CameFire}, impl.StepChild: {impl.CmdChild, impl.CameChild}}
	switch s.Kind {
	case impl.StepLet:
		if v, ok := m.worth(s.Expr); ok {
			m.made(s.Name, v, -1)
		}
	case impl.StepSet:
		if v, ok := m.worth(s.Expr); ok {
			m.find(s.Name).pair.Value = v
		}
	case impl.StepCall, impl.StepSleep, impl.StepChild:
		if place, ok := m.asked(kinds[s.Kind][0], s.What, s.Expr); ok {
			m.takes(s.Name, kinds[s.Kind][1], place)
		}
	case impl.StepGo:
		if place, ok := m.asked(impl.CmdCall, s.What, s.Expr); ok {
			m.made(s.Name, impl.Value{}, place)
		}
	case impl.StepJoin:
		m.takes(s.Name, impl.CameAnswer, m.find(s.What).place)
	case impl.StepWait:
		m.takesSignal(s.Name, s.What)
	default:
		if v, ok := m.worth(s.Expr); ok {
			m.end(map[int]int{impl.StepDone: impl.CmdDone, impl.StepFail: impl.CmdFail, impl.StepAgain: impl.CmdAgain}[s.Kind], v)
		}
	}
}

// lively is a program, thrown by dice, most of whose steps can be done: each name is new, most values are small numbers.
type lively struct {
	dice
	values, calls []string
	names         int
}

func (d *lively) fresh() string {
	d.names++
	return "v" + strconv.Itoa(d.names)
}

func (d *lively) any(list []string) string {
	return list[d.upTo(len(list))]
}

func (d *lively) expr() impl.Expr {
	held := name(d.any(d.values))
	switch d.upTo(16) {
	case 0, 1, 2:
		return lit(num(d.upTo(4)))
	case 3:
		return lit([]impl.Value{text("x"), text(""), {}, num(-1)}[d.upTo(4)])
	case 4, 5, 6:
		return of(impl.ExprAdd, held, lit(num(1)))
	case 7:
		return of(impl.ExprSub, held, name(d.any(d.values)))
	case 8, 9:
		return of(impl.ExprSame, held, lit(num(d.upTo(3))))
	case 10:
		return nots(1, held)
	}
	return held
}

// turns is a loop that ends, as a rule, by a name that grows.
func (d *lively) turns(depth int) impl.Step {
	grows := d.any(d.values)
	test := of(impl.ExprLess, name(grows), lit(num(1+d.upTo(8))))
	switch d.upTo(8) {
	case 0:
		test = d.expr()
	case 1:
		test = lit(num(1))
	}
	body := d.body(depth - 1)
	return loop(test, append(body[:min(len(body), impl.BodyMax-1)], set(grows, of(impl.ExprAdd, name(grows), lit(num(1)))))...)
}

func (d *lively) step(depth int) impl.Step {
	kind := 1 + d.upTo(13)
	if kind >= impl.StepDone && d.upTo(3) > 0 {
		kind = []int{impl.StepCall, impl.StepGo, impl.StepWait}[kind-impl.StepDone]
	}
	within := depth > 1 && (kind == impl.StepIf || kind == impl.StepWhile)
	switch {
	case within && kind == impl.StepIf:
		s := branch(d.expr(), d.body(depth-1), nil)
		if d.upTo(2) == 0 {
			s.Else = d.body(depth - 1)
		}
		return s
	case within:
		return d.turns(depth)
	case kind == impl.StepSet:
		return set(d.any(d.values), d.expr())
	case kind >= impl.StepDone || kind == impl.StepSleep:
		return bare(kind, d.expr())
	}
	what := []string{"up", "down", "f"}[d.upTo(3)]
	made := d.fresh()
	switch {
	case kind == impl.StepJoin && len(d.calls) > 0:
		d.values = append(d.values, made)
		return join(made, d.any(d.calls))
	case kind == impl.StepGo:
		s := ask(kind, made, what, d.expr())
		d.calls = append(d.calls, made)
		return s
	case kind == impl.StepWait:
		d.values = append(d.values, made)
		return wait(made, what)
	case kind == impl.StepCall || kind == impl.StepChild:
		s := ask(kind, made, what, d.expr())
		d.values = append(d.values, made)
		return s
	}
	s := let(made, d.expr())
	d.values = append(d.values, made)
	return s
}

func (d *lively) body(depth int) []impl.Step {
	values, calls := slices.Clone(d.values), slices.Clone(d.calls)
	var list []impl.Step
	for range 1 + d.upTo(4) {
		list = append(list, d.step(depth))
	}
	d.values, d.calls = values, calls
	return list
}

func livelyProg(seed int) impl.Prog {
	d := &lively{dice: dice{uint32(seed)*7919 + 1}, values: []string{"in"}}
	p := impl.Prog{Name: "one"}
	for range 1 + d.upTo(impl.BodyMax) {
		p.Steps = append(p.Steps, d.step(impl.NestMax))
	}
	return p
}

// wanted is what a program waits for, with some value.
func wanted(o impl.Out, v impl.Value) impl.Came {
	what, is := strings.CutPrefix(o.On, "signal ")
	if is {
		return signal(what, v)
	}
	place, _ := strconv.Atoi(strings.TrimPrefix(o.On, "place "))
	switch o.Cmds[place].Kind {
	case impl.CmdTimer:
		return fired(place)
	case impl.CmdChild:
		return childEnd(place, v)
	}
	return answer(place, v)
}

// fed is things that come for a program, most of them those that it waits for.
func (d *dice) fed(p impl.Prog, in impl.Value) []impl.Came {
	var list []impl.Came
	others := someCame()
	for range d.upTo(impl.CameMax + 1) {
		o := modelOf(p, in, list)
		v := []impl.Value{num(0), num(1), num(2), num(d.upTo(9)), text("x"), {}}[d.upTo(6)]
		switch k := d.upTo(10); {
		case k == 0:
			list = append(list, others[d.upTo(len(others))])
		case k == 1:
			list = append(list, signal([]string{"up", "down", "f"}[d.upTo(3)], v))
		case k == 2:
			list = append(list, answer(d.upTo(8), v))
		case o.Status == impl.OutWaits:
			list = append(list, wanted(o, v))
		case d.upTo(3) == 0:
			return list
		}
	}
	return list
}

// given is a program, what it is given, and what comes.
type given struct {
	prog impl.Prog
	in   impl.Value
	came []impl.Came
}

// givens is programs that are fine, each with things that come for it.
var givens = sync.OnceValue(func() []given {
	var list []given
	d := &dice{1}
	ins := []impl.Value{num(0), num(1), num(3), text("x"), {}}
	for i, p := range fineProgs() {
		in := ins[i%len(ins)]
		list = append(list, given{p, in, d.fed(p, in)})
	}
	for seed := range 2000 {
		p, in := livelyProg(seed), ins[d.upTo(3)]
		list = append(list, given{p, in, d.fed(p, in)})
	}
	return list
})

func TestExecOfGivens(t *testing.T) {
	seen := map[string]int{}
	for i, g := range givens() {
		if impl.ProgCheck(g.prog) != impl.ProgFine {
			t.Fatalf("program %d is not fine: %v", i, g.prog)
		}
		for n := range len(g.came) + 1 {
			o, want := impl.Exec(g.prog, g.in, g.came[:n]), modelOf(g.prog, g.in, g.came[:n])
			if !sameOut(o, want) {
				t.Fatalf("%s of %v by %v\n is %s\nnot %s", impl.ProgPut(g.prog), g.in, g.came[:n], shown(o), shown(want))
			}
			seen[strings.Fields(shown(want))[0]]++
			if want.Status == impl.OutFail {
				seen[want.Value.Text]++
			}
			seen["cmds"] = max(seen["cmds"], len(want.Cmds))
		}
	}
	for _, s := range []string{"waits", "done", "fail", "again", "fuel", "value", "many"} {
		if seen[s] < 30 {
			t.Errorf("%s only %d times", s, seen[s])
		}
	}
}
