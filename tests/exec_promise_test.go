package tests

import (
	"slices"
	"testing"

	"loop.example/backstitch/impl"
)

func isEndKind(kind int) bool {
	return kind == impl.CmdDone || kind == impl.CmdFail || kind == impl.CmdAgain
}

// eachGiven does something with each program, by each beginning of what comes for it.
func eachGiven(do func(g given, o impl.Out)) {
	for _, g := range givens() {
		list := g.came
		for n := range len(list) + 1 {
			g.came = slices.Clip(list[:n])
			do(g, impl.Exec(g.prog, g.in, g.came))
		}
	}
}

func (g given) tell() string {
	return impl.ProgPut(g.prog) + " of " + impl.ValuePut(g.in)
}

// Promise 15: a program waits, is done, failed, or goes on anew; its end is the last that it asks for, and no other one is an end.
func TestPromise15(t *testing.T) {
	ends := map[int]int{impl.CmdDone: impl.OutDone, impl.CmdFail: impl.OutFail, impl.CmdAgain: impl.OutAgain}
	eachGiven(func(g given, o impl.Out) {
		waits := o.Status == impl.OutWaits
		if waits != (o.On != "") || waits && o.Value != (impl.Value{}) || len(o.Cmds) > impl.CmdMax || waits && len(o.Cmds) == impl.CmdMax || o.Fuel > impl.FuelMax {
			t.Errorf("%s is %s", g.tell(), shown(o))
		}
		for i, c := range o.Cmds {
			last := !waits && i == len(o.Cmds)-1
			if !impl.CmdOk(c) || isEndKind(c.Kind) != last {
				t.Errorf("%s asks at place %d of %s", g.tell(), i, shown(o))
			}
			if last && (ends[c.Kind] != o.Status || c.Arg != o.Value) {
				t.Errorf("%s ends as %s", g.tell(), shown(o))
			}
		}
		if !waits && len(o.Cmds) == 0 {
			t.Errorf("%s has no end: %s", g.tell(), shown(o))
		}
		if len(o.Vars) == 0 || o.Vars[0].Name != "in" {
			t.Errorf("%s has the names %v", g.tell(), o.Vars)
		}
		for _, v := range o.Vars {
			if !impl.NameOk(v.Name) || !impl.ValueOk(v.Value) {
				t.Errorf("%s has the names %v", g.tell(), o.Vars)
			}
		}
	})
}

// Promise 16: whatever comes later changes nothing of what was asked for.
func TestPromise16(t *testing.T) {
	grown, stayed := 0, 0
	for _, g := range givens() {
		var outs []impl.Out
		for n := range len(g.came) + 1 {
			outs = append(outs, impl.Exec(g.prog, g.in, g.came[:n]))
		}
		for n, less := range outs {
			for _, more := range outs[n:] {
				if len(more.Cmds) < len(less.Cmds) || !slices.Equal(more.Cmds[:len(less.Cmds)], less.Cmds) || more.Fuel < less.Fuel {
					t.Fatalf("%s is %s, and then %s", g.tell(), shown(less), shown(more))
				}
				if len(more.Cmds) > len(less.Cmds) {
					grown++
				}
				if less.Status == impl.OutWaits {
					continue
				}
				stayed++
				if !sameOut(less, more) {
					t.Fatalf("%s ended as %s, and then %s", g.tell(), shown(less), shown(more))
				}
			}
		}
	}
	if grown < 1000 || stayed < 1000 {
		t.Errorf("asked for more %d times, ended %d times", grown, stayed)
	}
}

// mores is things that may come behind others: those around all places that were asked for, signals that are waited for, and others.
func mores(o impl.Out) []impl.Came {
	list := came(signal("up", num(1)), signal("down", num(1)), signal("f", num(1)), signal("get", num(1)), signal("in", num(1)), signal("b", num(1)), signal("Z", num(1)), signal("a", num(1)), signal("put", num(1)), signal("zz", num(1)))
	for _, place := range []int{0, 1, len(o.Cmds) - 2, len(o.Cmds) - 1, len(o.Cmds), len(o.Cmds) + 1, impl.CmdMax - 1} {
		if place >= 0 && place < impl.CmdMax {
			list = append(list, answer(place, num(1)), noAnswer(place), fired(place), childEnd(place, text("x")))
		}
	}
	if o.Status == impl.OutWaits {
		list = append(list, wanted(o, num(2)))
	}
	return list
}

// Promise 17: a program that waits goes on just by what it waits for.
func TestPromise17(t *testing.T) {
	went := 0
	eachGiven(func(g given, o impl.Out) {
		if len(g.came) == impl.CameMax {
			return
		}
		wants := false
		for i, c := range mores(o) {
			// The last is what it waits for; of the others another fourth each time will do.
			if i%4 != len(g.came)%4 && !impl.ExecWants(o, c) {
				continue
			}
			more := impl.Exec(g.prog, g.in, append(g.came, c))
			if !impl.ExecWants(o, c) {
				if !sameOut(o, more) {
					t.Fatalf("%s is %s, and by %v then %s", g.tell(), shown(o), c, shown(more))
				}
				continue
			}
			wants = true
			went++
			if sameOut(o, more) || more.Status == impl.OutWaits && more.Fuel == o.Fuel || more.On == o.On && more.Fuel == o.Fuel {
				t.Fatalf("%s is %s, and does not go on by %v", g.tell(), shown(o), c)
			}
		}
		if wants != (o.Status == impl.OutWaits) {
			t.Errorf("%s is %s, and what it waits for is not wanted", g.tell(), shown(o))
		}
	})
	if went < 3000 {
		t.Errorf("went on only %d times", went)
	}
}

// Promise 18: what a program waits for has not come.
func TestPromise18(t *testing.T) {
	all := append(someCame(), signal("up", num(1)), signal("down", num(1)))
	eachGiven(func(g given, o impl.Out) {
		for _, c := range g.came {
			if c.Kind != impl.CameSignal && impl.ExecWants(o, c) {
				t.Errorf("%s is %s, and %v came", g.tell(), shown(o), c)
			}
		}
		if o.Status == impl.OutWaits {
			return
		}
		for _, c := range slices.Concat(all, g.came) {
			if impl.ExecWants(o, c) {
				t.Errorf("%s is %s, and wants %v", g.tell(), shown(o), c)
			}
		}
	})
}

// Promise 69: a program's name says nothing of its steps.
func TestPromise69(t *testing.T) {
	for i, g := range givens() {
		for _, s := range []string{okNames[i%len(okNames)], "one", "up", "in"} {
			other := impl.Prog{Name: s, Steps: g.prog.Steps}
			if impl.ProgCheck(other) != impl.ProgCheck(g.prog) || impl.ProgCount(other) != impl.ProgCount(g.prog) || !slices.Equal(impl.ProgCalls(other), impl.ProgCalls(g.prog)) {
				t.Errorf("%s is another program as %s", g.tell(), s)
			}
			if o, want := impl.Exec(other, g.in, g.came), impl.Exec(g.prog, g.in, g.came); !sameOut(o, want) {
				t.Errorf("%s is %s, and as %s it is %s", g.tell(), shown(want), s, shown(o))
			}
		}
	}
	for _, p := range throwProgs(500) {
		other := impl.Prog{Name: "other", Steps: p.Steps}
		if impl.ProgCheck(other) != impl.ProgCheck(p) || impl.ProgCount(other) != impl.ProgCount(p) || !slices.Equal(impl.ProgCalls(other), impl.ProgCalls(p)) {
			t.Errorf("%v is another program under another name", p)
		}
	}
}

// Promise 70: what stands behind an end is not done.
func TestPromise70(t *testing.T) {
	whole, stopped := 0, 0
	eachGiven(func(g given, o impl.Out) {
		if len(g.prog.Steps) == impl.BodyMax {
			return
		}
		_, all := modelEnd(g.prog, g.in, g.came)
		more := impl.Exec(behind(g.prog, done(name("in"))), g.in, g.came)
		if !all {
			stopped++
			if !sameOut(o, more) {
				t.Fatalf("%s is %s, and with an end behind %s", g.tell(), shown(o), shown(more))
			}
			return
		}
		whole++
		if o.Status != impl.OutDone || o.Value != (impl.Value{}) || len(o.Vars) != 1 {
			t.Fatalf("%s came to its end, and is %s", g.tell(), shown(o))
		}
		want := impl.OutDone
		if o.Fuel == impl.FuelMax {
			want = impl.OutFail
		}
		in := more.Vars[0].Value
		asked := len(o.Cmds) - 1
		if more.Status != want || want == impl.OutDone && (more.Value != in || more.Fuel != o.Fuel+1) || len(more.Cmds) != asked+1 || !slices.Equal(more.Cmds[:asked], o.Cmds[:asked]) || more.Vars[0] != o.Vars[0] {
			t.Fatalf("%s came to its end, and with one behind is %s", g.tell(), shown(more))
		}
	})
	if whole < 500 || stopped < 500 {
		t.Errorf("%d came to their end, %d did not", whole, stopped)
	}
}

// burnt says whether an Out is how another one ends whose fuel does not suffice by one.
func burnt(o, full impl.Out) bool {
	asked := len(o.Cmds) - 1
	return o.Status == impl.OutFail && o.Value == text("fuel") && o.Fuel == impl.FuelMax && asked <= len(full.Cmds) && slices.Equal(o.Cmds[:asked], full.Cmds[:asked])
}

// Promise 71: steps within a branch that is taken are done as they are.
func TestPromise71(t *testing.T) {
	other := steps(bare(impl.StepFail, lit(text("other"))))
	taken := []func(list []impl.Step) impl.Step{
		func(list []impl.Step) impl.Step { return branch(lit(num(1)), list, nil) },
		func(list []impl.Step) impl.Step { return branch(lit(text("x")), list, other) },
		func(list []impl.Step) impl.Step { return branch(lit(num(0)), other, list) },
		func(list []impl.Step) impl.Step { return branch(lit(impl.Value{}), other, list) },
		func(list []impl.Step) impl.Step {
			return branch(of(impl.ExprSame, name("in"), name("in")), list, other)
		},
	}
	out, within := 0, 0
	eachGiven(func(g given, o impl.Out) {
		if depthOf(g.prog.Steps) == impl.NestMax {
			return
		}
		for at := range g.prog.Steps {
			way := taken[(at+len(g.came))%len(taken)]
			p := impl.Prog{Name: "one", Steps: append(slices.Clone(g.prog.Steps[:at]), way(g.prog.Steps[at:]))}
			want := o
			reached := at == 0
			if !reached {
				_, reached = modelEnd(prog(g.prog.Steps[:at]...), g.in, g.came)
			}
			got := impl.Exec(p, g.in, g.came)
			if reached && o.Fuel == impl.FuelMax {
				out++
				if !burnt(got, o) {
					t.Fatalf("%s is %s, and within a branch %s", g.tell(), shown(o), shown(got))
				}
				continue
			}
			if reached {
				within++
				want.Fuel++
			}
			if !sameOut(got, want) {
				t.Fatalf("%s is %s, and from step %d on within a branch %s", g.tell(), shown(o), at, shown(got))
			}
		}
	})
	if out == 0 || within < 3000 {
		t.Errorf("%d were within a branch, %d had no fuel for it", within, out)
	}
}

// Promise 72: a name that nobody uses changes nothing.
func TestPromise72(t *testing.T) {
	out, more := 0, 0
	worths := []impl.Expr{lit(num(1)), lit(text("x")), lit(impl.Value{}), name("in"), of(impl.ExprSame, name("in"), lit(num(1)))}
	eachGiven(func(g given, o impl.Out) {
		if len(g.prog.Steps) == impl.BodyMax {
			return
		}
		e := worths[len(g.came)%len(worths)]
		p := impl.Prog{Name: "one", Steps: append(steps(let("new", e)), g.prog.Steps...)}
		got := impl.Exec(p, g.in, g.came)
		if o.Fuel == impl.FuelMax {
			out++
			if !burnt(got, o) {
				t.Fatalf("%s is %s, and with a name ahead %s", g.tell(), shown(o), shown(got))
			}
			return
		}
		more++
		want := o
		want.Fuel++
		if _, all := modelEnd(g.prog, g.in, g.came); !all {
			v, _ := impl.ExprEval(e, []impl.Pair{{Name: "in", Value: g.in}})
			want.Vars = slices.Insert(slices.Clone(o.Vars), 1, impl.Pair{Name: "new", Value: v})
		}
		if !sameOut(got, want) {
			t.Fatalf("%s is %s, and with a name ahead %s", g.tell(), shown(want), shown(got))
		}
	})
	if out == 0 || more < 3000 {
		t.Errorf("%d had a name ahead, %d had no fuel for it", more, out)
	}
}
