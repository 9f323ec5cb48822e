package tests

import (
	"math"
	"testing"

	"loop.example/backstitch/impl"
)

// okActs is acts of each kind, at their edges too.
func okActs() []impl.Act {
	list := []impl.Act{ticks(1), ticks(2), ticks(impl.TickMax)}
	for _, v := range okValues {
		list = append(list, starts("up", v.value), signals(3, "up", v.value), answers(3, 2, v.value))
	}
	for _, s := range okNames {
		list = append(list, starts(s, num(1)), signals(0, s, impl.Value{}))
	}
	for _, run := range []int{0, 1, impl.RunMax - 1} {
		list = append(list, signals(run, "up", num(1)), cancels(run))
		for _, place := range []int{0, 1, impl.CmdMax - 1} {
			list = append(list, answers(run, place, num(1)), answers(run, place, impl.Value{}), refuses(run, place))
		}
	}
	return list
}

// wrongActs is acts each of which has one thing that its kind does not have, or not so.
func wrongActs() []impl.Act {
	list := []impl.Act{{}, {Ok: true}, {Kind: -1, Ok: true}, {Kind: impl.ActTick + 1, Ok: true}, {Kind: impl.ActTick + 1, Ok: true, Num: 1}, {Kind: math.MinInt, Ok: true}, {Kind: math.MaxInt, Ok: true}}
	for _, n := range []int{0, -1, impl.TickMax + 1, math.MinInt, math.MaxInt} {
		list = append(list, ticks(n))
	}
	for _, v := range wrongValues {
		list = append(list, starts("up", v), signals(0, "up", v), answers(0, 0, v))
	}
	for _, s := range wrongNames {
		list = append(list, starts(s, num(1)), signals(0, s, num(1)))
	}
	for _, run := range []int{-1, impl.RunMax, math.MinInt, math.MaxInt} {
		list = append(list, signals(run, "up", num(1)), answers(run, 0, num(1)), refuses(run, 0), cancels(run))
	}
	for _, place := range []int{-1, impl.CmdMax, math.MinInt, math.MaxInt} {
		list = append(list, answers(0, place, num(1)), refuses(0, place))
	}
	refused := refuses(0, 0)
	refused.Value = num(1)
	list = append(list, refused)
	for _, a := range []impl.Act{starts("up", num(1)), signals(0, "up", num(1)), cancels(0), ticks(1)} {
		a.Ok = false
		list = append(list, a)
	}
	// What a kind does not have.
	for _, a := range []impl.Act{starts("up", num(1)), ticks(1)} {
		a.Run = 1
		list = append(list, a)
	}
	for _, a := range []impl.Act{starts("up", num(1)), signals(0, "up", num(1)), cancels(0), ticks(1)} {
		a.Place = 1
		list = append(list, a)
	}
	for _, a := range []impl.Act{answers(0, 0, num(1)), refuses(0, 0), cancels(0), ticks(1)} {
		a.Name = "up"
		list = append(list, a)
	}
	for _, a := range []impl.Act{cancels(0), ticks(1)} {
		a.Value = num(1)
		list = append(list, a)
		a.Value = impl.Value{Num: 1}
		list = append(list, a)
	}
	for _, a := range []impl.Act{starts("up", num(1)), signals(0, "up", num(1)), answers(0, 0, num(1)), refuses(0, 0), cancels(0)} {
		a.Num = 1
		list = append(list, a)
	}
	return list
}

func TestActOk(t *testing.T) {
	for _, a := range okActs() {
		if !impl.ActOk(a) || !modelActOk(a) {
			t.Errorf("%v is not ok", a)
		}
	}
	for _, a := range wrongActs() {
		if impl.ActOk(a) || modelActOk(a) {
			t.Errorf("%v is ok", a)
		}
	}
}

// anyActs is an act for each kind with each thing that there may be, ok or not.
func anyActs() []impl.Act {
	var list []impl.Act
	for kind := range impl.ActTick + 2 {
		for _, run := range []int{-1, 0, 1, impl.RunMax - 1, impl.RunMax} {
			for _, place := range []int{-1, 0, 3, impl.CmdMax - 1, impl.CmdMax} {
				for _, s := range []string{"", "up", "let", "9"} {
					for _, v := range []impl.Value{{}, num(1), text("x"), {Kind: 3}} {
						for _, n := range []int{-1, 0, 1, impl.TickMax, impl.TickMax + 1} {
							list = append(list, impl.Act{Kind: kind, Run: run, Place: place, Name: s, Value: v, Num: n}, impl.Act{Kind: kind, Run: run, Place: place, Name: s, Ok: true, Value: v, Num: n})
						}
					}
				}
			}
		}
	}
	return list
}

func TestActOkOfAny(t *testing.T) {
	ok := map[int]int{}
	for _, a := range anyActs() {
		if impl.ActOk(a) != modelActOk(a) {
			t.Fatalf("%v is ok: %v", a, impl.ActOk(a))
		}
		if impl.ActOk(a) {
			ok[a.Kind]++
		}
	}
	for kind := impl.ActStart; kind <= impl.ActTick; kind++ {
		if ok[kind] == 0 {
			t.Errorf("none of kind %d is ok", kind)
		}
	}
}
