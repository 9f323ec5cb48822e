package tests

import (
	"fmt"
	"slices"
	"testing"

	"loop.example/backstitch/impl"
)

// stepLists is the memory of all lists of steps, stepTexts of all their texts.
func stepLists(list []impl.Step) []span {
	spans := []span{listSpan(list)}
	for _, s := range list {
		spans = slices.Concat(spans, exprLists(s.Expr), stepLists(s.Body), stepLists(s.Else))
	}
	return spans
}

func stepTexts(list []impl.Step) []span {
	var spans []span
	for _, s := range list {
		spans = append(spans, textSpan(s.Name), textSpan(s.What))
		spans = slices.Concat(spans, exprTexts(s.Expr), stepTexts(s.Body), stepTexts(s.Else))
	}
	return spans
}

func progTexts(p impl.Prog) []span {
	return append(stepTexts(p.Steps), textSpan(p.Name))
}

// roomySteps is steps all lists of which have spare room, with something there.
func roomySteps(list []impl.Step) []impl.Step {
	room := make([]impl.Step, 0, len(list)+3)
	for _, s := range list {
		s.Expr, s.Body, s.Else = roomy(s.Expr), roomySteps(s.Body), roomySteps(s.Else)
		room = append(room, s)
	}
	for i := len(room); i < cap(room); i++ {
		room[:cap(room)][i] = let("spare", name("spare"))
	}
	return room
}

// seenSteps writes down all of some steps, their spare room included.
func seenSteps(list []impl.Step) string {
	text := fmt.Sprint(len(list), "[")
	for _, s := range list[:cap(list)] {
		text += fmt.Sprintf("%d %q %q", s.Kind, s.Name, s.What) + seen(s.Expr) + seenSteps(s.Body) + seenSteps(s.Else)
	}
	return text + "]"
}

// formProgs is programs that are fine or not, without any that is within itself.
func formProgs() []impl.Prog {
	list := fineProgs()
	for _, c := range slices.Concat(nameCodes(), withinCodes(), orderCodes()) {
		list = append(list, prog(c.steps...))
	}
	for way := range withins {
		list = append(list, prog(deep(impl.NestMax, way, done(name("in")))))
	}
	return append(list, throwProgs(500)...)
}

func TestNothingIsWrittenIntoPrograms(t *testing.T) {
	for _, p := range formProgs() {
		p.Steps = roomySteps(p.Steps)
		before := seenSteps(p.Steps)
		impl.ProgCheck(p)
		impl.ProgPut(p)
		impl.ProgCount(p)
		impl.ProgCalls(p)
		if now := seenSteps(p.Steps); now != before {
			t.Errorf("%s is %s now", before, now)
		}
	}
}

// What lies behind the end of a list is no step.
func TestSpareStepsAreNotThere(t *testing.T) {
	in := name("in")
	list := steps(done(in), let("in", in), ask(impl.StepCall, "a", "f", in))
	for _, p := range []impl.Prog{prog(list[:1]...), prog(loop(in, list[:1]...)), prog(branch(in, list[:1], list[:1]))} {
		if impl.ProgCheck(p) != impl.ProgFine || impl.ProgCount(p) != countSteps(p.Steps) || len(impl.ProgCalls(p)) != 0 {
			t.Errorf("%v: %d %d %q", p, impl.ProgCheck(p), impl.ProgCount(p), impl.ProgCalls(p))
		}
	}
}

func TestTextsOfProgramsAreNew(t *testing.T) {
	for _, p := range fineProgs() {
		s := ownText(impl.ProgPut(p))
		if meetAny(progTexts(p), []span{textSpan(impl.ProgPut(p))}) {
			t.Errorf("ProgPut of %s shares a text", s)
		}
		back, _ := impl.ProgGet(s)
		if meetAny(progTexts(back), []span{textSpan(s)}) {
			t.Errorf("ProgGet(%q) shares its text", s)
		}
		for _, name := range impl.ProgCalls(p) {
			if meetAny(progTexts(p), []span{textSpan(name)}) {
				t.Errorf("ProgCalls of %s shares a text", s)
			}
		}
	}
}

func TestListsOfProgramsAreNew(t *testing.T) {
	for _, p := range fineProgs() {
		s := impl.ProgPut(p)
		back, _ := impl.ProgGet(s)
		again, _ := impl.ProgGet(s)
		lists := stepLists(back.Steps)
		if meetAny(lists, stepLists(again.Steps)) {
			t.Errorf("two answers of ProgGet(%q) share a list", s)
		}
		for i := range lists {
			if meetAny(lists[:i], lists[i:i+1]) {
				t.Errorf("ProgGet(%q) has a list twice", s)
			}
		}
		if listSpan(impl.ProgCalls(p)).meets(listSpan(impl.ProgCalls(p))) {
			t.Errorf("two answers of ProgCalls of %s share a list", s)
		}
	}
}

// No function keeps anything: an answer that is written into changes no later one.
func TestNothingIsKeptOfPrograms(t *testing.T) {
	const s = "program one {\n  if in {\n    call a = f(in);\n  } else {\n    call a = f(in);\n  }\n}\n"
	p, calls := getProg(t, s), impl.ProgCalls(getProg(t, s))
	clear(p.Steps[0].Body[:cap(p.Steps[0].Body)])
	if put := impl.ProgPut(prog(p.Steps[0].Else...)); put != "program one {\n  call a = f(in);\n}\n" {
		t.Errorf("the Else is %q", put)
	}
	clear(p.Steps[:cap(p.Steps)])
	clear(calls[:cap(calls)])
	again := getProg(t, s)
	if impl.ProgPut(again) != s || fmt.Sprint(impl.ProgCalls(again)) != "[f]" || impl.ProgCount(again) != 3 {
		t.Error("it is not as it was")
	}
	impl.ProgCheck(prog(let("a", name("in"))))
	if code := impl.ProgCheck(prog(done(name("a")))); code != impl.ProgNone {
		t.Errorf("a is there still: %d", code)
	}
}
