package tests

import (
	"slices"
	"testing"

	"loop.example/backstitch/impl"
)

func num(n int) impl.Value {
	return impl.Value{Kind: impl.IsNum, Num: n}
}

func text(s string) impl.Value {
	return impl.Value{Kind: impl.IsText, Text: s}
}

func lit(v impl.Value) impl.Expr {
	return impl.Expr{Kind: impl.ExprValue, Value: v}
}

func name(s string) impl.Expr {
	return impl.Expr{Kind: impl.ExprVar, Name: s}
}

func of(kind int, parts ...impl.Expr) impl.Expr {
	return impl.Expr{Kind: kind, Parts: parts}
}

// nots is an expression with so many ExprNot around.
func nots(n int, e impl.Expr) impl.Expr {
	for range n {
		e = of(impl.ExprNot, e)
	}
	return e
}

// sameExpr takes an empty list and a nil list for the same.
func sameExpr(a, b impl.Expr) bool {
	return a.Kind == b.Kind && a.Value == b.Value && a.Name == b.Name && slices.EqualFunc(a.Parts, b.Parts, sameExpr)
}

func noExpr(e impl.Expr) bool {
	return sameExpr(e, impl.Expr{})
}

// get reads an expression that must be one.
func get(t *testing.T, s string) impl.Expr {
	t.Helper()
	e, ok := impl.ExprGet(s)
	if !ok {
		t.Fatalf("ExprGet(%q) is false", s)
	}
	return e
}

// told is what an expression is, as a text; empty if it cannot be.
func told(t *testing.T, e impl.Expr, vars []impl.Pair) string {
	t.Helper()
	v, ok := impl.ExprEval(e, vars)
	if !ok {
		if v != (impl.Value{}) {
			t.Errorf("ExprEval of %s is false beside %v", impl.ExprPut(e), v)
		}
		return ""
	}
	s := impl.ValuePut(v)
	if s == "" {
		t.Errorf("ExprEval of %s tells %v, which is not ok", impl.ExprPut(e), v)
	}
	return s
}

// counts is by the text of a value, apart from the program's own way.
func counts(s string) bool {
	return s != "none" && s != "0" && s != `""`
}

func isNumText(s string) bool {
	return s != "" && s != "none" && s[0] != '"'
}

// someVars is a name for each kind of value, at its edges too.
func someVars() []impl.Pair {
	return []impl.Pair{
		{Name: "in", Value: num(3)},
		{Name: "x"},
		{Name: "y", Value: text("ab")},
		{Name: "top", Value: num(impl.NumMax)},
		{Name: "low", Value: num(-impl.NumMax)},
		{Name: "long", Value: text("123456789012345678901234")},
		{Name: "X", Value: num(0)},
	}
}

// someLeaves is expressions without parts; the last has a name that is not there.
func someLeaves() []impl.Expr {
	list := []impl.Expr{lit(impl.Value{}), lit(num(0)), lit(num(1)), lit(num(-7)), lit(text("")), lit(text("a b"))}
	for _, p := range someVars() {
		list = append(list, name(p.Name))
	}
	return append(list, name("gone"))
}

// someExprs is leaves, all expressions of two of these, and some of those within others.
func someExprs() []impl.Expr {
	leaves := someLeaves()
	list := slices.Clone(leaves)
	for _, a := range leaves {
		list = append(list, of(impl.ExprNot, a))
		for kind := impl.ExprAdd; kind <= impl.ExprOr; kind++ {
			for _, b := range leaves {
				list = append(list, of(kind, a, b))
			}
		}
	}
	flat := len(list)
	for i := 0; i < flat; i += 7 {
		kind := impl.ExprAdd + i%7
		list = append(list, of(kind, list[i], list[(i*31+5)%flat]), of(impl.ExprNot, list[i]))
	}
	return list
}

func let(s string, e impl.Expr) impl.Step {
	return impl.Step{Kind: impl.StepLet, Name: s, Expr: e}
}

func set(s string, e impl.Expr) impl.Step {
	return impl.Step{Kind: impl.StepSet, Name: s, Expr: e}
}

// ask is a StepCall, a StepGo or a StepChild.
func ask(kind int, s, what string, e impl.Expr) impl.Step {
	return impl.Step{Kind: kind, Name: s, What: what, Expr: e}
}

func join(s, what string) impl.Step {
	return impl.Step{Kind: impl.StepJoin, Name: s, What: what}
}

func wait(s, what string) impl.Step {
	return impl.Step{Kind: impl.StepWait, Name: s, What: what}
}

// bare is a step that has an expression alone.
func bare(kind int, e impl.Expr) impl.Step {
	return impl.Step{Kind: kind, Expr: e}
}

func done(e impl.Expr) impl.Step {
	return bare(impl.StepDone, e)
}

func branch(e impl.Expr, body, orElse []impl.Step) impl.Step {
	return impl.Step{Kind: impl.StepIf, Expr: e, Body: body, Else: orElse}
}

func loop(e impl.Expr, body ...impl.Step) impl.Step {
	return impl.Step{Kind: impl.StepWhile, Expr: e, Body: body}
}

func steps(list ...impl.Step) []impl.Step {
	return list
}

func prog(list ...impl.Step) impl.Prog {
	return impl.Prog{Name: "one", Steps: list}
}

func sameStep(a, b impl.Step) bool {
	return a.Kind == b.Kind && a.Name == b.Name && a.What == b.What && sameExpr(a.Expr, b.Expr) &&
		slices.EqualFunc(a.Body, b.Body, sameStep) && slices.EqualFunc(a.Else, b.Else, sameStep)
}

func sameProg(a, b impl.Prog) bool {
	return a.Name == b.Name && slices.EqualFunc(a.Steps, b.Steps, sameStep)
}

func noProg(p impl.Prog) bool {
	return sameProg(p, impl.Prog{})
}

// getProg reads a program that must be one.
func getProg(t *testing.T, s string) impl.Prog {
	t.Helper()
	p, ok := impl.ProgGet(s)
	if !ok {
		t.Fatalf("ProgGet(%q) is false", s)
	}
	return p
}

// countSteps and depthOf are apart from the program's own way.
func countSteps(list []impl.Step) int {
	n := 0
	for len(list) > 0 {
		var within []impl.Step
		for _, s := range list {
			n++
			within = slices.Concat(within, s.Body, s.Else)
		}
		list = within
	}
	return n
}

func depthOf(list []impl.Step) int {
	depth := 0
	for len(list) > 0 {
		var within []impl.Step
		for _, s := range list {
			within = slices.Concat(within, s.Body, s.Else)
		}
		depth, list = depth+1, within
	}
	return depth
}
