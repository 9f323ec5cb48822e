package tests

import (
	"fmt"
	"slices"
	"strings"
	"testing"

	"loop.example/backstitch/impl"
)

// okExprs is expressions that are ok, and how they are written.
func okExprs() []struct {
	expr impl.Expr
	text string
} {
	one, in := lit(num(1)), name("in")
	return []struct {
		expr impl.Expr
		text string
	}{
		{lit(impl.Value{}), "none"},
		{lit(num(-5)), "-5"},
		{lit(num(impl.NumMax)), "1000000000"},
		{lit(num(-impl.NumMax)), "-1000000000"},
		{lit(text("")), `""`},
		{lit(text("a (b) # c")), `"a (b) # c"`},
		{lit(text(fullText)), `"` + fullText + `"`},
		{in, "in"},
		{name("abcdefghij"), "abcdefghij"},
		{of(impl.ExprAdd, in, one), "(in + 1)"},
		{of(impl.ExprSub, in, one), "(in - 1)"},
		{of(impl.ExprMul, in, one), "(in * 1)"},
		{of(impl.ExprLess, in, one), "(in < 1)"},
		{of(impl.ExprSame, in, one), "(in == 1)"},
		{of(impl.ExprAnd, in, one), "(in and 1)"},
		{of(impl.ExprOr, in, one), "(in or 1)"},
		{of(impl.ExprNot, in), "(not in)"},
		{of(impl.ExprSub, lit(num(-1)), lit(num(-2))), "(-1 - -2)"},
		{of(impl.ExprAdd, of(impl.ExprNot, in), of(impl.ExprMul, one, in)), "((not in) + (1 * in))"},
		{nots(4, in), "(not (not (not (not in))))"},
		{of(impl.ExprAdd, one, of(impl.ExprAdd, one, of(impl.ExprAdd, one, of(impl.ExprAdd, one, in)))), "(1 + (1 + (1 + (1 + in))))"},
		{of(impl.ExprAdd, of(impl.ExprAdd, of(impl.ExprAdd, of(impl.ExprAdd, in, one), one), one), one), "((((in + 1) + 1) + 1) + 1)"},
		{full(impl.ExprMax), fullPut(impl.ExprMax)},
	}
}

// full is an expression so deep, of as many parts as there can be.
func full(depth int) impl.Expr {
	if depth == 1 {
		return name("x")
	}
	return of(impl.ExprOr, full(depth-1), full(depth-1))
}

func fullPut(depth int) string {
	if depth == 1 {
		return "x"
	}
	return "(" + fullPut(depth-1) + " or " + fullPut(depth-1) + ")"
}

// wrongExprs is expressions that are not ok.
func wrongExprs() []impl.Expr {
	in, one := name("in"), lit(num(1))
	list := []impl.Expr{
		{},
		{Kind: -1},
		{Kind: 11},
		{Kind: 11, Parts: []impl.Expr{in}},
		{Kind: 11, Parts: []impl.Expr{in, one}},
		{Kind: 0, Value: num(1)},
		{Kind: 0, Name: "in"},
		{Kind: 0, Parts: []impl.Expr{in, one}},
		{Kind: impl.ExprValue, Value: num(1), Name: "in"},
		{Kind: impl.ExprValue, Value: num(1), Parts: []impl.Expr{in}},
		{Kind: impl.ExprValue, Value: num(1), Parts: []impl.Expr{in, in}},
		{Kind: impl.ExprVar},
		{Kind: impl.ExprVar, Name: "in", Value: num(1)},
		{Kind: impl.ExprVar, Name: "in", Value: text("a")},
		{Kind: impl.ExprVar, Name: "in", Parts: []impl.Expr{one}},
		{Kind: impl.ExprVar, Name: "in", Parts: []impl.Expr{one, one}},
		nots(5, in),
		nots(9, in),
		nots(5, lit(impl.Value{})),
		full(impl.ExprMax + 1),
		of(impl.ExprAdd, one, nots(4, in)),
		of(impl.ExprAdd, nots(4, in), one),
	}
	for _, v := range wrongValues {
		list = append(list, lit(v), of(impl.ExprNot, lit(v)), of(impl.ExprSame, in, lit(v)))
	}
	for _, s := range append(slices.Clone(wrongNames), keptWords...) {
		list = append(list, name(s), of(impl.ExprAdd, name(s), one))
	}
	for kind := impl.ExprAdd; kind <= impl.ExprNot; kind++ {
		list = append(list, of(kind), of(kind, in, one, in), of(kind, in, impl.Expr{}), of(kind, impl.Expr{}, in), of(kind, impl.Expr{}))
		parts := []impl.Expr{in, one}
		if kind == impl.ExprNot {
			parts = parts[:1]
			list = append(list, of(kind, in, one))
		} else {
			list = append(list, of(kind, in))
		}
		list = append(list,
			impl.Expr{Kind: kind, Parts: parts, Name: "in"},
			impl.Expr{Kind: kind, Parts: parts, Value: num(1)},
			impl.Expr{Kind: kind, Parts: parts, Value: impl.Value{Kind: 3}})
	}
	return list
}

// ringExprs is expressions that are parts of themselves, and so deeper than any limit.
func ringExprs() []impl.Expr {
	return []impl.Expr{ring(impl.ExprNot, 1), ring(impl.ExprAnd, 2)}
}

func ring(kind, many int) impl.Expr {
	e := impl.Expr{Kind: kind, Parts: make([]impl.Expr, many)}
	for i := range e.Parts {
		e.Parts[i] = e
	}
	return e
}

// okWritings is texts that tell an expression in another way than ExprPut.
var okWritings = []struct{ text, put string }{
	{" in ", "in"},
	{"in # note", "in"},
	{"# note\nin", "in"},
	{"(in+2)", "(in + 2)"},
	{"(in-2)", "(in - 2)"},
	{"(in - 2)", "(in - 2)"},
	{"(in -2)", "(in - 2)"},
	{"(in--2)", "(in - -2)"},
	{"(in - - 2)", "(in - -2)"},
	{"- 5", "-5"},
	{"-\n5", "-5"},
	{"- # note\n1000000000", "-1000000000"},
	{"(-1-1)", "(-1 - 1)"},
	{"(not(not in))", "(not (not in))"},
	{"(not-1)", "(not -1)"},
	{"(in==in)", "(in == in)"},
	{"(in\nand\tin)", "(in and in)"},
	{`("a"or"b")`, `("a" or "b")`},
	{`("and" and none)`, `("and" and none)`},
}

var wrongWritings = []string{
	"", " ", "# in", "()", "( )", "(", ")", "(in", "in)", "(in)", "((in + 2))", "(in +)", "(+ in)", "(in + 2", "in + 2", "(in + 2) in", "(in + 2))", "in x", "in in", "in ;", ";in",
	"(in 2)", "(in + 2 + 3)", "(in ; 2)", "(in = 2)", "(in === 2)", "(in = = 2)", "(in < = 2)", "(in + + 2)", "(in AND 2)", "(in not 2)", "(in None)",
	"(not)", "(not in in)", "(not in", "not in", "(not + in)", "(and in)", "(in and)", "(in and or)", "(let + 1)", "{in + 2}", "(in + 2}", "(in * )",
	"-", "--5", "- -5", "-in", "-none", `-"a"`, "-(in + 1)", "-0", "- 0", "-05", "(-)", "(in - -)", "(in - -in)", "+5",
	"let", "not", "and", "or", "program", "9a", "00", "01", "abcdefghijk", "1000000001", "-1000000001", "99999999999999999999", "None 1",
	`"`, `"a`, `"` + fullText + `z"`, "\"a\nb\"", "\"\xff\"", "(in + \"\t\")",
	"(not (not (not (not (not)))))", "(1 + (1 + (1 + (1 + ( + )))))", "(not (not (not (not ( + )))))",
	"(not (not (not (not (not in)))))", "((((((in + 1) + 1) + 1) + 1) + 1) + 1)", "(1 + (1 + (1 + (1 + (1 + in)))))", "(((((in + 1) + 1) + 1) + 1) + 1)",
	"in $", "$", "'in'", "in, x", "ä", "in\r",
	strings.Repeat("(", 100000), strings.Repeat("(not ", 100000) + "in" + strings.Repeat(")", 100000), strings.Repeat("-", 100000),
}

func TestExprOk(t *testing.T) {
	for _, c := range okExprs() {
		if !impl.ExprOk(c.expr) {
			t.Errorf("%s is not ok", c.text)
		}
	}
	for i, e := range append(wrongExprs(), ringExprs()...) {
		if impl.ExprOk(e) {
			t.Errorf("wrong %d is ok", i)
		}
	}
}

// An empty list is the same as none.
func TestExprOkOfEmptyParts(t *testing.T) {
	for _, e := range []impl.Expr{lit(num(1)), name("in")} {
		e.Parts = make([]impl.Expr, 0, 4)
		if !impl.ExprOk(e) || impl.ExprPut(e) == "" || told(t, e, someVars()) == "" {
			t.Errorf("%v is not ok", e)
		}
	}
}

// Each limit of ExprMax is met exactly, by each kind, at each part.
func TestExprDepth(t *testing.T) {
	for kind := impl.ExprAdd; kind <= impl.ExprNot; kind++ {
		for depth := 1; depth <= impl.ExprMax+2; depth++ {
			e, mirror := name("x"), name("x")
			for range depth - 1 {
				if kind == impl.ExprNot {
					e, mirror = of(kind, e), of(kind, mirror)
				} else {
					e, mirror = of(kind, e, name("x")), of(kind, name("x"), mirror)
				}
			}
			want := depth <= impl.ExprMax
			for _, e := range []impl.Expr{e, mirror} {
				if impl.ExprOk(e) != want || (impl.ExprPut(e) != "") != want || (len(impl.ExprNames(e)) == 1) != want {
					t.Errorf("kind %d, depth %d", kind, depth)
				}
			}
		}
	}
	for depth := 1; depth <= impl.ExprMax+2; depth++ {
		e, ok := impl.ExprGet(fullPut(depth))
		if want := depth <= impl.ExprMax; ok != want || ok && !sameExpr(e, full(depth)) || !ok && !noExpr(e) {
			t.Errorf("depth %d: %v", depth, ok)
		}
	}
}

// At what is not ok each function has its one answer.
func TestExprWrong(t *testing.T) {
	for i, e := range append(wrongExprs(), ringExprs()...) {
		if s := impl.ExprPut(e); s != "" {
			t.Errorf("wrong %d is written as %q", i, s)
		}
		if names := impl.ExprNames(e); len(names) != 0 {
			t.Errorf("wrong %d has the names %q", i, names)
		}
		if v, ok := impl.ExprEval(e, someVars()); ok || v != (impl.Value{}) {
			t.Errorf("wrong %d is %v %v", i, v, ok)
		}
	}
	for _, s := range wrongWritings {
		if e, ok := impl.ExprGet(s); ok || !noExpr(e) {
			t.Errorf("%.40q is read as %v", s, e)
		}
	}
}

// Promise 4: an expression is read back from its text.
func TestPromise4(t *testing.T) {
	for _, c := range okExprs() {
		if s := impl.ExprPut(c.expr); s != c.text {
			t.Errorf("%s is written as %s", c.text, s)
		}
	}
	list := someExprs()
	for _, c := range okExprs() {
		list = append(list, c.expr)
	}
	for _, e := range list {
		s := impl.ExprPut(e)
		if back, ok := impl.ExprGet(s); !ok || !sameExpr(back, e) {
			t.Errorf("%s is read as %v %v", s, back, ok)
		}
		// Each sign alone says so much as with blanks around it.
		tight := strings.NewReplacer("( ", "(", " )", ")", " + ", "+", " - ", "-", " * ", "*", " < ", "<", " == ", "==").Replace(s)
		if back, ok := impl.ExprGet(tight); !ok || !sameExpr(back, e) {
			t.Errorf("%s is read as %v %v", tight, back, ok)
		}
	}
	for _, c := range okWritings {
		e, ok := impl.ExprGet(c.text)
		if !ok || !impl.ExprOk(e) || impl.ExprPut(e) != c.put {
			t.Errorf("%q is read as %v %v", c.text, e, ok)
		}
	}
	// What is read, out of all short rows of these words, is read back.
	words := []string{"(", ")", "-", "1", "x", "not", "and"}
	rows := [][]string{nil}
	for at := 0; at < len(rows); at++ {
		s := strings.Join(rows[at], " ")
		e, ok := impl.ExprGet(s)
		if back, again := impl.ExprGet(impl.ExprPut(e)); ok && (!impl.ExprOk(e) || !again || !sameExpr(back, e)) || !ok && !noExpr(e) {
			t.Errorf("%q is read as %v %v", s, e, ok)
		}
		if len(rows[at]) < 5 {
			for _, w := range words {
				rows = append(rows, append(slices.Clone(rows[at]), w))
			}
		}
	}
}

func TestExprNames(t *testing.T) {
	for _, c := range []struct{ text, want string }{
		{"1", "[]"},
		{"none", "[]"},
		{`"in"`, "[]"},
		{`("a" + ("b" or 3))`, "[]"},
		{"in", "[in]"},
		{"(in + in)", "[in]"},
		{"(b + a)", "[a b]"},
		{"((y + x) * y)", "[x y]"},
		{"(not (z == (a and (z < b))))", "[a b z]"},
		{"((ab + a) or (abc + (b + B)))", "[B a ab abc b]"},
		{"((a2 + a10) + (a1 + a))", "[a a1 a10 a2]"},
		{"((0 and p) or (1 or q))", "[p q]"},
		{"((h + (g + (f + e))) - (d - (c + b)))", "[b c d e f g h]"},
	} {
		if got := fmt.Sprint(impl.ExprNames(get(t, c.text))); got != c.want {
			t.Errorf("names of %s are %s", c.text, got)
		}
	}
}

// The six values of the grids, in order; a dot in a grid is what cannot be.
var gridValues = strings.Fields(`none 0 3 -3 "" "a"`)

// Each kind of two parts: a row for each first part, in it each second part.
var grids = map[string]string{
	"+": `. . . . . .
	      . 0 3 -3 . .
	      . 3 6 0 . .
	      . -3 0 -6 . .
	      . . . . "" "a"
	      . . . . "a" "aa"`,
	"-": `. . . . . .
	      . 0 -3 3 . .
	      . 3 0 6 . .
	      . -3 -6 0 . .
	      . . . . . .
	      . . . . . .`,
	"*": `. . . . . .
	      . 0 0 0 . .
	      . 0 9 -9 . .
	      . 0 -9 9 . .
	      . . . . . .
	      . . . . . .`,
	"<": `. . . . . .
	      . 0 1 0 . .
	      . 0 0 0 . .
	      . 1 1 0 . .
	      . . . . . .
	      . . . . . .`,
	"==": `1 0 0 0 0 0
	       0 1 0 0 0 0
	       0 0 1 0 0 0
	       0 0 0 1 0 0
	       0 0 0 0 1 0
	       0 0 0 0 0 1`,
	"and": `0 0 0 0 0 0
	        0 0 0 0 0 0
	        0 0 1 1 0 1
	        0 0 1 1 0 1
	        0 0 0 0 0 0
	        0 0 1 1 0 1`,
	"or": `0 0 1 1 0 1
	       0 0 1 1 0 1
	       1 1 1 1 1 1
	       1 1 1 1 1 1
	       0 0 1 1 0 1
	       1 1 1 1 1 1`,
}

// Each two values, written down and by names.
func TestExprEvalOfEachTwo(t *testing.T) {
	for sign, grid := range grids {
		for i, want := range strings.Fields(grid) {
			a, b := gridValues[i/6], gridValues[i%6]
			if want == "." {
				want = ""
			}
			if got := told(t, get(t, "("+a+" "+sign+" "+b+")"), nil); got != want {
				t.Errorf("(%s %s %s) is %q", a, sign, b, got)
			}
			first, _ := impl.ValueGet(a)
			second, _ := impl.ValueGet(b)
			vars := []impl.Pair{{Name: "p", Value: first}, {Name: "q", Value: second}}
			if got := told(t, get(t, "(p "+sign+" q)"), vars); got != want {
				t.Errorf("(p %s q) of %s and %s is %q", sign, a, b, got)
			}
		}
	}
}

// someEvals is what expressions are, by someVars; empty for what cannot be.
var someEvals = []struct{ text, want string }{
	{"none", "none"},
	{"-5", "-5"},
	{`"a b"`, `"a b"`},
	{"in", "3"},
	{"x", "none"},
	{"y", `"ab"`},
	{"X", "0"},
	{"gone", ""},
	{"Y", ""},
	{"i", ""},
	{"((in + 2) < (not x))", "0"},
	{"((in + 2) * (in - 7))", "-20"},
	{"(in - (in - in))", "3"},
	{"((in - in) - in)", "-3"},
	{"(1000000000 + 0)", "1000000000"},
	{"(1000000000 + 1)", ""},
	{"(999999999 + 1)", "1000000000"},
	{"(-1000000000 - 0)", "-1000000000"},
	{"(-1000000000 - 1)", ""},
	{"(-999999999 - 1)", "-1000000000"},
	{"(-1000000000 + -1)", ""},
	{"(1000000000 - -1)", ""},
	{"(top + low)", "0"},
	{"(top - low)", ""},
	{"(top - top)", "0"},
	{"(top * top)", ""},
	{"(top * low)", ""},
	{"(low * low)", ""},
	{"(top * -1)", "-1000000000"},
	{"(low * -1)", "1000000000"},
	{"(50000 * 20000)", "1000000000"},
	{"(50000 * -20000)", "-1000000000"},
	{"(31623 * 31623)", ""},
	{"((top + 1) - 1)", ""},
	{"(low < top)", "1"},
	{"(top < low)", "0"},
	{"(2 < 10)", "1"},
	{"(10 < 2)", "0"},
	{"(-10 < -2)", "1"},
	{"(3 < in)", "0"},
	{"(2 < in)", "1"},
	{"(y + y)", `"abab"`},
	{`(y + "c")`, `"abc"`},
	{`("c" + y)`, `"cab"`},
	{`(long + "")`, `"123456789012345678901234"`},
	{`("" + long)`, `"123456789012345678901234"`},
	{`(long + "5")`, ""},
	{`("5" + long)`, ""},
	{`("123456789012" + "123456789012")`, `"123456789012123456789012"`},
	{`("123456789012" + "1234567890123")`, ""},
	{"(long + long)", ""},
	{`(y + 1)`, ""},
	{`(1 + y)`, ""},
	{`(y + x)`, ""},
	{`(y - y)`, ""},
	{`(y < y)`, ""},
	{`(y < "b")`, ""},
	{`(y == "ab")`, "1"},
	{`(y == "aB")`, "0"},
	{`("3" == in)`, "0"},
	{`("" == none)`, "0"},
	{"(0 == none)", "0"},
	{"(X == 0)", "1"},
	{"(gone == gone)", ""},
	{"(gone == 1)", ""},
	{"(1 == gone)", ""},
	{"((y - 1) == 1)", ""},
	{"(1 < gone)", ""},
	{"(gone + 1)", ""},
	{"(1 + gone)", ""},
	{"(not none)", "1"},
	{"(not 0)", "1"},
	{`(not "")`, "1"},
	{"(not 7)", "0"},
	{"(not -7)", "0"},
	{`(not "0")`, "0"},
	{`(not " ")`, "0"},
	{"(not gone)", ""},
	{"(not (y - 1))", ""},
	{"(0 and gone)", "0"},
	{"(none and (y - 1))", "0"},
	{`("" and (top + top))`, "0"},
	{"(1 and gone)", ""},
	{"(1 or gone)", "1"},
	{"(-1 or (y - 1))", "1"},
	{`("a" or (top + top))`, "1"},
	{"(0 or gone)", ""},
	{"(gone and 0)", ""},
	{"(gone or 1)", ""},
	{"((y - 1) and 0)", ""},
	{"((y - 1) or 1)", ""},
	{"(1 and (0 and gone))", "0"},
	{"((1 or gone) and (0 or 5))", "1"},
	{"(5 and 7)", "1"},
	{`(5 and "a")`, "1"},
	{"(5 or 7)", "1"},
	{"(0 or 7)", "1"},
	{"(0 or none)", "0"},
}

func TestExprEval(t *testing.T) {
	for _, c := range someEvals {
		if got := told(t, get(t, c.text), someVars()); got != c.want {
			t.Errorf("%s is %q", c.text, got)
		}
	}
}

// Names that are none, or twice, or that have a wrong value: nothing, even if nobody asks for them.
func TestExprEvalOfWrongNames(t *testing.T) {
	var wrong []impl.Pair
	for _, s := range append(slices.Clone(wrongNames), keptWords...) {
		wrong = append(wrong, impl.Pair{Name: s, Value: num(1)})
	}
	for _, v := range wrongValues {
		wrong = append(wrong, impl.Pair{Name: "free", Value: v})
	}
	for _, p := range someVars() {
		wrong = append(wrong, p, impl.Pair{Name: p.Name, Value: num(77)})
	}
	for _, p := range wrong {
		for _, s := range []string{"1", "in", "(0 and gone)", "(in + 1)"} {
			for _, vars := range [][]impl.Pair{append(someVars(), p), append([]impl.Pair{p}, someVars()...)} {
				if v, ok := impl.ExprEval(get(t, s), vars); ok || v != (impl.Value{}) {
					t.Errorf("%s beside %v is %v %v", s, p, v, ok)
				}
			}
		}
	}
}

// There is no limit to how many names there are.
func TestExprEvalOfManyNames(t *testing.T) {
	var vars []impl.Pair
	for i := range 3000 {
		vars = append(vars, impl.Pair{Name: fmt.Sprint("n", i), Value: num(i)})
	}
	if got := told(t, get(t, "((n0 + n1) + (n2999 + n1500))"), vars); got != "4500" {
		t.Errorf("it is %q", got)
	}
	if got := told(t, get(t, "n3000"), vars); got != "" {
		t.Errorf("it is %q", got)
	}
	if got := told(t, get(t, "n1"), append(vars, vars[2999])); got != "" {
		t.Errorf("with one twice it is %q", got)
	}
}

// Promise 5: an expression asks for no names but its own.
func TestPromise5(t *testing.T) {
	for _, e := range someExprs() {
		names := impl.ExprNames(e)
		if !slices.IsSorted(names) || len(slices.Compact(slices.Clone(names))) != len(names) {
			t.Errorf("names of %s are %q", impl.ExprPut(e), names)
		}
		var own []impl.Pair
		for _, p := range someVars() {
			if slices.Contains(names, p.Name) {
				own = append(own, p)
			}
		}
		v, ok := impl.ExprEval(e, someVars())
		if w, fine := impl.ExprEval(e, own); fine != ok || w != v || !impl.ValueOk(v) {
			t.Errorf("%s is %v %v, and by its own names %v %v", impl.ExprPut(e), v, ok, w, fine)
		}
	}
}

// Promise 6: it is the same in whatever order names stand.
func TestPromise6(t *testing.T) {
	back := someVars()
	slices.Reverse(back)
	turned := append(someVars()[3:], someVars()[:3]...)
	for _, e := range someExprs() {
		v, ok := impl.ExprEval(e, someVars())
		for _, vars := range [][]impl.Pair{back, turned} {
			if w, fine := impl.ExprEval(e, vars); fine != ok || w != v {
				t.Errorf("%s is %v %v, and otherwise %v %v", impl.ExprPut(e), v, ok, w, fine)
			}
		}
	}
}

// bit is how a truth is told.
func bit(so bool) string {
	if so {
		return "1"
	}
	return "0"
}

// Promise 7: what is not so twice is so.
func TestPromise7(t *testing.T) {
	for _, e := range someExprs() {
		is, once, twice := told(t, e, someVars()), "", ""
		if is != "" {
			once, twice = bit(!counts(is)), bit(counts(is))
		}
		if got := told(t, nots(1, e), someVars()); got != once {
			t.Errorf("not %s is %q", impl.ExprPut(e), got)
		}
		if got := told(t, nots(2, e), someVars()); got != twice {
			t.Errorf("not not %s is %q", impl.ExprPut(e), got)
		}
	}
}

// Promise 8: something is the same as itself, and not less.
func TestPromise8(t *testing.T) {
	for _, e := range someExprs() {
		is, same, less := told(t, e, someVars()), "", ""
		if is != "" {
			same = "1"
		}
		if isNumText(is) {
			less = "0"
		}
		if got := told(t, of(impl.ExprSame, e, e), someVars()); got != same {
			t.Errorf("%s is the same as itself: %q", impl.ExprPut(e), got)
		}
		if got := told(t, of(impl.ExprLess, e, e), someVars()); got != less {
			t.Errorf("%s is less than itself: %q", impl.ExprPut(e), got)
		}
	}
}

// Promise 9: the second part is asked only if it must be.
func TestPromise9(t *testing.T) {
	cannot := []impl.Expr{name("gone"), of(impl.ExprSub, name("y"), lit(num(1))), of(impl.ExprAdd, name("top"), name("top"))}
	for _, e := range someExprs() {
		is, and, or := told(t, e, someVars()), "", ""
		if is != "" && !counts(is) {
			and = "0"
		}
		if is != "" && counts(is) {
			or = "1"
		}
		for _, c := range cannot {
			if got := told(t, of(impl.ExprAnd, e, c), someVars()); got != and {
				t.Errorf("%s and something that cannot be is %q", impl.ExprPut(e), got)
			}
			if got := told(t, of(impl.ExprOr, e, c), someVars()); got != or {
				t.Errorf("%s or something that cannot be is %q", impl.ExprPut(e), got)
			}
			for kind := impl.ExprAdd; kind <= impl.ExprOr; kind++ {
				if got := told(t, of(kind, c, e), someVars()); got != "" {
					t.Errorf("kind %d of something that cannot be, and %s, is %q", kind, impl.ExprPut(e), got)
				}
			}
		}
	}
}

// Promise 66: what is added and taken away again is as it was.
func TestPromise66(t *testing.T) {
	one, full := lit(num(1)), fmt.Sprint(impl.NumMax)
	for _, e := range someExprs() {
		is, up, down := told(t, e, someVars()), "", ""
		if isNumText(is) && is != full {
			up = is
		}
		if isNumText(is) && is != "-"+full {
			down = is
		}
		if got := told(t, of(impl.ExprSub, of(impl.ExprAdd, e, one), one), someVars()); got != up {
			t.Errorf("%s and 1, less 1, is %q", impl.ExprPut(e), got)
		}
		if got := told(t, of(impl.ExprSub, of(impl.ExprAdd, one, e), one), someVars()); got != up {
			t.Errorf("1 and %s, less 1, is %q", impl.ExprPut(e), got)
		}
		if got := told(t, of(impl.ExprAdd, of(impl.ExprSub, e, one), one), someVars()); got != down {
			t.Errorf("%s less 1, and 1, is %q", impl.ExprPut(e), got)
		}
	}
}

// Promise 67: once something is that, no times it is nothing.
func TestPromise67(t *testing.T) {
	one, nought := lit(num(1)), lit(num(0))
	for _, e := range someExprs() {
		is, once, never := told(t, e, someVars()), "", ""
		if isNumText(is) {
			once, never = is, "0"
		}
		for _, c := range []struct {
			product impl.Expr
			want    string
		}{{of(impl.ExprMul, e, one), once}, {of(impl.ExprMul, one, e), once}, {of(impl.ExprMul, e, nought), never}, {of(impl.ExprMul, nought, e), never}} {
			if got := told(t, c.product, someVars()); got != c.want {
				t.Errorf("%s is %q", impl.ExprPut(c.product), got)
			}
		}
	}
}
