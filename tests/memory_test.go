package tests

import (
	"fmt"
	"slices"
	"strings"
	"testing"
	"unsafe"

	"loop.example/backstitch/impl"
)

// span is a piece of memory, from a byte on up to ahead of another one.
type span struct{ from, to uintptr }

func textSpan(s string) span {
	from := uintptr(unsafe.Pointer(unsafe.StringData(s)))
	return span{from, from + uintptr(len(s))}
}

// listSpan is the memory of a list, its spare room included.
func listSpan[T any](list []T) span {
	var one T
	from := uintptr(unsafe.Pointer(unsafe.SliceData(list)))
	return span{from, from + uintptr(cap(list))*unsafe.Sizeof(one)}
}

func (s span) meets(o span) bool {
	return s.from < s.to && o.from < o.to && s.from < o.to && o.from < s.to
}

func meetAny(a, b []span) bool {
	return slices.ContainsFunc(a, func(s span) bool { return slices.ContainsFunc(b, s.meets) })
}

// exprLists is the memory of all lists of an expression, exprTexts of all its texts.
func exprLists(e impl.Expr) []span {
	list := []span{listSpan(e.Parts)}
	for _, part := range e.Parts {
		list = append(list, exprLists(part)...)
	}
	return list
}

func exprTexts(e impl.Expr) []span {
	list := []span{textSpan(e.Name), textSpan(e.Value.Text)}
	for _, part := range e.Parts {
		list = append(list, exprTexts(part)...)
	}
	return list
}

// ownText is a text in memory that nobody else has.
func ownText(s string) string {
	return strings.Clone(s)
}

// roomy is an expression all lists of which have spare room, with something there.
func roomy(e impl.Expr) impl.Expr {
	parts := make([]impl.Expr, 0, len(e.Parts)+3)
	for _, part := range e.Parts {
		parts = append(parts, roomy(part))
	}
	for i := len(parts); i < cap(parts); i++ {
		parts[:cap(parts)][i] = name("spare")
	}
	e.Parts = parts
	return e
}

// seen writes down all of an expression, its spare room included.
func seen(e impl.Expr) string {
	s := fmt.Sprintf("%d %v %q %d [", e.Kind, e.Value, e.Name, len(e.Parts))
	for _, part := range e.Parts[:cap(e.Parts)] {
		s += seen(part)
	}
	return s + "]"
}

func TestNothingIsWrittenIntoArguments(t *testing.T) {
	list := append(someExprs(), wrongExprs()...)
	for _, c := range okExprs() {
		list = append(list, c.expr)
	}
	vars := append(make([]impl.Pair, 0, 20), someVars()...)
	for i := len(vars); i < cap(vars); i++ {
		vars[:cap(vars)][i] = impl.Pair{Name: "spare", Value: num(i)}
	}
	pairs := slices.Clone(vars[:cap(vars)])
	for _, e := range list {
		e = roomy(e)
		before := seen(e)
		impl.ExprOk(e)
		impl.ExprPut(e)
		impl.ExprNames(e)
		impl.ExprEval(e, vars)
		if seen(e) != before {
			t.Errorf("%s is %s now", before, seen(e))
		}
		if !slices.Equal(vars[:cap(vars)], pairs) {
			t.Fatalf("names are %v now", vars[:cap(vars)])
		}
	}
}

// What lies behind the end of a list of names is none of them.
func TestSpareNamesAreNotThere(t *testing.T) {
	vars := []impl.Pair{{Name: "a", Value: num(1)}, {Name: "b", Value: num(2)}, {Name: "a", Value: num(3)}}
	if got := told(t, name("b"), vars[:1]); got != "" {
		t.Errorf("b is %q", got)
	}
	if got := told(t, name("a"), vars[:2]); got != "1" {
		t.Errorf("a is %q", got)
	}
}

func TestTextsOfAnswersAreNew(t *testing.T) {
	for _, c := range okValues {
		s := ownText(c.text)
		v, _ := impl.ValueGet(s)
		if textSpan(s).meets(textSpan(v.Text)) {
			t.Errorf("ValueGet(%q) shares its text", s)
		}
		if put := impl.ValuePut(v); textSpan(v.Text).meets(textSpan(put)) {
			t.Errorf("ValuePut(%v) shares its text", v)
		}
	}
	for _, c := range okTexts {
		s := ownText(c.text)
		words, _ := impl.Words(s)
		for _, w := range words {
			if textSpan(s).meets(textSpan(w)) {
				t.Errorf("Words(%q) shares its text", s)
			}
		}
	}
	for _, e := range someExprs() {
		s := ownText(impl.ExprPut(e))
		back, _ := impl.ExprGet(s)
		if meetAny(exprTexts(back), []span{textSpan(s)}) {
			t.Errorf("ExprGet(%q) shares its text", s)
		}
		if meetAny(exprTexts(back), []span{textSpan(impl.ExprPut(back))}) {
			t.Errorf("ExprPut of %s shares a text", s)
		}
		for _, name := range impl.ExprNames(back) {
			if meetAny(exprTexts(back), []span{textSpan(name)}) {
				t.Errorf("ExprNames of %s shares a text", s)
			}
		}
		vars := someVars()
		v, _ := impl.ExprEval(back, vars)
		if meetAny(exprTexts(back), []span{textSpan(v.Text)}) {
			t.Errorf("ExprEval of %s shares a text of it", s)
		}
		for _, p := range vars {
			if textSpan(p.Value.Text).meets(textSpan(v.Text)) {
				t.Errorf("ExprEval of %s shares the text of %s", s, p.Name)
			}
		}
	}
}

func TestListsOfAnswersAreNew(t *testing.T) {
	list := someExprs()
	for _, c := range okExprs() {
		list = append(list, c.expr)
	}
	for _, e := range list {
		s := impl.ExprPut(e)
		back, _ := impl.ExprGet(s)
		again, _ := impl.ExprGet(s)
		lists := exprLists(back)
		if meetAny(lists, exprLists(again)) {
			t.Errorf("two answers of ExprGet(%q) share a list", s)
		}
		for i := range lists {
			if meetAny(lists[:i], lists[i:i+1]) {
				t.Errorf("ExprGet(%q) has a list twice", s)
			}
		}
		names := impl.ExprNames(e)
		if listSpan(names).meets(listSpan(impl.ExprNames(e))) {
			t.Errorf("two answers of ExprNames of %s share a list", s)
		}
	}
	for _, c := range okTexts {
		a, _ := impl.Words(c.text)
		b, _ := impl.Words(c.text)
		if listSpan(a).meets(listSpan(b)) {
			t.Errorf("two answers of Words(%q) share a list", c.text)
		}
	}
}

// No function keeps anything: an answer that is written into changes no later one.
func TestNothingIsKept(t *testing.T) {
	const s = "((y + x) * (y + x))"
	words, _ := impl.Words(s)
	e, names := get(t, s), impl.ExprNames(get(t, s))
	clear(words[:cap(words)])
	clear(names[:cap(names)])
	clear(e.Parts[0].Parts)
	if put := impl.ExprPut(e.Parts[1]); put != "(y + x)" {
		t.Errorf("the second part is %q", put)
	}
	again, _ := impl.Words(s)
	if strings.Join(again, "") != "((y+x)*(y+x))" || impl.ExprPut(get(t, s)) != s || fmt.Sprint(impl.ExprNames(get(t, s))) != "[x y]" {
		t.Error("it is not as it was")
	}
	told(t, name("in"), someVars())
	if got := told(t, name("in"), nil); got != "" {
		t.Errorf("in is %q still", got)
	}
}
