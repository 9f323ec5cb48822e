package impl

import (
	"errors"
	"slices"
	"strings"
)

// ExprMax is how deep an expression is at most.
const ExprMax = 5

// Kinds of expressions.
const (
	ExprValue = 1
	ExprVar   = 2
	ExprAdd   = 3
	ExprSub   = 4
	ExprMul   = 5
	ExprLess  = 6
	ExprSame  = 7
	ExprAnd   = 8
	ExprOr    = 9
	ExprNot   = 10
)

// Expr is a value, a name, or something of one or two others.
type Expr struct {
	Kind  int
	Value Value
	Name  string
	Parts []Expr
}

// Pair is a name, and what it is.
type Pair struct {
	Name  string
	Value Value
}

// ExprOk says whether an expression is ok.
func ExprOk(e Expr) bool {
	return exprFits(e, ExprMax)
}

// exprFits says whether an expression is ok, and at most so deep. A list may
// hold itself: depth is asked for ahead of anything within.
func exprFits(e Expr, depth int) bool {
	if depth == 0 || len(e.Parts) != exprParts(e.Kind) {
		return false
	}
	if e.Kind != ExprValue && e.Value != (Value{}) || e.Kind != ExprVar && e.Name != "" {
		return false
	}
	if e.Kind == ExprVar && !NameOk(e.Name) || !ValueOk(e.Value) {
		return false
	}
	for _, part := range e.Parts {
		if !exprFits(part, depth-1) {
			return false
		}
	}
	return true
}

// exprParts is how many parts a kind has; -1 if there is no such kind.
func exprParts(kind int) int {
	switch {
	case kind == ExprValue || kind == ExprVar:
		return 0
	case kind == ExprNot:
		return 1
	case exprSign(kind) != "":
		return 2
	}
	return -1
}

// exprSign is what stands between the two parts of a kind; empty if it has
// no two.
func exprSign(kind int) string {
	switch kind {
	case ExprAdd:
		return "+"
	case ExprSub:
		return "-"
	case ExprMul:
		return "*"
	case ExprLess:
		return "<"
	case ExprSame:
		return "=="
	case ExprAnd:
		return "and"
	case ExprOr:
		return "or"
	}
	return ""
}

// exprKind is the kind between whose parts a sign stands.
func exprKind(sign string) (int, bool) {
	for kind := ExprAdd; kind <= ExprOr; kind++ {
		if exprSign(kind) == sign {
			return kind, true
		}
	}
	return 0, false
}

// ExprPut writes an expression.
func ExprPut(e Expr) string {
	if !ExprOk(e) {
		return ""
	}
	var b strings.Builder
	exprWrite(&b, e)
	return b.String()
}

func exprWrite(b *strings.Builder, e Expr) {
	switch e.Kind {
	case ExprValue:
		b.WriteString(ValuePut(e.Value))
	case ExprVar:
		b.WriteString(e.Name)
	case ExprNot:
		b.WriteString("(not ")
		exprWrite(b, e.Parts[0])
		b.WriteString(")")
	default:
		b.WriteString("(")
		exprWrite(b, e.Parts[0])
		b.WriteString(" " + exprSign(e.Kind) + " ")
		exprWrite(b, e.Parts[1])
		b.WriteString(")")
	}
}

// ExprGet reads an expression.
func ExprGet(text string) (Expr, bool) {
	words, ok := Words(text)
	if !ok {
		return Expr{}, false
	}
	r := wordReader{words: words}
	e, ok := r.expr(ExprMax)
	if !ok || r.at != len(words) {
		return Expr{}, false
	}
	return e, true
}

// wordReader goes through words, from the first on.
type wordReader struct {
	words []string
	at    int
}

// next is the next word; behind the last it is empty, as no word is.
func (r *wordReader) next() string {
	if r.at == len(r.words) {
		return ""
	}
	r.at++
	return r.words[r.at-1]
}

// take goes behind the next word, if it is that one.
func (r *wordReader) take(word string) bool {
	if r.at < len(r.words) && r.words[r.at] == word {
		r.at++
		return true
	}
	return false
}

// expr reads an expression that is at most so deep.
func (r *wordReader) expr(depth int) (Expr, bool) {
	if depth == 0 {
		return Expr{}, false
	}
	if r.take("(") {
		return r.within(depth - 1)
	}
	if r.take("-") {
		return exprLeaf("-" + r.next())
	}
	return exprLeaf(r.next())
}

// within reads what stands behind a bracket, up to the one that closes it.
func (r *wordReader) within(depth int) (Expr, bool) {
	if r.take("not") {
		part, ok := r.expr(depth)
		return Expr{Kind: ExprNot, Parts: []Expr{part}}, ok && r.take(")")
	}
	first, ok := r.expr(depth)
	if !ok {
		return Expr{}, false
	}
	kind, ok := exprKind(r.next())
	if !ok {
		return Expr{}, false
	}
	second, ok := r.expr(depth)
	return Expr{Kind: kind, Parts: []Expr{first, second}}, ok && r.take(")")
}

// exprLeaf is the value or the name that a word tells.
func exprLeaf(word string) (Expr, bool) {
	if v, ok := ValueGet(word); ok {
		return Expr{Kind: ExprValue, Value: v}, true
	}
	return Expr{Kind: ExprVar, Name: word}, NameOk(word)
}

// ExprNames is all names of an expression, ascending, each once.
func ExprNames(e Expr) []string {
	if !ExprOk(e) {
		return nil
	}
	list := exprNames(e)
	slices.Sort(list)
	return slices.Compact(list)
}

func exprNames(e Expr) []string {
	if e.Kind == ExprVar {
		return []string{strings.Clone(e.Name)}
	}
	var list []string
	for _, part := range e.Parts {
		list = append(list, exprNames(part)...)
	}
	return list
}

// exprError is why an expression cannot be worked out.
type exprError struct {
	why string
}

func (e exprError) Error() string {
	return e.why
}

// exprAsk is an expression as it is asked, by names.
type exprAsk func(names map[string]Value) (content, error)

// ExprEval is what an expression is; false if it cannot be.
func ExprEval(e Expr, vars []Pair) (Value, bool) {
	names, ok := exprVars(vars)
	if !ok || !ExprOk(e) {
		return Value{}, false
	}
	return exprBy(e, names)
}

// exprBy is what an expression that is ok is by names; false if it cannot be.
func exprBy(e Expr, names map[string]Value) (Value, bool) {
	c, err := exprMake(e)(names)
	var cannot exprError
	if errors.As(err, &cannot) {
		return Value{}, false
	}
	return ownValue(valueOf(c)), true
}

// exprVars is what each name is; false if one is no name, is there twice, or
// has a value that is not ok.
func exprVars(vars []Pair) (map[string]Value, bool) {
	names := make(map[string]Value, len(vars))
	for _, p := range vars {
		if _, twice := names[p.Name]; twice || !NameOk(p.Name) || !ValueOk(p.Value) {
			return nil, false
		}
		names[p.Name] = p.Value
	}
	return names, true
}

// exprMake makes what is asked out of an expression that is ok.
func exprMake(e Expr) exprAsk {
	switch e.Kind {
	case ExprValue:
		return askValue(e.Value)
	case ExprVar:
		return askName(e.Name)
	case ExprNot:
		return askNot(exprMake(e.Parts[0]))
	}
	first, second := exprMake(e.Parts[0]), exprMake(e.Parts[1])
	switch e.Kind {
	case ExprAnd:
		return askUnless(false, first, second)
	case ExprOr:
		return askUnless(true, first, second)
	}
	return askBoth(exprWork(e.Kind), first, second)
}

func askValue(v Value) exprAsk {
	c, _ := contentOf(v)
	return func(map[string]Value) (content, error) { return c, nil }
}

func askName(name string) exprAsk {
	return func(names map[string]Value) (content, error) {
		v, ok := names[name]
		if !ok {
			return nil, exprError{"no such name: " + name}
		}
		c, _ := contentOf(v)
		return c, nil
	}
}

func askNot(part exprAsk) exprAsk {
	return func(names map[string]Value) (content, error) {
		c, err := part(names)
		if err != nil {
			return nil, err
		}
		return truth(!c.counts()), nil
	}
}

// askUnless asks the second part only if the first does not settle it: that
// one does, if whether it counts is what is told.
func askUnless(settled bool, first, second exprAsk) exprAsk {
	return func(names map[string]Value) (content, error) {
		c, err := first(names)
		if err == nil && c.counts() != settled {
			c, err = second(names)
		}
		if err != nil {
			return nil, err
		}
		return truth(c.counts()), nil
	}
}

func askBoth(work func(a, b content) (content, error), first, second exprAsk) exprAsk {
	return func(names map[string]Value) (content, error) {
		a, err := first(names)
		if err != nil {
			return nil, err
		}
		b, err := second(names)
		if err != nil {
			return nil, err
		}
		return work(a, b)
	}
}

// exprWork is what a kind makes of what its two parts are.
func exprWork(kind int) func(a, b content) (content, error) {
	switch kind {
	case ExprAdd:
		return add
	case ExprSub:
		return ofNums(func(a, b int64) int64 { return a - b })
	case ExprMul:
		return ofNums(func(a, b int64) int64 { return a * b })
	case ExprLess:
		return less
	}
	return func(a, b content) (content, error) { return truth(a == b), nil }
}

// add puts texts one behind the other; all else must be numbers.
func add(a, b content) (content, error) {
	head, isHead := a.(textContent)
	tail, isTail := b.(textContent)
	if !isHead || !isTail {
		return ofNums(func(a, b int64) int64 { return a + b })(a, b)
	}
	if !(head + tail).fits() {
		return nil, exprError{"a text that is not ok"}
	}
	return head + tail, nil
}

func less(a, b content) (content, error) {
	left, right, err := bothNums(a, b)
	if err != nil {
		return nil, err
	}
	return truth(left < right), nil
}

// ofNums works by numbers alone. They are wide enough there for any product.
func ofNums(work func(a, b int64) int64) func(a, b content) (content, error) {
	return func(a, b content) (content, error) {
		left, right, err := bothNums(a, b)
		if err != nil {
			return nil, err
		}
		n := work(left, right)
		if n < -NumMax || n > NumMax {
			return nil, exprError{"a number that is not ok"}
		}
		return numContent(n), nil
	}
}

func bothNums(a, b content) (int64, int64, error) {
	left, isLeft := a.(numContent)
	right, isRight := b.(numContent)
	if !isLeft || !isRight {
		return 0, 0, exprError{"no number"}
	}
	return int64(left), int64(right), nil
}

// truth is 1 or 0.
func truth(so bool) content {
	if so {
		return numContent(1)
	}
	return numContent(0)
}
