// Package impl: programs that last.
package impl

import (
	"iter"
	"strconv"
	"strings"
)

// Limits of values.
const (
	TextMax = 24
	NumMax  = 1000000000
)

// nameMax is how many letters and figures a name has at most.
const nameMax = 10

// Kinds of values.
const (
	IsNone = 0
	IsNum  = 1
	IsText = 2
)

// Value is nothing, a number, or a text.
type Value struct {
	Kind int
	Num  int
	Text string
}

// content is what a value holds, a type for each kind: what only numbers, or
// only texts, can do is told apart by its type, never by a field left over.
type content interface {
	fits() bool
	put() string
	counts() bool
}

type noContent struct{}

type numContent int

type textContent string

func (noContent) fits() bool   { return true }
func (noContent) put() string  { return "none" }
func (noContent) counts() bool { return false }

func (n numContent) fits() bool   { return n >= -NumMax && n <= NumMax }
func (n numContent) put() string  { return strconv.Itoa(int(n)) }
func (n numContent) counts() bool { return n != 0 }

func (t textContent) fits() bool {
	if len(t) > TextMax {
		return false
	}
	for i := range len(t) {
		if t[i] < ' ' || t[i] > '~' || t[i] == '"' {
			return false
		}
	}
	return true
}

func (t textContent) put() string  { return `"` + string(t) + `"` }
func (t textContent) counts() bool { return t != "" }

// contentOf is what a value holds, and whether the value is ok.
func contentOf(v Value) (content, bool) {
	var c content
	switch v.Kind {
	case IsNone:
		c = noContent{}
	case IsNum:
		c = numContent(v.Num)
	case IsText:
		c = textContent(v.Text)
	default:
		return noContent{}, false
	}
	// A field that the kind does not use is lost on the way back, and so shows.
	return c, c.fits() && valueOf(c) == v
}

// valueOf is the value that holds something.
func valueOf(c content) Value {
	switch x := c.(type) {
	case numContent:
		return Value{Kind: IsNum, Num: int(x)}
	case textContent:
		return Value{Kind: IsText, Text: string(x)}
	}
	return Value{}
}

// ownValue is a value whose text is new memory.
func ownValue(v Value) Value {
	v.Text = strings.Clone(v.Text)
	return v
}

// ValueOk says whether a value is ok.
func ValueOk(v Value) bool {
	_, ok := contentOf(v)
	return ok
}

// ValuePut writes a value.
func ValuePut(v Value) string {
	c, ok := contentOf(v)
	if !ok {
		return ""
	}
	return c.put()
}

// ValueGet reads a value.
func ValueGet(text string) (Value, bool) {
	v := valueLike(text)
	// What is written in any other way than ValuePut does it is no value.
	if ValuePut(v) != text {
		return Value{}, false
	}
	return ownValue(v), true
}

// valueLike is the only value that a text may be; it need not be.
func valueLike(text string) Value {
	if len(text) >= 2 && text[0] == '"' {
		return Value{Kind: IsText, Text: text[1 : len(text)-1]}
	}
	if n, err := strconv.Atoi(text); err == nil {
		return Value{Kind: IsNum, Num: n}
	}
	return Value{}
}

// NameOk says whether a text is a name.
func NameOk(s string) bool {
	if s == "" || len(s) > nameMax || !isLetter(s[0]) {
		return false
	}
	return wordLen(s) == len(s) && !isKept(s)
}

// isKept says whether a word is one of the language's own.
func isKept(s string) bool {
	switch s {
	case "none", "let", "set", "if", "else", "while", "call", "go", "join",
		"sleep", "wait", "child", "done", "fail", "again", "and", "or", "not",
		"program":
		return true
	}
	return false
}

func isLetter(c byte) bool {
	return c >= 'a' && c <= 'z' || c >= 'A' && c <= 'Z'
}

func isFigure(c byte) bool {
	return c >= '0' && c <= '9'
}

// Words is the words and signs of a text.
func Words(text string) ([]string, bool) {
	var list []string
	for word := range wordsOf(text) {
		if word == "" {
			return nil, false
		}
		list = append(list, strings.Clone(word))
	}
	return list, true
}

// wordsOf tells the words of a text one by one; an empty one, the last then,
// where something stands that is none.
func wordsOf(text string) iter.Seq[string] {
	return func(yield func(string) bool) {
		for text != "" {
			if pass := passLen(text); pass > 0 {
				text = text[pass:]
				continue
			}
			word := text[:wordLen(text)]
			if !yield(word) || word == "" {
				return
			}
			text = text[len(word):]
		}
	}
}

// passLen is how much of the beginning of a text, which is not empty, says
// nothing.
func passLen(text string) int {
	switch text[0] {
	case ' ', '\t', '\n':
		return 1
	case '#':
		if end := strings.IndexByte(text, '\n'); end >= 0 {
			return end
		}
		return len(text)
	}
	return 0
}

// wordLen is how long the word is that a text, which is not empty, begins
// with; 0 if there is none.
func wordLen(text string) int {
	switch {
	case text[0] == '"':
		if end := strings.IndexByte(text[1:], '"'); end >= 0 {
			return end + 2
		}
		return 0
	case strings.HasPrefix(text, "=="):
		return 2
	case strings.IndexByte("+-*<=(){};", text[0]) >= 0:
		return 1
	}
	n := 0
	for n < len(text) && (isLetter(text[n]) || isFigure(text[n])) {
		n++
	}
	return n
}
