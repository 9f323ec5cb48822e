package tests

import (
	"math"
	"slices"
	"strconv"
	"strings"
	"testing"

	"loop.example/backstitch/impl"
)

// fullText is a text of TextMax bytes.
var fullText = strings.Repeat("z", impl.TextMax)

// okValues is values that are ok, and how they are written.
var okValues = []struct {
	value impl.Value
	text  string
}{
	{impl.Value{}, "none"},
	{num(0), "0"},
	{num(1), "1"},
	{num(-1), "-1"},
	{num(10), "10"},
	{num(-50), "-50"},
	{num(123456789), "123456789"},
	{num(impl.NumMax), "1000000000"},
	{num(-impl.NumMax), "-1000000000"},
	{text(""), `""`},
	{text("a"), `"a"`},
	{text(" "), `" "`},
	{text("~"), `"~"`},
	{text("none"), `"none"`},
	{text("12"), `"12"`},
	{text("# ; '\\ let"), `"# ; '\ let"`},
	{text(fullText), `"` + fullText + `"`},
}

// wrongValues is values that are not ok.
var wrongValues = []impl.Value{
	{Kind: 3},
	{Kind: -1},
	{Kind: 3, Num: 1},
	{Kind: 3, Text: "a"},
	{Kind: impl.IsNone, Num: 1},
	{Kind: impl.IsNone, Text: "a"},
	{Kind: impl.IsNum, Num: 1, Text: "a"},
	{Kind: impl.IsText, Num: 1, Text: "a"},
	{Kind: impl.IsText, Num: -1},
	num(impl.NumMax + 1),
	num(-impl.NumMax - 1),
	num(math.MaxInt),
	num(math.MinInt),
	text(fullText + "z"),
	text(strings.Repeat("z", 1000)),
	text(`"`),
	text(`a"b`),
	text("\n"),
	text("a\tb"),
	text("\x00"),
	text("\x1f"),
	text("\x7f"),
	text("ä"),
	text("a\xff"),
}

// wrongTexts is texts that are no value's.
var wrongTexts = []string{
	"", " ", "None", "none ", " none", "nonenone", "let", "a", "in",
	"00", "01", "-0", "-01", "-00", "+1", "--1", "1 ", " 1", "- 1", "-", "1-", "1.0", "1e3", "0x1", "1_0", "1\n", "१",
	"1000000001", "-1000000001", "9223372036854775807", "9223372036854775808", "-9223372036854775808", "99999999999999999999999",
	`"`, `"a`, `a"`, `"""`, `"a"b"`, `"a" `, ` "a"`, `"a""b"`, `'a'`, "\"\n\"", "\"\t\"", "\"\x1f\"", "\"\x7f\"", "\"ä\"",
	`"` + fullText + `z"`,
}

func TestValueOkOfEachKind(t *testing.T) {
	for _, c := range okValues {
		if !impl.ValueOk(c.value) {
			t.Errorf("%v is not ok", c.value)
		}
	}
	for _, v := range wrongValues {
		if impl.ValueOk(v) {
			t.Errorf("%v is ok", v)
		}
	}
}

func TestValueTextBytes(t *testing.T) {
	for c := range 256 {
		s := string([]byte{byte(c)})
		want := c >= 32 && c <= 126 && c != '"'
		for _, v := range []impl.Value{text(s), text("a" + s), text(s + "a")} {
			if impl.ValueOk(v) != want {
				t.Errorf("byte %d: ok is %v", c, !want)
			}
			if got, ok := impl.ValueGet(`"` + v.Text + `"`); ok != want || ok && got != v || !ok && got != (impl.Value{}) {
				t.Errorf("byte %d: read as %v %v", c, got, ok)
			}
		}
	}
}

func TestValuePutOfWrongIsEmpty(t *testing.T) {
	for _, v := range wrongValues {
		if s := impl.ValuePut(v); s != "" {
			t.Errorf("%v is written as %q", v, s)
		}
	}
}

func TestValueGetOfWrongIsNothing(t *testing.T) {
	for _, s := range wrongTexts {
		if v, ok := impl.ValueGet(s); ok || v != (impl.Value{}) {
			t.Errorf("%q is read as %v %v", s, v, ok)
		}
	}
}

// Promise 1: a value is read back from its text.
func TestPromise1(t *testing.T) {
	for _, c := range okValues {
		if s := impl.ValuePut(c.value); s != c.text {
			t.Errorf("%v is written as %q", c.value, s)
		}
		if v, ok := impl.ValueGet(c.text); !ok || v != c.value {
			t.Errorf("%q is read as %v %v", c.text, v, ok)
		}
	}
	for n := -1200; n <= 1200; n++ {
		s := impl.ValuePut(num(n))
		if v, ok := impl.ValueGet(s); s != strconv.Itoa(n) || !ok || v != num(n) {
			t.Errorf("%d: %q %v %v", n, s, v, ok)
		}
	}
	for size := range impl.TextMax + 3 {
		v := text(fullText[:min(size, impl.TextMax)] + strings.Repeat("y", max(0, size-impl.TextMax)))
		got, ok := impl.ValueGet(`"` + v.Text + `"`)
		if ok != (size <= impl.TextMax) || ok && got != v {
			t.Errorf("text of %d bytes: %v %v", size, got, ok)
		}
	}
	// What is read is written just so, out of all short texts of these bytes.
	for _, s := range shortTexts(`"-012none `, 4) {
		v, ok := impl.ValueGet(s)
		if ok && (impl.ValuePut(v) != s || !impl.ValueOk(v)) || !ok && v != (impl.Value{}) {
			t.Errorf("%q is read as %v %v", s, v, ok)
		}
	}
}

// shortTexts is all texts of at most so many of some bytes.
func shortTexts(of string, size int) []string {
	list := []string{""}
	for at := 0; at < len(list); at++ {
		if len(list[at]) < size {
			for i := range len(of) {
				list = append(list, list[at]+of[i:i+1])
			}
		}
	}
	return list
}

var keptWords = strings.Fields("none let set if else while call go join sleep wait child done fail again and or not program")

var okNames = []string{"a", "z", "A", "Z", "in", "x9", "a0", "Let", "NONE", "lets", "none9", "i", "ifs", "programs", "abcdefghij", "a123456789", "ZZZZZZZZZZ"}

var wrongNames = []string{
	"", " ", "9", "9a", "0", "a b", "a ", " a", "a-b", "a_b", "_a", "a.", "(", "==", "#a", "a#", `"a"`, `a"`,
	"a\n", "ä", "aä", "a\x00", "a\xff", "abcdefghijk", "a1234567890", strings.Repeat("a", 1000),
}

func TestNameOk(t *testing.T) {
	for _, s := range okNames {
		if !impl.NameOk(s) {
			t.Errorf("%q is no name", s)
		}
	}
	for _, s := range append(slices.Clone(wrongNames), keptWords...) {
		if impl.NameOk(s) {
			t.Errorf("%q is a name", s)
		}
	}
}

func TestNameBytes(t *testing.T) {
	for c := range 256 {
		s := string([]byte{byte(c)})
		letter := c >= 'a' && c <= 'z' || c >= 'A' && c <= 'Z'
		figure := c >= '0' && c <= '9'
		if impl.NameOk(s) != letter || impl.NameOk(s+"b") != letter {
			t.Errorf("byte %d first", c)
		}
		if impl.NameOk("b"+s) != (letter || figure) || impl.NameOk("b"+s+"b") != (letter || figure) {
			t.Errorf("byte %d behind a letter", c)
		}
	}
}

// Promise 3: a name is one word.
func TestPromise3(t *testing.T) {
	for _, s := range okNames {
		words, ok := impl.Words(s)
		if !ok || !slices.Equal(words, []string{s}) || !impl.NameOk(words[0]) {
			t.Errorf("words of %q are %q %v", s, words, ok)
		}
		for _, wrong := range []string{s + " ", " " + s, "0" + s, "9" + s, s + " " + s, s + "\n", s + "-"} {
			if impl.NameOk(wrong) {
				t.Errorf("%q is a name", wrong)
			}
		}
	}
}

// okTexts is texts, and their words.
var okTexts = []struct {
	text string
	want []string
}{
	{"", nil},
	{" \t\n \n", nil},
	{"# all of it", nil},
	{"#", nil},
	{"#\n#", nil},
	{"# $ ' \" \xff\r", nil},
	{"a", []string{"a"}},
	{"a#b", []string{"a"}},
	{"a # b\nc", []string{"a", "c"}},
	{"a#\n#\n b", []string{"a", "b"}},
	{"#a\n\n#b\nc#d", []string{"c"}},
	{"a\tb\nc d", []string{"a", "b", "c", "d"}},
	{"12ab ab12 007", []string{"12ab", "ab12", "007"}},
	{"aAzZ09", []string{"aAzZ09"}},
	{strings.Repeat("a1", 5000), []string{strings.Repeat("a1", 5000)}},
	{"+-*<=(){};", []string{"+", "-", "*", "<", "=", "(", ")", "{", "}", ";"}},
	{"= ==", []string{"=", "=="}},
	{"===", []string{"==", "="}},
	{"====", []string{"==", "=="}},
	{"= =", []string{"=", "="}},
	{"<=", []string{"<", "="}},
	{"<==", []string{"<", "=="}},
	{"a==b", []string{"a", "==", "b"}},
	{"a=b;", []string{"a", "=", "b", ";"}},
	{"-5", []string{"-", "5"}},
	{"(-5--6)", []string{"(", "-", "5", "-", "-", "6", ")"}},
	{"not(a)", []string{"not", "(", "a", ")"}},
	{`""`, []string{`""`}},
	{`"a b"`, []string{`"a b"`}},
	{`"a""b"`, []string{`"a"`, `"b"`}},
	{`x"a"y`, []string{"x", `"a"`, "y"}},
	{`"# no note"`, []string{`"# no note"`}},
	{"\"a\nb\tc\"", []string{"\"a\nb\tc\""}},
	{"\"\x00\xff$'ä\r\"", []string{"\"\x00\xff$'ä\r\""}},
	{`"==" ==`, []string{`"=="`, "=="}},
	{`"a"#"`, []string{`"a"`}},
	{"let x = (in + -2); # note", []string{"let", "x", "=", "(", "in", "+", "-", "2", ")", ";"}},
	{"program p{\n\tdone none;\n}", []string{"program", "p", "{", "done", "none", ";", "}"}},
}

var wrongWords = []string{"$", "a $", "$ a", "'", "a.b", "a_b", "a,b", "a/b", "a>b", "!", "a & b", "[", "]", "\\", "\r", "a\r\nb", "\x00", "\x7f", "\xff", "ä", "é a", "\v", "\f", "\u00a0", "# note\n$", "\"a\" $"}

var openWords = []string{`"`, `"open`, `a "`, `"a" "`, `"""`, "\"a\n", `"# b`}

func TestWords(t *testing.T) {
	for _, c := range okTexts {
		if words, ok := impl.Words(c.text); !ok || !slices.Equal(words, c.want) {
			t.Errorf("words of %q are %q %v", c.text, words, ok)
		}
	}
	for _, s := range append(slices.Clone(wrongWords), openWords...) {
		if words, ok := impl.Words(s); ok || len(words) != 0 {
			t.Errorf("words of %q are %q %v", s, words, ok)
		}
	}
}

func TestWordBytes(t *testing.T) {
	for c := range 256 {
		s := string([]byte{byte(c)})
		want, ok := []string{s}, true
		switch {
		case strings.Contains(" \t\n#", s):
			want = nil
		case c < 128 && strings.Contains("+-*<=(){};0123456789abcdefghijklmnopqrstuvwxyzABCDEFGHIJKLMNOPQRSTUVWXYZ", s):
		default:
			want, ok = nil, false
		}
		if got, fine := impl.Words(s); fine != ok || !slices.Equal(got, want) {
			t.Errorf("byte %d: %q %v", c, got, fine)
		}
	}
}

// Promise 2: words of a text, with blanks between, have the same words.
func TestPromise2(t *testing.T) {
	for _, c := range okTexts {
		words, ok := impl.Words(c.text)
		if !ok {
			t.Errorf("no words of %q", c.text)
		}
		for _, between := range []string{" ", "  ", "\t", "\n", " \n\t ", " # a note\n", "#$\"\n"} {
			for _, behind := range []string{"", " ", " # a note", "#", "\n# $ \" '", "# a\n# b\n"} {
				s := strings.Join(words, between) + behind
				if again, ok := impl.Words(s); !ok || !slices.Equal(again, words) {
					t.Errorf("words of %q are %q %v", s, again, ok)
				}
			}
		}
	}
}

// Promise 65: words of two texts, a line end between, are those of both.
func TestPromise65(t *testing.T) {
	for _, a := range okTexts {
		for _, b := range okTexts {
			s := a.text + "\n" + b.text
			if words, ok := impl.Words(s); !ok || !slices.Equal(words, slices.Concat(a.want, b.want)) {
				t.Errorf("words of %q are %q %v", s, words, ok)
			}
		}
		for _, wrong := range wrongWords {
			for _, s := range []string{a.text + "\n" + wrong, wrong + "\n" + a.text} {
				if words, ok := impl.Words(s); ok || len(words) != 0 {
					t.Errorf("words of %q are %q %v", s, words, ok)
				}
			}
		}
	}
}
