package tests

import (
	"fmt"
	"regexp"
	"slices"
	"strconv"
	"strings"
	"sync"
	"testing"

	"loop.example/backstitch/impl"
)

var (
	actLine  = regexp.MustCompile(`\A(start|signal|answer|refuse|cancel|tick)((?: [^ ]*)*)\z`)
	fallLine = regexp.MustCompile(`\Afall ([^ ]*) ((?s).*)\z`)
	lookLine = regexp.MustCompile(`\A(show|hist|asks) ([^ ]*)\z`)
	wordNum  = regexp.MustCompile(`\A(0|[1-9][0-9]{0,9})\z`)
)

// codeWords is the word for each code, by its number.
var codeWords = []string{"fine", "form", "none", "over", "cmd", "full"}

// modelNum reads a number of a line.
func modelNum(s string) int {
	if !wordNum.MatchString(s) {
		return -1
	}
	n, _ := strconv.Atoi(s)
	return n
}

// modelActLine reads an act of a line, ok or not.
func modelActLine(line string) (impl.Act, bool) {
	m := actLine.FindStringSubmatch(line)
	if m == nil {
		return impl.Act{}, false
	}
	f := strings.Split(m[2], " ")[1:]
	form := map[string]string{"start": "nv", "signal": "rnv", "answer": "rpv", "refuse": "rp", "cancel": "r", "tick": "t"}[m[1]]
	if m[2] == "" || len(f) != len(form) {
		return impl.Act{}, false
	}
	a := impl.Act{Kind: map[string]int{"start": impl.ActStart, "signal": impl.ActSignal, "answer": impl.ActAnswer, "refuse": impl.ActAnswer, "cancel": impl.ActCancel, "tick": impl.ActTick}[m[1]], Ok: m[1] != "refuse"}
	for i, is := range form {
		switch is {
		case 'n':
			a.Name = f[i]
		case 'r':
			a.Run = modelNum(f[i])
		case 'p':
			a.Place = modelNum(f[i])
		case 't':
			a.Num = modelNum(f[i])
		case 'v':
			v, ok := impl.ValueGet(f[i])
			if !ok {
				return impl.Act{}, false
			}
			a.Value = v
		}
	}
	return a, true
}

// exampleProgs is the three programs of a session.
var exampleProgs = sync.OnceValue(func() []impl.Prog {
	var progs []impl.Prog
	for _, s := range example {
		called, body, _ := strings.Cut(s, ":")
		p, _ := impl.ProgGet("program " + called + " {" + body + "}")
		progs = append(progs, p)
	}
	return progs
})

// modelSession is what is told of each line, and the keeper then.
func modelSession(list []string) ([]string, impl.Keeper) {
	k, _ := impl.KeeperNew(exampleProgs())
	var all []string
	for i, line := range list {
		if i == 40 {
			break
		}
		told := "what\n"
		m, fall := lookLine.FindStringSubmatch(line), fallLine.FindStringSubmatch(line)
		if a, ok := modelActLine(line); ok {
			next, code := modelKeep(k, a)
			k, told = next, codeWords[code]+"\n"
		} else if fall != nil {
			if a, ok := modelActLine(fall[2]); ok {
				k, told = modelFall(k, a, modelNum(fall[1])), "fell\n"
			}
		} else if line == "size" {
			told = fmt.Sprintf("%d %d\n", len(k.Log.Segs), len(k.Log.Segs[len(k.Log.Segs)-1]))
		} else if m != nil && modelNum(m[2]) >= 0 && modelNum(m[2]) < len(k.Engine.Runs) {
			r := k.Engine.Runs[modelNum(m[2])]
			how, _ := modelStatus(k.Engine, r)
			var places []string
			for place, c := range modelUnder(r) {
				if c.Kind == impl.CmdCall {
					places = append(places, strconv.Itoa(place))
				}
			}
			told = map[string]string{"show": r.Prog + " " + how + "\n", "hist": written(r.Hist), "asks": strings.Join(places, " ") + "\n"}[m[1]]
		}
		all = append(all, told)
	}
	return all, k
}

// exampleLines is the document's example, and what is told of it.
const exampleLines = `start order 3
show 0
asks 0
answer 0 0 1
show 0
hist 0
tick 4
asks 0
tick 1
show 0
answer 0 1 7
answer 0 1 7
signal 0 up 1
fall 3 signal 0 sent "ok"
show 0
fall 99 signal 0 sent "ok"
show 0
start count 1
signal 1 up 1
signal 1 up 4
show 1
show 2
start pair 2
refuse 4 0
show 3
show 4
show 9
signal 0 up 1
start none9 1
cancel 7
tick 0`

const exampleTold = `fine
order waits for place 0
0
fine
order waits for place 2
start 3
task 1
cmd 1 pay 3
came 1 0 ok  1
task 2
cmd 1 pack 3
cmd 2  5
fine
1
fine
order waits for place 1
fine
cmd
fine
fell
order waits for signal sent
fell
order done "ok!"
fine
fine
fine
count again 11
count done 11
fine
fine
pair done 12
order failed "unpaid"
what
over
none
none
form
`

func TestSessionOfTheExample(t *testing.T) {
	list := strings.Split(exampleLines, "\n")
	if got := impl.Session(list); got != exampleTold {
		t.Errorf("it is %s", got)
	}
	if told, _ := modelSession(list); strings.Join(told, "") != exampleTold {
		t.Errorf("by the model it is %s", told)
	}
}

// sessions is lines, parted by `|`, and what is told of them, likewise.
var sessions = []struct{ lines, told string }{
	{"", "what"},
	// Each code.
	{"start order 3|start gone 3|start let 3|signal 0 up 1|signal 1 up 1|signal 0 let 1|answer 0 1 1|answer 0 40 1|cancel 0|cancel 0|refuse 0 0|tick 1|tick 1001|tick 1000", "fine|none|form|fine|none|form|cmd|form|fine|over|over|fine|form|fine"},
	{strings.Repeat("start count 1|", 8) + "start count 1", strings.Repeat("fine|", 8) + "full"},
	{"start count 1" + strings.Repeat("|signal 0 other 1", 21), "fine" + strings.Repeat("|fine", 20) + "|full"},
	{"start pair 3|show 0|show 1|asks 0|asks 1|cancel 1|show 0|show 1|show 2|show 3", `fine|pair waits for place 0|order waits for place 0||0|fine|pair done 12|order called off|count again 12|count done 12`},
	// Values of each kind.
	{`start count none|show 0|start count "x"|show 1|start count -4|show 2|start order "ab"|hist 3`, `fine|count failed "value"|fine|count failed "value"|fine|count waits for signal up|fine|start "ab"|task 1|cmd 1 pay "ab"`},
	{`start order 1|answer 0 0 none|show 0`, `fine|fine|order failed "unpaid"`},
	{`start order 1|answer 0 0 ""|show 0|answer 0 1 "none"|tick 5|signal 0 sent ""|show 0|hist 0`, `fine|fine|order waits for place 2|fine|fine|fine|order done "!"|start 1|task 1|cmd 1 pay 1|came 1 0 ok  ""|task 2|cmd 1 pack 1|cmd 2  5|came 1 1 ok  "none"|task 0|came 2 2 ok  none|task 0|came 4 0 ok sent ""|task 1|cmd 4  "!"`},
	{`start count 9|show 0|start count 3|show 1|show 2|start count 1000000000|start count 1000000001|start count -0|start count 01|start count +1|start count "|start count x|start count None`, `fine|count done 9|fine|count again 8|count again 13|fine|what|what|what|what|what|what|what`},
	// A value with a blank in it is parted as well.
	{`start count "a b"|start count ""|show 0|show 1`, `what|fine|count failed "value"|what`},
	// What shows a run, of one that there is.
	{"show 0|hist 0|asks 0|start order 1|show 0|hist 0|asks 0|show 1|hist 1|asks 1", "what|what|what|fine|order waits for place 0|start 1|task 1|cmd 1 pay 1|0|what|what|what"},
	{"start order 1|answer 0 0 1|asks 0|cancel 0|asks 0|hist 0", "fine|fine|1|fine||start 1|task 1|cmd 1 pay 1|came 1 0 ok  1|task 2|cmd 1 pack 1|cmd 2  5|cancel"},
	{"start pair 1|asks 0|asks 1|hist 0", "fine||0|start 1|task 1|cmd 3 order 1"},
	{"start count 1|show 00|show -0|show +0|show -1|show 0x0|show 0.0|show x|show|show 0 0|show  0|show 0 | show 0|Show 0|shows 0|show 9999999999|show 99999999999|hist 00|asks 00|hist|asks|hist 0 0|asks 0 0", "fine" + strings.Repeat("|what", 22)},
	// size: pieces, and how long the last is.
	{"size|start order 1|size|tick 1|size|tick 0|size|fall 0 tick 1|size|size 0|size |sizes", fmt.Sprintf("1 0|fine|1 %d|fine|1 %d|form|1 %d|fell|1 %d|what|what|what", len(records(acts("start order 1")...)), len(records(acts("start order 1/tick 1")...)), len(records(acts("start order 1/tick 1")...)), len(records(acts("start order 1/tick 1")...)))},
	// A fall keeps an act as a whole, or not at all.
	{"fall 0 start count 1|show 0|fall 99 start count 1|show 0|fall 99 tick 5|fall 0 cancel 0|show 0|fall 99 cancel 0|show 0", "fell|what|fell|count waits for signal up|fell|fell|count waits for signal up|fell|count called off"},
	{"start pair 1|fall 99 refuse 1 0|show 0|fall 99 answer 1 0 1|show 0|fall 99 start gone 1|fall 99 cancel 7|fall 99 tick 0|fall 99 start let 1|fall 99 signal 9 up 1|show 0|size", fmt.Sprintf("fine|fell|pair done 12|fell|pair done 12|fell|fell|fell|fell|fell|pair done 12|1 %d", len(records(acts("start pair 1/refuse 1 0")...)))},
	// What is no fall changes nothing.
	{"fall|fall 3|fall tick 1|fall 99 show 0|fall 99 size|fall 99 what|fall 99 fall 99 tick 1|fall 99  tick 1|fall |fall 99 tick|fall 99 tick 1 1|fall 99 start count x|Fall 99 tick 1|fall99 tick 1|size", strings.Repeat("what|", 14) + "1 0"},
	// Numbers of ten figures, and of eleven, and with a nought ahead.
	{"fall 9999999999 tick 1|size|fall 99999999999 tick 1|size|fall 1000000000 tick 1|fall 10000000000 tick 1|fall 099 tick 1|fall 00 tick 1|fall -9 tick 1|fall +99 tick 1|fall 9x tick 1|fall x tick 1|fall 99.0 tick 1|fall 1e9 tick 1|size", fmt.Sprintf("fell|1 %d|fell|1 %d|fell|fell|fell|fell|fell|fell|fell|fell|fell|fell|1 %d", len(records(ticks(1))), len(records(ticks(1))), len(records(ticks(1), ticks(1))))},
	{"fall  tick 1|fall tick tick 1|size", "fell|fell|1 0"},
	{"tick 01|tick 00001|tick +1|tick -1|tick 1.0|tick x|tick 9999999999|tick 99999999999|tick 18446744073709551617|tick 1|size", fmt.Sprintf("form|form|form|form|form|form|form|form|form|fine|1 %d", len(records(ticks(1))))},
	{"start count 1|cancel 00|cancel -0|cancel 18446744073709551616|cancel 4294967296|signal 00 up 1|answer 00 0 1|answer 0 00 1|refuse 0 00|refuse 00 0|refuse 0 0|show 0|cancel 0", "fine|form|form|form|form|form|form|form|form|form|cmd|count waits for signal up|fine"},
	// No line at all: too few parts, too many, another word.
	{"start|start count|start count 1 1|signal 0 up|signal 0 up 1 1|signal 0 1|answer 0 0|answer 0 0 1 1|refuse 0|refuse 0 0 0|refuse 0 0 none|cancel|cancel 0 0|tick|tick 1 1|Start count 1|starts count 1|tack 1|what|fine|#|\"|tick\t1|tick\n1|\ttick 1|tick 1\n", strings.Repeat("what|", 23) + "what|what|form"},
	// Lines are parted at each blank: what stands between two is a part.
	{" start count 1|start  count 1|start count  1|start count 1 |start  1|start count |signal 0  1| |  |tick |tick  1|cancel |cancel  0|refuse 0 |refuse  0|answer 0  1", "what|what|what|what|form|what|form|what|what|form|what|form|what|form|form|form"},
	// A name is any part; it is the act that is not ok.
	{"start in 1|start 9 1|start none 1|start abcdefghijk 1|start \xff 1|start \"count\" 1|start Count 1|start cou\nnt 1", "none|form|form|form|form|form|none|form"},
}

// parted is what is told of lines, as sessions have it.
func parted(told string) string {
	return strings.ReplaceAll(strings.TrimSuffix(told, "\n"), "\n", "|")
}

func TestSessions(t *testing.T) {
	for _, c := range sessions {
		list := strings.Split(c.lines, "|")
		got := impl.Session(list)
		if parted(got) != c.told || got != "" && !strings.HasSuffix(got, "\n") {
			t.Errorf("%q\n is %q\nnot %q", list, parted(got), c.told)
		}
		if told, _ := modelSession(list); strings.Join(told, "") != got {
			t.Errorf("%q\n is %q\nby the model %q", list, got, strings.Join(told, ""))
		}
	}
	for _, none := range [][]string{nil, {}} {
		if got := impl.Session(none); got != "" {
			t.Errorf("no lines are %q", got)
		}
	}
	if got := impl.Session([]string{strings.Repeat("x ", 1000000), "tick " + strings.Repeat("1", 1000000), "start count " + strings.Repeat("9", 1000000)}); got != "what\nform\nwhat\n" {
		t.Errorf("much is %q", got)
	}
}

// A fall of each number of bytes, of each sort of act.
func TestFallsByBytes(t *testing.T) {
	for _, line := range []string{"start count 1", "signal 0 sent 1", "answer 0 0 1", "refuse 0 0", "cancel 0", "tick 7"} {
		size := len(modelRecord(actOf(line)))
		for n := range size + 3 {
			list := []string{"start order 1", "size", fmt.Sprint("fall ", n, " ", line), "size", "hist 0", "show 1"}
			done := slices.Clone(list)
			if done[2] = line; n < size {
				done[2] = "what"
			}
			got, want := strings.Split(impl.Session(list), "\n"), strings.Split(impl.Session(done), "\n")
			if got[2] != "fell" || !slices.Equal(got[3:], want[3:]) || n < size && got[1] != got[3] {
				t.Errorf("%q is %q, not %q", list, got, want)
			}
		}
	}
}

// 40 lines, and one more.
func TestSessionOfManyLines(t *testing.T) {
	list := slices.Repeat([]string{"tick 1"}, 39)
	list = append(list, "size")
	last := fmt.Sprintf("%d %d\n", 3, len(strings.Repeat(modelRecord(ticks(1)), 39-2*(impl.SegMax/len(modelRecord(ticks(1)))))))
	want := strings.Repeat("fine\n", 39) + last
	if got := impl.Session(list); got != want {
		t.Errorf("40 lines are %q", got)
	}
	for _, more := range [][]string{{"size"}, {"what"}, {"tick 1", "size"}, slices.Repeat([]string{"size"}, 1000000)} {
		if got := impl.Session(append(slices.Clone(list), more...)); got != want {
			t.Errorf("%d lines more are %d bytes", len(more), len(got))
		}
	}
	for n := range 45 {
		got := impl.Session(slices.Repeat([]string{"size"}, n))
		if got != strings.Repeat("1 0\n", min(n, 40)) {
			t.Errorf("%d lines are %q", n, got)
		}
	}
}

// throwLine is a line; most tell something.
func (d *dice) throwLine() string {
	of := func(list ...string) string { return list[d.upTo(len(list))] }
	run := of("0", "0", "1", "1", "2", "3", "4", "7", "8", "00", "x", "")
	place := of("0", "0", "1", "1", "2", "39", "40", "01", "-1")
	value := of("1", "2", "7", "none", `"ok"`, `""`, "01", `"`, "x", `"a b"`)
	name := of("order", "count", "pair", "count", "pair", "gone", "let", "")
	line := of("start "+name+" "+value, "start "+name+" "+value, "signal "+run+" "+of("up", "sent", "up", "x", "9")+" "+value, "signal "+run+" "+of("up", "sent")+" "+value, "answer "+run+" "+place+" "+value, "answer "+run+" "+place+" "+value, "refuse "+run+" "+place, "tick "+of("1", "4", "5", "1000", "1001", "0", "05"))
	if d.upTo(12) == 0 {
		line = "cancel " + run
	}
	switch d.upTo(8) {
	case 0:
		return "fall " + of("0", "5", "20", "30", "99", "1000", "x", "099", "99999999999", "9999999999") + " " + line
	case 1, 2:
		return of("show ", "show ", "hist ", "asks ") + run
	case 3:
		return of("size", "what", "", "show", "fall 9", "size 1", "fall 9 size", "tick  1")
	}
	return line
}

// thrownLines is lines of many forms.
var thrownLines = sync.OnceValue(func() [][]string {
	all := [][]string{strings.Split(exampleLines, "\n")}
	for _, c := range sessions {
		all = append(all, strings.Split(c.lines, "|"))
	}
	for seed := range 300 {
		d := &dice{uint32(seed)*104729 + 64}
		var list []string
		if seed%10 == 0 {
			list = slices.Repeat([]string{"start count 1"}, impl.RunMax)
		}
		for range 5 + d.upTo(30) {
			list = append(list, d.throwLine())
		}
		all = append(all, append(list, "size", d.throwLine(), d.throwLine()))
	}
	return all
})

func TestSessionsOfThrownLines(t *testing.T) {
	words := map[string]int{}
	for _, list := range thrownLines() {
		told, _ := modelSession(list)
		if got := impl.Session(list); got != strings.Join(told, "") {
			t.Fatalf("%q\n is %q\nnot %q", list, got, told)
		}
		for _, s := range told {
			word, _, _ := strings.Cut(strings.TrimSuffix(s, "\n"), " ")
			words[word]++
		}
	}
	for _, word := range append(slices.Clone(codeWords), "fell", "what", "order", "count", "pair", "1", "0") {
		if words[word] < 10 {
			t.Errorf("%s is told only %d times", word, words[word])
		}
	}
}

// Promise 64: what was told of the first lines is told first.
func TestPromise64(t *testing.T) {
	for i, list := range thrownLines() {
		whole := impl.Session(list)
		told, _ := modelSession(list)
		for n := i % 5; n <= len(list); n += 5 {
			got := impl.Session(list[:n])
			if !strings.HasPrefix(whole, got) || got != strings.Join(told[:min(n, len(told))], "") {
				t.Fatalf("%q is %q, and the first %d %q", list, whole, n, got)
			}
		}
		if got := impl.Session(list[:min(len(list), 40)]); got != whole {
			t.Fatalf("%q is %q, and of 40 %q", list, whole, got)
		}
	}
}

// Promise 82: who only looks changes nothing.
func TestPromise82(t *testing.T) {
	whats := []string{"what", "", " ", "show", "show 9", "hist 00", "asks x", "size 1", "start count", "start count x", "signal 0 up \"", "fall", "fall 9", "fall 99 what", "fall 99 show 0", "fall 99 start count x", "fall 99 fall 99 tick 1", "Tick 1", "tick 1 1", "cancel", `start count "a b"`}
	for i, list := range thrownLines() {
		list = list[:min(len(list), 39)]
		told, _ := modelSession(list)
		at, what := i%(len(list)+1), whats[i%len(whats)]
		got := impl.Session(slices.Insert(slices.Clone(list), at, what))
		if want := strings.Join(slices.Insert(told, at, "what\n"), ""); got != want {
			t.Fatalf("%q with %q at %d is %q, not %q", list, what, at, got, want)
		}
	}
	// So do the lines that tell of a run, and of the log.
	for i, list := range thrownLines() {
		var most []string
		told, _ := modelSession(list)
		var want []string
		for n, line := range list[:len(told)] {
			if word, _, _ := strings.Cut(line, " "); (n+i)%2 == 0 || !slices.Contains([]string{"show", "hist", "asks", "size"}, word) {
				most, want = append(most, line), append(want, told[n])
			}
		}
		if got := impl.Session(most); got != strings.Join(want, "") {
			t.Fatalf("%q is %q, not %q", most, got, want)
		}
	}
}
