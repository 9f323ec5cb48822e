package tests

import (
	"fmt"
	"hash/crc32"
	"math"
	"regexp"
	"slices"
	"strconv"
	"strings"
	"testing"

	"loop.example/backstitch/impl"
)

// modelPut is how an act that is ok is to be written, modelRecord its record; apart from the program's own way.
func modelPut(a impl.Act) string {
	return fmt.Sprintf("%d %d %d %s %s %d %s", a.Kind, a.Run, a.Place, a.Name, map[bool]string{true: "ok", false: "no"}[a.Ok], a.Num, impl.ValuePut(a.Value))
}

func modelRecord(a impl.Act) string {
	return fmt.Sprintf("%d %s\n", crc32.ChecksumIEEE([]byte(modelPut(a))), modelPut(a))
}

// records is all records of acts, one behind the other.
func records(list ...impl.Act) string {
	s := ""
	for _, a := range list {
		s += modelRecord(a)
	}
	return s
}

var (
	actForm    = regexp.MustCompile(`\A([1-5]) ([0-7]) (0|[1-3]?[1-9]|[1-3]0) ([a-zA-Z][a-zA-Z0-9]{0,9}|) (ok|no) (0|[1-9][0-9]{0,2}|1000) (none|-?[0-9]{1,10}|"[ !#-~]{0,24}")\z`)
	recordForm = regexp.MustCompile(`\A([0-9]{1,10}) ([^\n]*)\n`)
)

// modelAct reads an act.
func modelAct(s string) (impl.Act, bool) {
	m := actForm.FindStringSubmatch(s)
	if m == nil {
		return impl.Act{}, false
	}
	is := func(s string) int { n, _ := strconv.Atoi(s); return n }
	a := impl.Act{Kind: is(m[1]), Run: is(m[2]), Place: is(m[3]), Name: m[4], Ok: m[5] == "ok", Num: is(m[6]), Value: valueOf(m[7])}
	// One nought too many, or a sign ahead of one, is no number.
	if impl.ValuePut(a.Value) != m[7] || !modelActOk(a) {
		return impl.Act{}, false
	}
	return a, true
}

// modelFirst reads the record that a text begins with, and is how long that is.
func modelFirst(s string) (impl.Act, int) {
	m := recordForm.FindStringSubmatch(s)
	if m == nil || m[1] != strconv.FormatUint(uint64(crc32.ChecksumIEEE([]byte(m[2]))), 10) {
		return impl.Act{}, 0
	}
	a, ok := modelAct(m[2])
	if !ok {
		return impl.Act{}, 0
	}
	return a, len(m[0])
}

// modelRecords is the acts of all records that a text begins with, and what is behind these.
func modelRecords(s string) ([]impl.Act, string) {
	var list []impl.Act
	for a, n := modelFirst(s); n > 0; a, n = modelFirst(s) {
		list, s = append(list, a), s[n:]
	}
	return list, s
}

// modelLogOk is LogOk, sentence by sentence.
func modelLogOk(l impl.Log) bool {
	for _, seg := range l.Segs {
		_, rest := modelRecords(seg)
		if len(seg) > impl.SegMax || rest != "" || seg == "" && len(l.Segs) > 1 {
			return false
		}
	}
	return len(l.Segs) >= 1 && len(l.Segs) <= impl.LogMax
}

// modelAdd is LogAdd of a log that is ok.
func modelAdd(l impl.Log, a impl.Act) (impl.Log, bool) {
	if !modelActOk(a) {
		return l, false
	}
	r, last := modelRecord(a), len(l.Segs)-1
	segs := slices.Clone(l.Segs)
	if len(segs[last]+r) <= impl.SegMax {
		segs[last] += r
	} else if segs = append(segs, r); len(segs) > impl.LogMax {
		return l, false
	}
	return impl.Log{Segs: segs}, true
}

// modelActs is all acts of a log that is ok.
func modelActs(l impl.Log) []impl.Act {
	list, _ := modelRecords(strings.Join(l.Segs, ""))
	return list
}

// modelTear is LogTear of a log that is ok.
func modelTear(l impl.Log, a impl.Act, bytes int) impl.Log {
	l, ok := modelAdd(l, a)
	r, last := modelRecord(a), len(l.Segs)-1
	if ok && bytes < len(r) {
		segs := slices.Clone(l.Segs)
		segs[last] = strings.TrimSuffix(segs[last], r) + r[:max(bytes, 0)]
		l.Segs = segs
	}
	return l
}

// modelMend is LogMend, and whether it is told.
func modelMend(l impl.Log) (impl.Log, bool) {
	if len(l.Segs) < 1 || len(l.Segs) > impl.LogMax {
		return impl.Log{}, false
	}
	last := len(l.Segs) - 1
	for i, seg := range l.Segs {
		_, rest := modelRecords(seg)
		if len(seg) > impl.SegMax || i < last && (rest != "" || seg == "") {
			return impl.Log{}, false
		}
	}
	segs := slices.Clone(l.Segs)
	_, rest := modelRecords(segs[last])
	segs[last] = strings.TrimSuffix(segs[last], rest)
	if segs[last] == "" && last > 0 {
		segs = segs[:last]
	}
	return impl.Log{Segs: segs}, true
}

func sameLog(a, b impl.Log) bool {
	return slices.Equal(a.Segs, b.Segs)
}

func noLog(l impl.Log) bool {
	return len(l.Segs) == 0
}

func emptyLog() impl.Log {
	return impl.Log{Segs: []string{""}}
}

// logOf is a log of acts, as they are added one by one.
func logOf(t *testing.T, list ...impl.Act) impl.Log {
	t.Helper()
	l := emptyLog()
	for _, a := range list {
		next, ok := impl.LogAdd(l, a)
		if !ok {
			t.Fatalf("LogAdd of %v to %q is false", a, l.Segs)
		}
		l = next
	}
	return l
}

// filled is acts all records of which together are just so many bytes, of which there must be enough for more than one.
func filled(t *testing.T, bytes int) []impl.Act {
	t.Helper()
	var list []impl.Act
	for bytes >= 110 {
		a := starts("up", num(len(list)))
		list, bytes = append(list, a), bytes-len(modelRecord(a))
	}
	// Two of as many lengths as need be.
	for i := range 25 {
		for k := range 25 {
			for _, s := range []string{"a", "ab", "abc", "abcd"} {
				a, b := signals(0, s, text(fullText[:i])), signals(1, "abcdefghij", text(fullText[:k]))
				if len(records(a, b)) == bytes {
					return append(list, a, b)
				}
			}
		}
	}
	t.Fatalf("no acts of %d bytes", bytes)
	return nil
}

// sized is an act the record of which is of just so many bytes.
func sized(t *testing.T, bytes int) impl.Act {
	t.Helper()
	for _, s := range okNames {
		for i := range impl.TextMax + 1 {
			for _, a := range []impl.Act{starts(s, text(fullText[:i])), starts(s, num(i)), signals(3, s, text(fullText[i:]))} {
				if len(modelRecord(a)) == bytes {
					return a
				}
			}
		}
	}
	t.Fatalf("no act of %d bytes", bytes)
	return impl.Act{}
}

// fullSeg is a piece that is just full.
func fullSeg(t *testing.T) string {
	t.Helper()
	return records(filled(t, impl.SegMax)...)
}

// someActs is some acts of each kind.
func someActs() []impl.Act {
	return append(acts(`start up 1/signal 0 go1 "ab"/answer 3 2 none/refuse 7 39/cancel 0/tick 1000`), starts("abcdefghij", num(-impl.NumMax)), signals(7, "none9", text(fullText)), answers(0, 0, text("")), answers(1, 1, text("a b ")))
}

// okLogs is logs of many forms.
func okLogs(t *testing.T) map[string]impl.Log {
	a, b, c := starts("up", num(1)), ticks(7), signals(0, "go1", text("a b"))
	full := fullSeg(t)
	many := func(n int, seg string) impl.Log { return impl.Log{Segs: slices.Repeat([]string{seg}, n)} }
	return map[string]impl.Log{
		"nothing":                   emptyLog(),
		"one record":                logOf(t, a),
		"some records":              logOf(t, a, b, c, a),
		"many records":              logOf(t, slices.Repeat([]impl.Act{a, b, c}, 20)...),
		"each act":                  logOf(t, okActs()[:60]...),
		"pieces with room":          {Segs: []string{records(a), records(b, c), records(a)}},
		"one piece that is full":    {Segs: []string{full}},
		"pieces that are full":      {Segs: []string{full, full, full}},
		"full ones and one not":     {Segs: []string{full, records(a), full}},
		"as many as may be":         many(impl.LogMax, records(b)),
		"as many as may be, full":   many(impl.LogMax, full),
		"as many as may be but one": many(impl.LogMax-1, records(a, b)),
	}
}

// wrongLogs is logs that are not ok, and whether they can be mended.
func wrongLogs(t *testing.T) map[string]struct {
	log   impl.Log
	mends bool
} {
	a, b := records(starts("up", num(1))), records(ticks(7))
	full := fullSeg(t)
	first := strings.IndexByte(full, '\n') + 1
	long := records(sized(t, first+1)) + full[first:]
	of := func(segs ...string) impl.Log { return impl.Log{Segs: segs} }
	type wrong = struct {
		log   impl.Log
		mends bool
	}
	list := map[string]wrong{
		"no pieces":                   {impl.Log{}, false},
		"an empty list of pieces":     {of([]string{}...), false},
		"one piece too many":          {impl.Log{Segs: slices.Repeat([]string{a}, impl.LogMax+1)}, false},
		"far too many":                {impl.Log{Segs: slices.Repeat([]string{a}, 10000)}, false},
		"one too many, torn":          {impl.Log{Segs: append(slices.Repeat([]string{a}, impl.LogMax), b[:3])}, false},
		"one too many, empty":         {impl.Log{Segs: append(slices.Repeat([]string{a}, impl.LogMax), "")}, false},
		"a byte too many":             {of(long), false},
		"a byte too many ahead":       {of(long, a), false},
		"a byte too many behind":      {of(a, long), false},
		"a torn byte too many":        {of(full + "x"), false},
		"far too long":                {of(strings.Repeat(a, 100000)), false},
		"an empty one ahead":          {of("", a), false},
		"an empty one between":        {of(a, "", b), false},
		"an empty one behind":         {of(a, ""), true},
		"two empty ones":              {of("", ""), false},
		"a torn one ahead":            {of(a[:len(a)-1], b), false},
		"a torn one between":          {of(a, a+b[:4], b), false},
		"something else ahead":        {of("x", a), false},
		"something else":              {of("x"), true},
		"something else behind":       {of(a, "x"), true},
		"a newline":                   {of("\n"), true},
		"a newline too many":          {of(a + "\n" + b), true},
		"a newline ahead":             {of("\n" + a), true},
		"a blank ahead":               {of(" " + a), true},
		"a blank between":             {of(a + " " + b), true},
		"a blank behind":              {of(a + " "), true},
		"a torn one with one behind":  {of(a + b[:5] + a), true},
		"another line end":            {of(strings.TrimSuffix(a, "\n") + "\r\n"), true},
		"a sum with a nought ahead":   {of("0" + a), true},
		"a sum with a sign ahead":     {of("+" + a), true},
		"a sum of another record":     {of(a[:strings.IndexByte(a, ' ')] + b[strings.IndexByte(b, ' '):]), true},
		"no sum":                      {of(modelPut(ticks(7)) + "\n"), true},
		"a sum alone":                 {of(b[:strings.IndexByte(b, ' ')] + "\n"), true},
		"an act that is not ok":       {of(fmt.Sprintf("%d %s\n", crc32.ChecksumIEEE([]byte("5 0 0  ok 0 none")), "5 0 0  ok 0 none")), true},
		"nothing with its sum":        {of("0 \n"), true},
		"a record of another writing": {of(fmt.Sprintf("%d %s\n", crc32.ChecksumIEEE([]byte("5 0 0  ok 07 none")), "5 0 0  ok 07 none")), true},
	}
	for i := range len(b) {
		if i > 0 {
			list[fmt.Sprint("cut behind byte ", i)] = wrong{of(a + b[:i]), true}
			list[fmt.Sprint("a piece cut behind byte ", i)] = wrong{of(a, b[:i]), true}
		}
		changed := b[:i] + string(b[i]^1) + b[i+1:]
		list[fmt.Sprint("another byte ", i)] = wrong{of(a + changed), true}
		list[fmt.Sprint("another byte in a piece ahead ", i)] = wrong{of(changed, a), false}
	}
	return list
}

// farBytes is how much may be asked to be kept of a record: none, less, all, and more than there is.
func farBytes(size int) []int {
	list := []int{math.MinInt, -1, size + 1, size + 1000, math.MaxInt}
	for n := range size + 1 {
		list = append(list, n)
	}
	return list
}

// throwLog is a log that is ok, thrown by dice.
func (d *dice) throwLog() impl.Log {
	all := someActs()
	l := emptyLog()
	for range d.upTo(4) * d.upTo(60) {
		a := all[d.upTo(len(all))]
		// Now and then a piece is left with room.
		if last := len(l.Segs) - 1; d.upTo(9) == 0 && l.Segs[last] != "" && len(l.Segs) < impl.LogMax {
			l.Segs = append(l.Segs, modelRecord(a))
			continue
		}
		l, _ = modelAdd(l, a)
	}
	return l
}

// torn is a log with something of one of its pieces left out, put in, or another one; most of the last.
func (d *dice) torn(l impl.Log) impl.Log {
	segs := slices.Clone(l.Segs)
	at := len(segs) - 1
	if d.upTo(3) == 0 {
		at = d.upTo(len(segs))
	}
	i := d.upTo(len(segs[at]) + 1)
	b := string([]byte{"0 \nx\"\xff"[d.upTo(6)]})
	switch k := d.upTo(7); {
	case k < 2:
		segs[at] = segs[at][:i]
	case k == 2:
		segs[at] = segs[at][:i] + b + segs[at][i:]
	case k == 3 && i < len(segs[at]):
		segs[at] = segs[at][:i] + b + segs[at][i+1:]
	case k == 4:
		segs = append(segs, "")
	case k == 5:
		segs[at] += segs[0]
	default:
		segs = slices.Delete(segs, at, at+1)
	}
	return impl.Log{Segs: segs}
}
