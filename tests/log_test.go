package tests

import (
	"bytes"
	"fmt"
	"hash/crc32"
	"slices"
	"strings"
	"testing"

	"loop.example/backstitch/impl"
)

// Promise 44: a sum is the one that the whole world knows.
func TestPromise44(t *testing.T) {
	for s, sum := range map[string]int{"": 0, "123456789": 3421780262, "a": 3904355907, "abc": 891568578, "\x00": 3523407757, "\xff": 4278190080, "The quick brown fox jumps over the lazy dog": 1095738169} {
		if got := impl.Crc(s); got != sum {
			t.Errorf("Crc(%q) is %d, not %d", s, got, sum)
		}
	}
	d := &dice{44}
	for n := range 600 {
		all := make([]byte, n%300)
		for i := range all {
			all[i] = byte(d.upTo(256))
		}
		if n < 256 {
			all = []byte{byte(n)}
		}
		if got, want := impl.Crc(string(all)), int(crc32.ChecksumIEEE(all)); got != want {
			t.Fatalf("Crc(%q) is %d, not %d", all, got, want)
		}
	}
	for _, n := range []int{1000, 100000} {
		all := bytes.Repeat([]byte("ab\n"), n)
		if got := impl.Crc(string(all)); got != int(crc32.ChecksumIEEE(all)) {
			t.Errorf("Crc of %d bytes is %d", len(all), got)
		}
	}
}

// Promise 45: an act is read back from its text.
func TestPromise45(t *testing.T) {
	for _, a := range okActs() {
		s := impl.ActPut(a)
		if s != modelPut(a) {
			t.Errorf("ActPut(%v) is %q", a, s)
		}
		if back, ok := impl.ActGet(s); !ok || back != a {
			t.Errorf("ActGet(%q) is %v, %v", s, back, ok)
		}
	}
	for _, c := range []struct {
		act impl.Act
		put string
	}{
		{starts("one", num(5)), "1 0 0 one ok 0 5"},
		{starts("one", impl.Value{}), "1 0 0 one ok 0 none"},
		{signals(7, "go1", text("a b")), `2 7 0 go1 ok 0 "a b"`},
		{answers(3, 39, num(-5)), "3 3 39  ok 0 -5"},
		{refuses(3, 0), "3 3 0  no 0 none"},
		{cancels(1), "4 1 0  ok 0 none"},
		{ticks(1000), "5 0 0  ok 1000 none"},
	} {
		if s := impl.ActPut(c.act); s != c.put {
			t.Errorf("ActPut(%v) is %q", c.act, s)
		}
		if a, ok := impl.ActGet(c.put); !ok || a != c.act {
			t.Errorf("ActGet(%q) is %v, %v", c.put, a, ok)
		}
	}
	for _, a := range wrongActs() {
		if s := impl.ActPut(a); s != "" {
			t.Errorf("ActPut(%v) is %q", a, s)
		}
	}
}

// noActs is texts that no act is written as.
var noActs = []string{
	"", " ", "\n", "1", "x", "1 0 0 one ok 0", "1 0 0 one ok 5", "1 0 0 one ok 0 ", " 1 0 0 one ok 0 5", "1 0 0 one ok 0 5 ", "1 0 0 one ok 0 5\n", "\n1 0 0 one ok 0 5",
	"1  0 0 one ok 0 5", "1 0 0  one ok 0 5", "1 0 0 one  ok 0 5", "1 0 0 one ok 0  5", "1\t0 0 one ok 0 5", "1 0 0 one ok 0 5 5", "1 0 0 one ok 0 05", "1 0 0 one ok 0 +5", "1 0 0 one ok 0 -0", "1 0 0 one ok 0 5.0",
	"1 0 0 one OK 0 5", "1 0 0 one yes 0 5", "1 0 0 one no 0 5", "1 0 0 one  0 5", "1 0 0 one true 0 5", "01 0 0 one ok 0 5", "+1 0 0 one ok 0 5", "1 00 0 one ok 0 5", "1 0 -0 one ok 0 5", "1 0 0 one ok 00 5", "1 0 0 one ok 1 5", "1 1 0 one ok 0 5", "1 0 1 one ok 0 5",
	"1 0 0 let ok 0 5", "1 0 0  ok 0 5", "1 0 0 9 ok 0 5", "1 0 0 abcdefghijk ok 0 5", "1 0 0 one ok 0 1000000001", "1 0 0 one ok 0 99999999999999999999", "1 0 0 one ok 0 None", "1 0 0 one ok 0 \"", "1 0 0 one ok 0 \"a", "1 0 0 one ok 0 a\"", "1 0 0 one ok 0 \"a\"b\"", "1 0 0 one ok 0 \"a\n\"", "1 0 0 one ok 0 \"1234567890123456789012345\"",
	"0 0 0 one ok 0 5", "6 0 0 one ok 0 5", "-1 0 0 one ok 0 5", "0 0 0  no 0 none", "0 0 0  ok 0 none", "6 0 0  ok 1 none",
	"2 8 0 go1 ok 0 5", "2 -1 0 go1 ok 0 5", "2 0 0  ok 0 5", "2 0 0 go1 no 0 5", "2 0 1 go1 ok 0 5",
	"3 0 40  ok 0 5", "3 0 -1  ok 0 5", "3 0 0  no 0 5", "3 0 0 x ok 0 5", "3 8 0  ok 0 5", "3 0 0  ok 1 5", "3 0 0 ok 0 5", "3 0 0  no 0",
	"4 0 0  no 0 none", "4 0 0  ok 0 0", "4 0 0  ok 0", "4 8 0  ok 0 none", "4 0 0 x ok 0 none", "4 0 1  ok 0 none", "4 0 0  ok 1 none",
	"5 0 0  ok 0 none", "5 0 0  ok 1001 none", "5 0 0  ok -1 none", "5 0 0  no 1 none", "5 1 0  ok 1 none", "5 0 1  ok 1 none", "5 0 0 x ok 1 none", "5 0 0  ok 1 1", "5 0 0  ok 99999999999999999999 none", "5 0 0  ok 1e2 none",
}

func TestActGetOfWrong(t *testing.T) {
	for _, s := range noActs {
		if a, ok := impl.ActGet(s); ok || a != (impl.Act{}) {
			t.Errorf("ActGet(%q) is %v, %v", s, a, ok)
		}
		r := fmt.Sprintf("%d %s\n", crc32.ChecksumIEEE([]byte(s)), s)
		if a, n := impl.RecordGet(r); n != 0 || a != (impl.Act{}) {
			t.Errorf("RecordGet(%q) is %v, %d", r, a, n)
		}
	}
	for _, s := range []string{strings.Repeat("1 ", 1000000), strings.Repeat(" ", 1000000), "1 0 0 one ok 0 " + strings.Repeat("5", 1000000), strings.Repeat("x", 1000000)} {
		if a, ok := impl.ActGet(s); ok || a != (impl.Act{}) {
			t.Errorf("ActGet of %d bytes is %v, %v", len(s), a, ok)
		}
		if a, n := impl.RecordGet(s); n != 0 || a != (impl.Act{}) {
			t.Errorf("RecordGet of %d bytes is %v, %d", len(s), a, n)
		}
	}
}

// An act with one byte another one, left out, or put in, is read just if it is written so.
func TestActGetOfChanged(t *testing.T) {
	read := 0
	look := func(s string) {
		want, is := modelAct(s)
		a, ok := impl.ActGet(s)
		if ok != is || a != want || ok && impl.ActPut(a) != s {
			t.Fatalf("ActGet(%q) is %v, %v", s, a, ok)
		}
		if ok {
			read++
		}
	}
	for _, a := range someActs() {
		s := modelPut(a)
		for i := range len(s) {
			look(s[:i] + s[i+1:])
			for b := range 256 {
				look(s[:i] + string([]byte{byte(b)}) + s[i+1:])
				look(s[:i] + string([]byte{byte(b)}) + s[i:])
			}
		}
	}
	if read < 1000 {
		t.Errorf("only %d are read", read)
	}
}

// Promise 46: a record is read back, whatever stands behind it, and no beginning of it is.
func TestPromise46(t *testing.T) {
	for _, a := range okActs() {
		r := impl.RecordPut(a)
		if r != modelRecord(a) || r != fmt.Sprint(impl.Crc(impl.ActPut(a)))+" "+impl.ActPut(a)+"\n" {
			t.Errorf("RecordPut(%v) is %q", a, r)
		}
		for _, more := range []string{"", "more", "\n", " ", "\x00", "0", r, r[:5], strings.Repeat(r, 3)} {
			if back, n := impl.RecordGet(r + more); back != a || n != len(r) {
				t.Errorf("RecordGet(%q) is %v, %d", r+more, back, n)
			}
		}
		for i := range len(r) {
			if back, n := impl.RecordGet(r[:i]); n != 0 || back != (impl.Act{}) {
				t.Errorf("RecordGet(%q) is %v, %d", r[:i], back, n)
			}
			if back, n := impl.RecordGet(r[i:]); i > 0 && (n != 0 || back != (impl.Act{})) {
				t.Errorf("RecordGet(%q) is %v, %d", r[i:], back, n)
			}
		}
		for _, ahead := range []string{" ", "0", "1", "\n", "+", "\x00", "x"} {
			if back, n := impl.RecordGet(ahead + r); n != 0 || back != (impl.Act{}) {
				t.Errorf("RecordGet(%q) is %v, %d", ahead+r, back, n)
			}
		}
	}
	if r := impl.RecordPut(starts("one", num(5))); r != fmt.Sprint(impl.Crc("1 0 0 one ok 0 5"), " 1 0 0 one ok 0 5\n") {
		t.Errorf("it is %q", r)
	}
	for _, a := range wrongActs() {
		if r := impl.RecordPut(a); r != "" {
			t.Errorf("RecordPut(%v) is %q", a, r)
		}
	}
	for _, s := range []string{"", "\n", " ", " \n", "0", "0 ", "0 \n", "0\n", "x"} {
		if a, n := impl.RecordGet(s); n != 0 || a != (impl.Act{}) {
			t.Errorf("RecordGet(%q) is %v, %d", s, a, n)
		}
	}
}

// Promise 79: a record one byte of which is another one is none.
func TestPromise79(t *testing.T) {
	for _, a := range append(someActs(), okActs()[:30]...) {
		r := modelRecord(a)
		for i := range len(r) {
			for b := range 256 {
				if byte(b) == r[i] {
					continue
				}
				// The sum, and the newline at the end, as well.
				changed := r[:i] + string([]byte{byte(b)}) + r[i+1:]
				for _, more := range []string{"", "\n", r} {
					if back, n := impl.RecordGet(changed + more); n != 0 || back != (impl.Act{}) {
						t.Fatalf("RecordGet(%q) is %v, %d", changed+more, back, n)
					}
				}
			}
		}
	}
}

// checkNoLog says that a log is not ok, and each function tells its one answer.
func checkNoLog(t *testing.T, what string, l impl.Log) {
	t.Helper()
	if impl.LogOk(l) || modelLogOk(l) {
		t.Errorf("%s: it is ok", what)
	}
	for _, a := range append(someActs(), impl.Act{}) {
		if got, ok := impl.LogAdd(l, a); ok || !noLog(got) {
			t.Errorf("%s: LogAdd is %q, %v", what, got.Segs, ok)
		}
		for _, n := range []int{-1, 0, 5, 1000} {
			if got := impl.LogTear(l, a, n); !noLog(got) {
				t.Errorf("%s: LogTear is %q", what, got.Segs)
			}
		}
	}
	if list := impl.LogActs(l); len(list) != 0 {
		t.Errorf("%s: LogActs is %v", what, list)
	}
}

func TestLogOk(t *testing.T) {
	for what, l := range okLogs(t) {
		if !impl.LogOk(l) || !modelLogOk(l) {
			t.Errorf("%s: it is not ok: %q", what, l.Segs)
		}
		if got := impl.LogActs(l); !slices.Equal(got, modelActs(l)) || records(got...) != strings.Join(l.Segs, "") {
			t.Errorf("%s: LogActs is %v", what, got)
		}
	}
	if full := okLogs(t)["one piece that is full"].Segs[0]; len(full) != impl.SegMax {
		t.Errorf("it has %d bytes", len(full))
	}
	for what, w := range wrongLogs(t) {
		checkNoLog(t, what, w.log)
	}
}

func TestLogMend(t *testing.T) {
	for what, l := range okLogs(t) {
		if got := impl.LogMend(l); !sameLog(got, l) {
			t.Errorf("%s: LogMend is %q", what, got.Segs)
		}
	}
	for what, w := range wrongLogs(t) {
		got := impl.LogMend(w.log)
		want, is := modelMend(w.log)
		if is != w.mends || !sameLog(got, want) || noLog(got) == w.mends {
			t.Errorf("%s: LogMend is %q", what, got.Segs)
		}
	}
	a, b, c := records(starts("up", num(1))), records(ticks(7)), records(cancels(3))
	for _, w := range []struct{ torn, mended []string }{
		{[]string{""}, []string{""}},
		{[]string{"x"}, []string{""}},
		{[]string{a[:len(a)-1]}, []string{""}},
		{[]string{a + "x"}, []string{a}},
		{[]string{a + b + c[:1]}, []string{a + b}},
		{[]string{a, ""}, []string{a}},
		{[]string{a, "x"}, []string{a}},
		{[]string{a, b, c[:9]}, []string{a, b}},
		{[]string{a, b + c[:9]}, []string{a, b}},
		// Only the last goes, and nothing behind what is torn stays.
		{[]string{a + b[:4] + c}, []string{a}},
		{[]string{b[:4] + a + c}, []string{""}},
		{[]string{a, b[:4] + "\n" + c}, []string{a}},
		{[]string{a + a[1:]}, []string{a}},
		{[]string{a + strings.Repeat("x", impl.SegMax-len(a))}, []string{a}},
		{[]string{a + strings.Repeat("x", impl.SegMax-len(a)+1)}, nil},
		{[]string{a, "", ""}, nil},
	} {
		if got := impl.LogMend(impl.Log{Segs: w.torn}); !slices.Equal(got.Segs, w.mended) {
			t.Errorf("LogMend of %q is %q", w.torn, got.Segs)
		}
	}
}

// A piece that is just full, and one byte more; as many pieces as there may be, and one more.
func TestLimitsOfLogs(t *testing.T) {
	for left := 40; left < 60; left++ {
		seg := records(filled(t, impl.SegMax-left)...)
		for _, ahead := range []int{0, 1, impl.LogMax - 1} {
			l := impl.Log{Segs: append(slices.Repeat([]string{fullSeg(t)}, ahead), seg)}
			fits, over := sized(t, left), sized(t, left+1)
			got, ok := impl.LogAdd(l, fits)
			if !ok || len(got.Segs) != ahead+1 || got.Segs[ahead] != seg+modelRecord(fits) || len(got.Segs[ahead]) != impl.SegMax {
				t.Fatalf("with %d left, %d ahead, LogAdd is %q, %v", left, ahead, got.Segs, ok)
			}
			got, ok = impl.LogAdd(l, over)
			want := impl.Log{Segs: append(slices.Clone(l.Segs), modelRecord(over))}
			if ahead == impl.LogMax-1 {
				want = l
			}
			if ok != (ahead < impl.LogMax-1) || !sameLog(got, want) {
				t.Fatalf("with %d left, %d ahead, LogAdd of a byte more is %q, %v", left, ahead, got.Segs, ok)
			}
			// Without room for that there may be room for less.
			if got, ok := impl.LogAdd(got, sized(t, 40)); !ok || !impl.LogOk(got) {
				t.Fatalf("with %d left, %d ahead, LogAdd of less is %v", left, ahead, ok)
			}
		}
	}
}

func TestLogMax(t *testing.T) {
	a := signals(1, "abcdefghij", text(fullText))
	per := impl.SegMax / len(modelRecord(a))
	l := emptyLog()
	for i := range impl.LogMax * per {
		next, ok := impl.LogAdd(l, a)
		if !ok || len(next.Segs) != i/per+1 || !impl.LogOk(next) {
			t.Fatalf("LogAdd of act %d is %d pieces, %v", i, len(next.Segs), ok)
		}
		l = next
	}
	for range 2 {
		got, ok := impl.LogAdd(l, a)
		if ok || !sameLog(got, l) || len(impl.LogActs(got)) != impl.LogMax*per {
			t.Errorf("LogAdd of one more is %d pieces, %v", len(got.Segs), ok)
		}
		for _, n := range farBytes(len(modelRecord(a))) {
			if got := impl.LogTear(l, a, n); !sameLog(got, l) {
				t.Errorf("LogTear of one more is %q", got.Segs)
			}
		}
	}
	// A log that has as many acts in more pieces than need be is full as well.
	x := impl.Log{Segs: slices.Repeat([]string{records(ticks(1))}, impl.LogMax-1)}
	x.Segs = append(x.Segs, fullSeg(t))
	if got, ok := impl.LogAdd(x, ticks(1)); ok || !sameLog(got, x) {
		t.Errorf("LogAdd is %q, %v", got.Segs, ok)
	}
}

func TestLogAddOfWrongActs(t *testing.T) {
	for what, l := range okLogs(t) {
		for _, a := range wrongActs() {
			if got, ok := impl.LogAdd(l, a); ok || !sameLog(got, l) {
				t.Fatalf("%s: LogAdd of %v is %q, %v", what, a, got.Segs, ok)
			}
			for _, n := range []int{-1, 0, 1, 30, 1000} {
				if got := impl.LogTear(l, a, n); !sameLog(got, l) {
					t.Fatalf("%s: LogTear of %v is %q", what, a, got.Segs)
				}
			}
		}
	}
}

// What is left of a log that is torn, byte by byte.
func TestLogTear(t *testing.T) {
	a := ticks(7)
	r := modelRecord(a)
	full := fullSeg(t)
	for _, n := range farBytes(len(r)) {
		kept := r[:min(max(n, 0), len(r))]
		for _, c := range []struct{ segs, torn []string }{
			{[]string{""}, []string{kept}},
			{[]string{r}, []string{r + kept}},
			{[]string{full, r}, []string{full, r + kept}},
			// Where it was to begin a piece there is one.
			{[]string{full}, []string{full, kept}},
			{[]string{r, full}, []string{r, full, kept}},
		} {
			if got := impl.LogTear(impl.Log{Segs: c.segs}, a, n); !slices.Equal(got.Segs, c.torn) {
				t.Errorf("LogTear of %q by %d is %q", c.segs, n, got.Segs)
			}
		}
	}
}
