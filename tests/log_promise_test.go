package tests

import (
	"slices"
	"testing"

	"loop.example/backstitch/impl"
)

// eachLog does something with logs of many forms that are ok.
func eachLog(t *testing.T, do func(what string, l impl.Log)) {
	for what, l := range okLogs(t) {
		do(what, l)
	}
	for seed := range 150 {
		d := &dice{uint32(seed)*104729 + 11}
		do("thrown", d.throwLog())
	}
}

// Promise 47: an act that was added is the last of a log, and all others stay.
func TestPromise47(t *testing.T) {
	added, full := 0, 0
	eachLog(t, func(what string, l impl.Log) {
		before := impl.LogActs(l)
		if !slices.Equal(before, modelActs(l)) {
			t.Fatalf("%s: LogActs of %q is %v", what, l.Segs, before)
		}
		for _, a := range someActs() {
			got, ok := impl.LogAdd(l, a)
			want, is := modelAdd(l, a)
			if ok != is || !sameLog(got, want) || !impl.LogOk(got) {
				t.Fatalf("%s: LogAdd of %v to %q is %q, %v", what, a, l.Segs, got.Segs, ok)
			}
			all := before
			if ok {
				added++
				all = append(slices.Clone(before), a)
			} else {
				full++
			}
			if list := impl.LogActs(got); !slices.Equal(list, all) {
				t.Fatalf("%s: LogActs of %q is %v", what, got.Segs, list)
			}
		}
	})
	if added < 500 || full < 5 {
		t.Errorf("%d were added, %d not", added, full)
	}
}

// Promise 48: however much of an act is kept as a log is torn, it is whole again with it or without it.
func TestPromise48(t *testing.T) {
	n := 0
	eachLog(t, func(what string, l impl.Log) {
		all := someActs()
		a := all[n%len(all)]
		n++
		added, ok := impl.LogAdd(l, a)
		size := len(impl.RecordPut(a))
		for _, bytes := range farBytes(size) {
			torn := impl.LogTear(l, a, bytes)
			if !sameLog(torn, modelTear(l, a, bytes)) {
				t.Fatalf("%s: LogTear of %v by %d to %q is %q", what, a, bytes, l.Segs, torn.Segs)
			}
			want := l
			if ok && bytes >= size {
				want = added
			}
			if got := impl.LogMend(torn); !sameLog(got, want) {
				t.Fatalf("%s: LogMend of %q is %q, not %q", what, torn.Segs, got.Segs, want.Segs)
			}
			if whole := impl.LogOk(torn); whole != (bytes <= 0 && !(ok && len(added.Segs) > len(l.Segs)) || bytes >= size || !ok) {
				t.Fatalf("%s: %q is ok: %v", what, torn.Segs, whole)
			}
		}
	})
}

// Promise 49: a log that is mended is ok, and mended again the same.
func TestPromise49(t *testing.T) {
	mended, not, same := 0, 0, 0
	eachLog(t, func(what string, l impl.Log) {
		if got := impl.LogMend(l); !sameLog(got, l) {
			t.Fatalf("%s: LogMend of %q is %q", what, l.Segs, got.Segs)
		}
		d := &dice{uint32(len(l.Segs[0])) + 3}
		for range 40 {
			torn := d.torn(l)
			for d.upTo(3) == 0 && len(torn.Segs) > 0 {
				torn = d.torn(torn)
			}
			want, is := modelMend(torn)
			got := impl.LogMend(torn)
			if !sameLog(got, want) || impl.LogOk(torn) != modelLogOk(torn) || impl.LogOk(torn) && !sameLog(got, torn) {
				t.Fatalf("%s: LogMend of %q is %q", what, torn.Segs, got.Segs)
			}
			if !is {
				not++
				continue
			}
			if !impl.LogOk(got) || !sameLog(impl.LogMend(got), got) {
				t.Fatalf("%s: LogMend of %q is %q, which is not ok", what, torn.Segs, got.Segs)
			}
			mended++
			if impl.LogOk(torn) {
				same++
			}
		}
	})
	if mended < 1000 || not < 300 || same < 100 {
		t.Errorf("%d are mended, %d not, %d were ok", mended, not, same)
	}
}

// Promise 50: all acts of a log, added one by one to one without anything, make it.
func TestPromise50(t *testing.T) {
	fewer := 0
	eachLog(t, func(what string, l impl.Log) {
		list := impl.LogActs(l)
		got := emptyLog()
		for _, a := range list {
			next, ok := impl.LogAdd(got, a)
			if !ok {
				t.Fatalf("%s: LogAdd of %v to %q is false", what, a, got.Segs)
			}
			got = next
		}
		if !slices.Equal(impl.LogActs(got), list) || len(got.Segs) > len(l.Segs) {
			t.Fatalf("%s: %q is made again as %q", what, l.Segs, got.Segs)
		}
		if len(got.Segs) < len(l.Segs) {
			fewer++
		}
	})
	if fewer < 10 {
		t.Errorf("only %d have fewer pieces", fewer)
	}
}
