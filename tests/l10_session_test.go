package tests

import (
	"fmt"
	"math"
	"math/rand"
	"reflect"
	"slices"
	"testing"
	"unsafe"

	"loop.example/g00690/impl"
)

// logOf is the Log whose records are list.
func logOf(list ...rec) impl.Log {
	list = chained(list...)
	return impl.Log{Bytes: bytesOf(list...), Gen: len(list), Last: list[len(list)-1].sum(), Any: true}
}

// ringLogs are Logs with which each of ringWorlds is a Session.
func ringLogs(t *testing.T) map[string]impl.Log {
	t.Helper()
	list, _ := sampleLog(t)
	return map[string]impl.Log{"no record": {}, "one record": logOf(list[:1]...), "two records": logOf(list[:2]...), "three records": logOf(list[:3]...)}
}

// ringSessions have each of ringWorlds with each of ringLogs.
func ringSessions(t *testing.T) map[string]impl.Session {
	t.Helper()
	list := map[string]impl.Session{}
	for name, w := range ringWorlds(t) {
		for what, l := range ringLogs(t) {
			list[name+", "+what] = impl.Session{W: w, Log: l}
		}
	}
	return list
}

// sessionByDefinition is SessionOk as chapter 10 is written.
func sessionByDefinition(s impl.Session) bool {
	l := s.Log
	if !impl.FormOk(s.W) || len(wrongIn(s.W)) > 0 || l.Bytes != "" && !l.Any || l.Gen < 0 || l.Gen > 1000000 || l.Last < 0 || l.Last > 4294967295 {
		return false
	}
	if !l.Any {
		return l == impl.Log{}
	}
	found, code := recoverByDefinition(l.Bytes)
	return code == impl.RcOk && found.Gen == l.Gen && found.Last == l.Last && found.At == len(l.Bytes) &&
		found.W.Pages == s.W.Pages && len(found.W.Muts) == len(s.W.Muts)
}

// actByDefinition is Act as chapter 10 is written.
func actByDefinition(s impl.Session, e impl.Ev) (impl.Session, impl.Ans) {
	if !sessionByDefinition(s) || e.Kind < 1 || e.Kind > 7 {
		return impl.Session{}, code(impl.AnForm)
	}
	next := roomy(s)
	w, answer := &next.W, impl.Ans{}
	switch e.Kind {
	case impl.EvOp:
		answer = modelDo(w, e.Op)
	case impl.EvStart:
		if w.Gc.Phase != impl.PhOff {
			return s, code(impl.AnForm)
		}
		w.Gc.Phase = impl.PhSetup
	case impl.EvSteps:
		if e.N < 0 || e.N > 10000 {
			return s, code(impl.AnSize)
		}
		for steps := 0; steps < e.N && w.Gc.Phase != impl.PhOff; steps++ {
			modelStep(w)
		}
	case impl.EvMove:
		if e.Base < 32 || e.Base > 1048576 || e.Base%32 != 0 || e.Pages < 1 || e.Pages > 12 {
			return s, code(impl.AnSize)
		}
		if len(w.Spans) > e.Pages {
			return s, code(impl.AnMemory)
		}
		next = impl.Session{W: movedByDefinition(*w, e.Base, e.Pages)}
	case impl.EvFull:
		return writtenByDefinition(next, fullOf(*w))
	case impl.EvDelta:
		if !next.Log.Any {
			return s, code(impl.AnForm)
		}
		return writtenByDefinition(next, deltaOf(*w, dirtyCards(*w)...))
	case impl.EvCrash:
		return crashedByDefinition(next, e.N)
	}
	return next, answer
}

func writtenByDefinition(s impl.Session, r rec) (impl.Session, impl.Ans) {
	r.gen, r.ahead = s.Log.Gen+1, 0
	if s.Log.Any {
		r.ahead = s.Log.Last
	}
	all := s.Log.Bytes + r.bytes()
	if len(all) > 200000 {
		return s, code(impl.AnMemory)
	}
	clear(s.W.Dirty)
	return impl.Session{W: s.W, Log: impl.Log{Bytes: all, Gen: r.gen, Last: r.sum(), Any: true}}, impl.Ans{}
}

func crashedByDefinition(s impl.Session, n int) (impl.Session, impl.Ans) {
	rest := s.Log.Bytes
	if n < len(rest) {
		rest = rest[:max(n, 0)]
	}
	found, code := recoverByDefinition(rest)
	if code != impl.RcOk {
		w := impl.World{Base: s.W.Base, Pages: s.W.Pages, Words: make([]int, 32*s.W.Pages), Dirty: make([]bool, 4*s.W.Pages)}
		for range s.W.Muts {
			w.Muts = append(w.Muts, roots6())
		}
		return impl.Session{W: w}, impl.Ans{}
	}
	next := impl.Session{Log: impl.Log{Bytes: rest[:found.At], Gen: found.Gen, Last: found.Last, Any: true}}
	if len(found.W.Spans) <= s.W.Pages {
		next.W = movedByDefinition(found.W, s.W.Base, s.W.Pages)
	}
	return next, impl.Ans{Val: found.Count}
}

func wantSession(t *testing.T, what string, got impl.Session, want impl.Session) {
	t.Helper()
	if got.Log != want.Log {
		t.Errorf("%s: the Log is\n%#v, want\n%#v", what, got.Log, want.Log)
	}
	wantWorld(t, what, got.W, want.W)
}

func wantZeroSession(t *testing.T, what string, got impl.Session) {
	t.Helper()
	if !reflect.DeepEqual(got, impl.Session{}) {
		t.Errorf("%s = %+v, want the zero value", what, got)
	}
}

// wantAct holds Act of e, and ActAll of e alone, against the definition, and wants that code.
func wantAct(t *testing.T, what string, s impl.Session, e impl.Ev, code int) impl.Session {
	t.Helper()
	what = fmt.Sprintf("%s: %+v", what, e)
	want, answer := actByDefinition(s, e)
	got, is := impl.Act(s, e)
	if is != answer || is.Code != code {
		t.Errorf("%s: Act answers %+v, want %+v with code %d", what, is, answer, code)
	}
	wantSession(t, what+": Act", got, want)
	if ok := sessionByDefinition(want); impl.SessionOk(got) != ok {
		t.Errorf("%s: SessionOk behind it is not %v", what, ok)
	}
	wantAll(t, what, s, []impl.Ev{e})
	return got
}

// wantAll holds ActAll of l against Act of each one, where what has AnForm leaves s
// as it is.
func wantAll(t *testing.T, what string, s impl.Session, l []impl.Ev) impl.Session {
	t.Helper()
	want := s
	var answers []impl.Ans
	for _, e := range l {
		next, answer := impl.Act(want, e)
		if answers = append(answers, answer); answer.Code != impl.AnForm {
			want = next
		}
	}
	got, is := impl.ActAll(s, l)
	if !slices.Equal(is, answers) {
		t.Errorf("%s: ActAll answers\n%v, want\n%v", what, is, answers)
	}
	wantSession(t, what+": ActAll", got, want)
	return got
}

// someEvents has events of each Kind, some of which are refused anywhere.
func someEvents() []impl.Ev {
	return []impl.Ev{
		{Kind: impl.EvOp, Op: impl.Op{Kind: impl.OpSame}}, {Kind: impl.EvOp, Op: impl.Op{Kind: impl.OpAlloc, N: 1}}, {Kind: impl.EvOp, Op: impl.Op{Kind: impl.OpGet, H: 6}},
		{Kind: impl.EvStart}, {Kind: impl.EvSteps}, {Kind: impl.EvSteps, N: 3}, {Kind: impl.EvSteps, N: -1},
		{Kind: impl.EvMove, Base: 32, Pages: 12}, {Kind: impl.EvMove}, {Kind: impl.EvMove, Base: 32, Pages: 1},
		{Kind: impl.EvFull}, {Kind: impl.EvDelta}, {Kind: impl.EvCrash}, {Kind: impl.EvCrash, N: -1}, {Kind: impl.EvCrash, N: 999999},
		{}, {Kind: 8}, {Kind: -1},
	}
}

// wantNoSession fails if something is done to s, which is not SessionOk.
func wantNoSession(t *testing.T, what string, s impl.Session) {
	t.Helper()
	if sessionByDefinition(s) || impl.SessionOk(s) {
		t.Errorf("%s: SessionOk = %v, the definition tells %v", what, impl.SessionOk(s), sessionByDefinition(s))
	}
	for _, e := range someEvents() {
		got, answer := impl.Act(s, e)
		if wantZeroSession(t, what+": Act", got); answer != code(impl.AnForm) {
			t.Errorf("%s: Act of %+v answers %+v, want AnForm", what, e, answer)
		}
	}
	for _, l := range [][]impl.Ev{nil, {}, someEvents()[:1], someEvents(), make([]impl.Ev, 1001)} {
		got, answers := impl.ActAll(s, l)
		if wantZeroSession(t, what+": ActAll", got); len(answers) != 0 {
			t.Errorf("%s: ActAll answers %v, want nothing", what, answers)
		}
	}
}

func wantIsSession(t *testing.T, what string, s impl.Session) {
	t.Helper()
	if !sessionByDefinition(s) || !impl.SessionOk(s) {
		t.Errorf("%s: SessionOk = %v, the definition tells %v", what, impl.SessionOk(s), sessionByDefinition(s))
	}
	got, answers := impl.ActAll(s, nil)
	if wantSession(t, what+": ActAll of none", got, s); len(answers) != 0 {
		t.Errorf("%s: ActAll of none answers %v", what, answers)
	}
}

func TestSessionConstants(t *testing.T) {
	got := []int{impl.EvOp, impl.EvStart, impl.EvSteps, impl.EvMove, impl.EvFull, impl.EvDelta, impl.EvCrash}
	wantList(t, "events", got, 1, 2, 3, 4, 5, 6, 7)
}

func TestSessionNew(t *testing.T) {
	for _, base := range []int{32, 64, 320, impl.MaxBase} {
		for pages := 1; pages <= 12; pages++ {
			for muts := 1; muts <= 3; muts++ {
				what := fmt.Sprintf("SessionNew(%d, %d, %d)", base, pages, muts)
				s, ok := impl.SessionNew(base, pages, muts)
				if wantSession(t, what, s, impl.Session{W: newWorld(t, base, pages, muts)}); !ok {
					t.Errorf("%s = false", what)
				}
				wantIsSession(t, what, s)
			}
		}
	}
	a, _ := impl.SessionNew(32, 2, 2)
	b, _ := impl.SessionNew(32, 2, 2)
	wantOwnMemory(t, "SessionNew", a, b)
}

func TestSessionNewRefuses(t *testing.T) {
	refused := func(base int, pages int, muts int) {
		t.Helper()
		s, ok := impl.SessionNew(base, pages, muts)
		if wantZeroSession(t, "SessionNew", s); ok {
			t.Errorf("SessionNew(%d, %d, %d) = true", base, pages, muts)
		}
	}
	for _, base := range []int{math.MinInt, -32, -1, 0, 1, 16, 31, 33, 48, 65, impl.MaxBase - 1, impl.MaxBase + 1, impl.MaxBase + 32, 1 << 62, math.MaxInt} {
		refused(base, 2, 2)
	}
	for _, pages := range []int{math.MinInt, -1, 0, 13, 14, 1 + 1<<32, math.MaxInt} {
		refused(64, pages, 2)
	}
	for _, muts := range []int{math.MinInt, -1, 0, 4, 5, 1 + 1<<32, math.MaxInt} {
		refused(64, 2, muts)
	}
	refused(0, 0, 0)
}

// A Session is one whatever W has other than what the Log tells, but for Pages and Muts.
func TestSessionOkAccepts(t *testing.T) {
	for name, s := range ringSessions(t) {
		wantIsSession(t, name, s)
		for _, base := range []int{32, 96, impl.MaxBase} {
			wantIsSession(t, name+", at another base", impl.Session{W: shifted(s.W, base), Log: s.Log})
		}
		wantIsSession(t, name+", without anything", impl.Session{W: newWorld(t, 320, 4, 3), Log: s.Log})
		for i := range s.W.Dirty {
			s.W.Dirty[i] = true
		}
		wantIsSession(t, name+", all Dirty", s)
	}
	for _, m := range slices.Concat(rightMoments(), rightMomentsOfMarks()) {
		w := ringWorlds(t)[m.world]
		m.change(&w)
		for what, l := range ringLogs(t) {
			wantIsSession(t, m.what+", "+what, impl.Session{W: w, Log: l})
		}
	}
	list, _ := sampleLog(t)
	wantIsSession(t, "a World of other Pages and Muts ahead", impl.Session{W: gapWorld(t), Log: logOf(list...)})
}

// LogFull refuses more than MaxBytes bytes; a Log that has them is one all the same.
func TestSessionsOfMoreThanMaxBytes(t *testing.T) {
	w := newWorld(t, 64, 1, 1)
	list := []rec{fullOf(w)}
	for len(list) < 4500 {
		list = append(list, deltaOf(w))
	}
	s := impl.Session{W: w, Log: logOf(list...)}
	if wantIsSession(t, "long", s); len(s.Log.Bytes) <= impl.MaxBytes {
		t.Errorf("but %d bytes", len(s.Log.Bytes))
	}
	wantAct(t, "long", s, impl.Ev{Kind: impl.EvFull}, impl.AnMemory)
	wantAct(t, "long", s, impl.Ev{Kind: impl.EvDelta}, impl.AnMemory)
	got := wantAct(t, "long", s, impl.Ev{Kind: impl.EvCrash, N: len(s.Log.Bytes) - 1}, impl.AnOk)
	wantList(t, "Gen behind it", []int{got.Log.Gen}, 4499)
}

func TestSessionOkRefusesWhatIsNotRight(t *testing.T) {
	logs := ringLogs(t)
	refused := func(t *testing.T, w impl.World) {
		t.Helper()
		for what, l := range logs {
			wantNoSession(t, what, impl.Session{W: w, Log: l})
		}
	}
	refused(t, impl.World{})
	eachNotRight(t, refused)
}

// wrongLogs are changes of a Log of three records, behind each of which it is none of a Session.
func wrongLogs(t *testing.T) map[string]func(l *impl.Log) {
	list, _ := sampleLog(t)
	records := func(list ...rec) string { return bytesOf(chained(list...)...) }
	three, next := records(list[:3]...), deltaOf(ringWorld(t), 0)
	changes := map[string]func(l *impl.Log){
		"not Any":                      func(l *impl.Log) { l.Any = false },
		"not Any, bytes alone":         func(l *impl.Log) { *l = impl.Log{Bytes: l.Bytes} },
		"not Any, but Gen and Last":    func(l *impl.Log) { l.Any, l.Bytes = false, "" },
		"not Any, but Gen":             func(l *impl.Log) { *l = impl.Log{Gen: 1} },
		"not Any, but Last":            func(l *impl.Log) { *l = impl.Log{Last: 1} },
		"not Any, Gen below 0":         func(l *impl.Log) { *l = impl.Log{Gen: -1} },
		"Any, nothing else":            func(l *impl.Log) { *l = impl.Log{Any: true} },
		"Any without bytes":            func(l *impl.Log) { l.Bytes = "" },
		"no record":                    func(l *impl.Log) { l.Bytes = "x" },
		"no record, of Gen 0":          func(l *impl.Log) { *l = impl.Log{Bytes: "x", Any: true} },
		"the first one is left out":    func(l *impl.Log) { l.Bytes = l.Bytes[len(list[0].bytes()):] },
		"the last one is left out":     func(l *impl.Log) { l.Bytes = l.Bytes[:len(three)-len(list[2].bytes())] },
		"the last one twice":           func(l *impl.Log) { l.Bytes += list[2].bytes() },
		"another one behind":           func(l *impl.Log) { l.Bytes = records(list[0], list[1], list[2], next) },
		"a section behind":             func(l *impl.Log) { l.Bytes += sectionByDefinition(68, "") },
		"another one in place of it":   func(l *impl.Log) { l.Bytes = records(list[0], list[1], next) },
		"a delta at first":             func(l *impl.Log) { *l = logOf(next, list[0], list[1]) },
		"5 pages":                      func(l *impl.Log) { *l = logOf(fullOf(movedByDefinition(ringWorld(t), 32, 5))) },
		"3 pages":                      func(l *impl.Log) { *l = logOf(fullOf(movedByDefinition(ringWorld(t), 32, 3))) },
		"1 mut":                        func(l *impl.Log) { *l = logOf(fullOf(newWorld(t, 32, 4, 1))) },
		"2 muts":                       func(l *impl.Log) { *l = logOf(fullOf(newWorld(t, 32, 4, 2))) },
		"other pages and muts at last": func(l *impl.Log) { *l = logOf(list...) },
	}
	for _, gen := range []int{math.MinInt, -3, -1, 0, 1, 2, 4, 999999, 1000000, 1000001, 3 + 1<<32, math.MaxInt} {
		changes[fmt.Sprintf("Gen %d", gen)] = func(l *impl.Log) { l.Gen = gen }
	}
	last := list[2].sum()
	for _, sum := range []int{math.MinInt, -1, -last, 0, 1, last - 1, last + 1, list[1].sum(), 4294967295, 4294967296, last + 1<<32, math.MaxInt} {
		changes[fmt.Sprintf("Last %d", sum)] = func(l *impl.Log) { l.Last = sum }
	}
	return changes
}

func TestSessionOkRefusesLogs(t *testing.T) {
	changes := wrongLogs(t)
	for name, w := range ringWorlds(t) {
		for what, change := range changes {
			s := impl.Session{W: w, Log: ringLogs(t)["three records"]}
			wantIsSession(t, name, s)
			change(&s.Log)
			wantNoSession(t, name+": "+what, s)
		}
	}
}

// Cut off anywhere, with a byte behind, or with a bit turned, a Log is none of a Session.
func TestSessionOkRefusesBytes(t *testing.T) {
	s := impl.Session{W: ringWorld(t), Log: ringLogs(t)["three records"]}
	whole := s.Log.Bytes
	refused := func(what string, bytes string) {
		t.Helper()
		if s.Log.Bytes = bytes; sessionByDefinition(s) || impl.SessionOk(s) {
			t.Errorf("%s: SessionOk = %v", what, impl.SessionOk(s))
		}
	}
	for cut := range whole {
		refused(fmt.Sprintf("cut off at %d", cut), whole[:cut])
		refused(fmt.Sprintf("without the first %d", cut+1), whole[cut+1:])
	}
	for bit := range 8 * len(whole) {
		refused(fmt.Sprintf("bit %d turned", bit), withTurned(whole, bit, 1, 1))
	}
	for b := range 256 {
		refused(fmt.Sprintf("byte %d behind", b), whole+string([]byte{byte(b)}))
		refused(fmt.Sprintf("byte %d ahead", b), string([]byte{byte(b)})+whole)
	}
}

// An event of no Kind counts ahead of all else, and gives the zero value; in a row it leaves the Session as it is.
func TestEventsOfNoKind(t *testing.T) {
	for name, s := range ringSessions(t) {
		for _, kind := range []int{0, 8, -1, 9, -7, 257, 1<<32 + 1, math.MinInt, math.MaxInt} {
			for _, e := range []impl.Ev{{Kind: kind}, {Kind: kind, Op: impl.Op{Kind: impl.OpSame}, N: 1, Base: 64, Pages: 4}, {Kind: kind, N: -1, Base: -1, Pages: -1}} {
				got, answer := impl.Act(s, e)
				if wantZeroSession(t, name+": Act", got); answer != code(impl.AnForm) {
					t.Errorf("%s: Act of %+v answers %+v", name, e, answer)
				}
				wantSession(t, name+": ActAll", wantAll(t, name, s, []impl.Ev{e, e}), s)
			}
		}
	}
}

// Each Kind of Op, and each code that Do answers, in each phase.
func TestOpsInSessions(t *testing.T) {
	count := map[impl.Op]bool{}
	codes := map[int]int{}
	ops := ofEachKind([]impl.Op{{N: 3, V: 1}, {M: 1, H: 3, N: 16}, {M: 2, H: 4, I: 8, G: 2, N: 17, V: 9}, {M: 2, H: 5, G: 4}, {M: 2, I: 99, H: 4, N: 99}, {M: -1}})
	for _, kind := range unlisted {
		ops = append(ops, impl.Op{Kind: kind}, impl.Op{Kind: kind, N: 1, V: 1})
	}
	for name, s := range ringSessions(t) {
		full, _ := impl.DoAll(s.W, []impl.Op{{Kind: impl.OpAlloc, M: 1, N: 16}, {Kind: impl.OpAlloc, M: 1, H: 1, N: 16}})
		for _, w := range []impl.World{s.W, full} {
			for _, op := range ops {
				s := impl.Session{W: w, Log: s.Log}
				next, answer := impl.Do(w, op)
				got := wantAct(t, name, s, impl.Ev{Kind: impl.EvOp, Op: op, N: 9, Base: -1, Pages: -1}, answer.Code)
				if answer.Code == impl.AnForm {
					next = w
				}
				wantSession(t, name, got, impl.Session{W: next, Log: s.Log})
				count[impl.Op{Kind: op.Kind}] = true
				codes[answer.Code]++
			}
		}
	}
	for answer := impl.AnOk; answer <= impl.AnMemory; answer++ {
		if codes[answer] < 30 {
			t.Errorf("code %d came but %d times", answer, codes[answer])
		}
	}
	if len(count) != 9+len(unlisted) {
		t.Errorf("%d kinds", len(count))
	}
}

func TestStartInEachPhase(t *testing.T) {
	for name, s := range ringSessions(t) {
		e := impl.Ev{Kind: impl.EvStart, N: -1, Base: -1, Pages: -1}
		if s.W.Gc.Phase != impl.PhOff {
			wantSession(t, name, wantAct(t, name, s, e, impl.AnForm), s)
			continue
		}
		got := wantAct(t, name, s, e, impl.AnOk)
		s.W.Gc.Phase = impl.PhSetup
		wantSession(t, name, got, s)
		wantAct(t, name+", started", got, e, impl.AnForm)
	}
}

func TestStepsInEachPhase(t *testing.T) {
	for name, s := range ringSessions(t) {
		left := impl.StepsLeft(s.W)
		for _, n := range []int{0, 1, 2, max(left-1, 0), left, left + 1, 1000, 9999, 10000} {
			got := wantAct(t, name, s, impl.Ev{Kind: impl.EvSteps, N: n, Base: -1, Pages: 99}, impl.AnOk)
			wantSession(t, name, got, impl.Session{W: impl.GcRun(s.W, n), Log: s.Log})
			if n >= left && got.W.Gc.Phase != impl.PhOff {
				t.Errorf("%s: behind %d steps phase %d", name, n, got.W.Gc.Phase)
			}
		}
		for _, n := range []int{math.MinInt, -10000, -1, 10001, 20000, 1 << 32, math.MaxInt} {
			got := wantAct(t, name, s, impl.Ev{Kind: impl.EvSteps, N: n}, impl.AnSize)
			wantSession(t, name, got, s)
		}
	}
}

// The three spans of ringWorld need three pages. What is moved has no Log any more.
func TestMovesInSessions(t *testing.T) {
	for name, s := range ringSessions(t) {
		s.W.Dirty[2], s.W.Dirty[15] = true, true
		for _, base := range []int{32, 64, 96, 320, impl.MaxBase} {
			for _, pages := range []int{3, 4, 5, 12} {
				got := wantAct(t, name, s, impl.Ev{Kind: impl.EvMove, Base: base, Pages: pages, N: -1}, impl.AnOk)
				wantSession(t, name, got, impl.Session{W: movedByDefinition(s.W, base, pages)})
				wantAct(t, name+", moved", got, impl.Ev{Kind: impl.EvDelta}, impl.AnForm)
				wantAct(t, name+", moved", got, impl.Ev{Kind: impl.EvFull}, impl.AnOk)
			}
			for _, pages := range []int{1, 2} {
				got := wantAct(t, name, s, impl.Ev{Kind: impl.EvMove, Base: base, Pages: pages}, impl.AnMemory)
				wantSession(t, name, got, s)
			}
			for _, pages := range []int{math.MinInt, -4, -1, 0, 13, 4 + 1<<32, math.MaxInt} {
				got := wantAct(t, name, s, impl.Ev{Kind: impl.EvMove, Base: base, Pages: pages}, impl.AnSize)
				wantSession(t, name, got, s)
			}
		}
		for _, base := range []int{math.MinInt, -32, -1, 0, 1, 31, 33, 48, impl.MaxBase - 1, impl.MaxBase + 1, impl.MaxBase + 32, 1 << 62, math.MaxInt} {
			for _, pages := range []int{0, 1, 4} {
				got := wantAct(t, name, s, impl.Ev{Kind: impl.EvMove, Base: base, Pages: pages}, impl.AnSize)
				wantSession(t, name, got, s)
			}
		}
	}
}

// What is written down, in each phase, with nothing Dirty, all, and each card alone.
func TestRecordsInSessions(t *testing.T) {
	for name, s := range ringSessions(t) {
		write := func(what string) {
			t.Helper()
			full := wantAct(t, name+what, s, impl.Ev{Kind: impl.EvFull, N: -1, Base: -1, Pages: -1}, impl.AnOk)
			wantRecord(t, name+what, s.Log, s.W, fullOf(s.W), full.Log, full.W, true)
			if !s.Log.Any {
				delta := wantAct(t, name+what, s, impl.Ev{Kind: impl.EvDelta}, impl.AnForm)
				wantSession(t, name+what, delta, s)
				return
			}
			delta := wantAct(t, name+what, s, impl.Ev{Kind: impl.EvDelta, N: -1, Base: -1, Pages: -1}, impl.AnOk)
			wantRecord(t, name+what, s.Log, s.W, deltaOf(s.W, dirtyCards(s.W)...), delta.Log, delta.W, true)
		}
		write(", nothing Dirty")
		for card := range s.W.Dirty {
			s.W.Dirty[card] = true
			write(fmt.Sprintf(", card %d Dirty", card))
			s.W.Dirty[card] = false
		}
		for card := range s.W.Dirty {
			s.W.Dirty[card] = true
		}
		write(", all Dirty")
	}
}

// longWorld has 32 numbers, which have so many bytes in an image more than they must have.
func longWorld(t *testing.T, more int) impl.World {
	t.Helper()
	w := newWorld(t, 64, 1, 1)
	for h := range 2 {
		w, _ = impl.Do(w, impl.Op{Kind: impl.OpAlloc, H: h, N: 16})
	}
	for i := range w.Words {
		if k := min(9, more-9*i); k > 0 {
			w.Words[i] = 1 << (7*k - 1)
		}
	}
	clear(w.Dirty)
	return w
}

// longLog is a Log of just so many bytes, all of them whole records of one World
// with other numbers each time.
func longLog(t *testing.T, size int) impl.Log {
	t.Helper()
	worlds := map[int]impl.World{}
	for more := range 32*9 + 1 {
		r := fullOf(longWorld(t, more))
		r.gen = 300
		worlds[len(r.bytes())] = longWorld(t, more)
	}
	sizes := addressesOf(worlds)
	var l impl.Log
	for ok := true; ok && len(l.Bytes) < size; {
		lack := size - len(l.Bytes)
		next := sizes[len(sizes)-1]
		for _, n := range sizes {
			if _, is := worlds[lack-n]; is || n == lack {
				next = n
			}
		}
		l, _, ok = impl.LogFull(l, worlds[next])
	}
	if len(l.Bytes) != size {
		t.Fatalf("%d bytes, want %d", len(l.Bytes), size)
	}
	return l
}

// A Log may come to have MaxBytes bytes; one more is refused, and changes nothing.
func TestRecordsUpToMaxBytes(t *testing.T) {
	for _, kind := range []int{impl.EvFull, impl.EvDelta} {
		for more := range 2 {
			w := longWorld(t, 100)
			w.Dirty[2] = true
			r := fullOf(w)
			if kind == impl.EvDelta {
				r = deltaOf(w, 2)
			}
			r.gen = 300
			s := impl.Session{W: w, Log: longLog(t, impl.MaxBytes+more-len(r.bytes()))}
			what := fmt.Sprintf("%d bytes and %d", len(s.Log.Bytes), len(r.bytes()))
			if more == 1 {
				got := wantAct(t, what, s, impl.Ev{Kind: kind}, impl.AnMemory)
				wantSession(t, what, got, s)
				wantAct(t, what, s, impl.Ev{Kind: impl.EvOp, Op: impl.Op{Kind: impl.OpGet, V: 1}}, impl.AnOk)
				continue
			}
			got := wantAct(t, what, s, impl.Ev{Kind: kind}, impl.AnOk)
			if len(got.Log.Bytes) != 200000 || dirtyCards(got.W) != nil {
				t.Errorf("%s: %d bytes", what, len(got.Log.Bytes))
			}
			wantIsSession(t, what, got)
			for _, e := range []impl.Ev{{Kind: impl.EvFull}, {Kind: impl.EvDelta}} {
				wantSession(t, what+", full", wantAct(t, what+", full", got, e, impl.AnMemory), got)
			}
			back := wantAct(t, what, got, impl.Ev{Kind: impl.EvCrash, N: len(s.Log.Bytes)}, impl.AnOk)
			wantList(t, what+": bytes behind", []int{len(back.Log.Bytes)}, len(s.Log.Bytes))
		}
	}
}

// cutsOf are numbers of bytes of s at which it may be cut off, and others.
func cutsOf(s string) []int {
	list := []int{math.MinInt, -len(s), -2, -1, len(s) + 1, len(s) + 2, 2 * len(s), 10000, 200001, 1 << 32, 1<<32 - 1, math.MaxInt}
	return append(list, upTo(len(s)+1)...)
}

// Behind a crash there is what the last whole record had, where W is by then, whatever W had.
func TestCrashAtEachByte(t *testing.T) {
	list, worlds := sampleLog(t)
	ends := []int{len(bytesOf(list[:1]...)), len(bytesOf(list[:2]...)), len(bytesOf(list[:3]...))}
	for name, s := range ringSessions(t) {
		s.W = shifted(s.W, 320)
		s.W.Dirty[3] = true
		for _, n := range cutsOf(s.Log.Bytes) {
			what := fmt.Sprintf("%s, cut off at %d", name, n)
			got, answer := impl.Act(s, impl.Ev{Kind: impl.EvCrash, N: n, Base: 64, Pages: 9})
			count := 0
			for count < s.Log.Gen && ends[count] <= n {
				count++
			}
			want := impl.Session{W: newWorld(t, 320, 4, 3)}
			if count > 0 {
				want = impl.Session{W: movedByDefinition(worlds[count-1], 320, 4), Log: logOf(list[:count]...)}
			}
			if wantSession(t, what, got, want); answer != (impl.Ans{Val: count}) {
				t.Errorf("%s: Act answers %+v, want %d records", what, answer, count)
			}
		}
	}
}

func TestCrashesAgainstTheDefinition(t *testing.T) {
	for name, s := range ringSessions(t) {
		third := len(s.Log.Bytes) / 3
		for _, n := range []int{-1, 0, 1, third, 2 * third, len(s.Log.Bytes) - 1, len(s.Log.Bytes), len(s.Log.Bytes) + 1, 999999} {
			wantAct(t, name, s, impl.Ev{Kind: impl.EvCrash, N: n, Base: 64, Pages: 2, Op: impl.Op{Kind: 1}}, impl.AnOk)
		}
	}
}

// What is found goes on: steps, operations, records behind those that are left, and another crash.
func TestGoingOnBehindACrash(t *testing.T) {
	s, _ := impl.SessionNew(96, 3, 2)
	op := func(o impl.Op) impl.Ev { return impl.Ev{Kind: impl.EvOp, Op: o} }
	s = wantAll(t, "ahead", s, []impl.Ev{op(impl.Op{Kind: 1, N: 3, V: 1}), op(impl.Op{Kind: 4, I: 2, V: 5}), {Kind: impl.EvFull}, {Kind: impl.EvStart}, {Kind: impl.EvSteps, N: 2},
		op(impl.Op{Kind: 4, I: 2, V: 6}), {Kind: impl.EvDelta}, {Kind: impl.EvSteps, N: 100}, op(impl.Op{Kind: 6}), {Kind: impl.EvStart}, {Kind: impl.EvSteps, N: 100}})
	if len(s.W.Spans) != 0 || s.Log.Gen != 2 {
		t.Fatalf("ahead: %+v", s)
	}
	first, _ := impl.Act(s, impl.Ev{Kind: impl.EvCrash, N: len(s.Log.Bytes) - 1})
	for n, x := range map[int]struct{ word, phase, gen int }{len(s.Log.Bytes): {6, impl.PhSetup, 2}, len(s.Log.Bytes) - 1: {5, impl.PhOff, 1}, len(first.Log.Bytes): {5, impl.PhOff, 1}} {
		s := wantAct(t, "crash", s, impl.Ev{Kind: impl.EvCrash, N: n}, impl.AnOk)
		wantList(t, "behind it", []int{s.W.Words[2], s.W.Gc.Phase, s.Log.Gen, s.W.Muts[0].Roots[0]}, x.word, x.phase, x.gen, 96)
		wantDirty(t, s.W)
		s = wantAll(t, "behind it", s, []impl.Ev{{Kind: impl.EvSteps, N: 1}, op(impl.Op{Kind: 4, I: 1, V: 7}), {Kind: impl.EvDelta}, op(impl.Op{Kind: 4, I: 1, V: 8}), {Kind: impl.EvCrash, N: 999999}})
		wantList(t, "behind two", []int{s.W.Words[1], s.W.Words[2], s.Log.Gen}, 7, x.word, x.gen+1)
		s = wantAct(t, "nothing left", s, impl.Ev{Kind: impl.EvCrash}, impl.AnOk)
		wantSession(t, "nothing left", s, impl.Session{W: newWorld(t, 96, 3, 2)})
		s = wantAll(t, "nothing left", s, []impl.Ev{{Kind: impl.EvDelta}, {Kind: impl.EvFull}, {Kind: impl.EvDelta}})
		wantList(t, "from nothing on", []int{s.Log.Gen}, 2)
	}
}

// A checkpoint ahead may be of a World with other Pages or Muts. It is moved to the
// Pages of W, and has its own Muts. Then the Log has a World of other Pages than W,
// so that nothing more is done; and if W has too few of them, there is no World.
func TestCrashesToOtherPagesAndMuts(t *testing.T) {
	ring, gap := ringWorlds(t)["mark"], gapWorld(t)
	small := newWorld(t, 96, 2, 3)
	for _, x := range []struct {
		what    string
		ahead   impl.World
		w       impl.World
		right   bool
		noWorld bool
	}{
		{"fewer muts", newWorld(t, 32, 4, 1), ring, true, false},
		{"more muts", movedByDefinition(ring, 32, 5), gap, true, false},
		{"more pages", movedByDefinition(ring, 32, 7), ring, false, false},
		{"fewer pages", gap, movedByDefinition(ring, 64, 12), false, false},
		{"too few pages", ring, small, false, true},
	} {
		s := impl.Session{W: x.w, Log: logOf(fullOf(x.ahead), fullOf(x.w))}
		wantIsSession(t, x.what, s)
		got := wantAct(t, x.what, s, impl.Ev{Kind: impl.EvCrash, N: len(s.Log.Bytes) - 1}, impl.AnOk)
		want := impl.Session{Log: logOf(fullOf(x.ahead))}
		if !x.noWorld {
			want.W = movedByDefinition(x.ahead, x.w.Base, x.w.Pages)
		}
		if wantSession(t, x.what, got, want); impl.SessionOk(got) != x.right {
			t.Errorf("%s: SessionOk = %v", x.what, !x.right)
		}
		if !x.right {
			wantNoSession(t, x.what, got)
		}
		for _, e := range someEvents() {
			wantAll(t, x.what, s, []impl.Ev{{Kind: impl.EvStart}, {Kind: impl.EvCrash, N: len(s.Log.Bytes) - 1}, e, {Kind: impl.EvSteps, N: 1}, {Kind: impl.EvCrash}})
		}
	}
}

// A delta of what was changed elsewhere, and is not Dirty, may be none that Recover
// takes. It is written down all the same; but what comes out is no Session.
func TestDeltasThatAreNotTaken(t *testing.T) {
	taken := map[bool]int{}
	for _, d := range slices.Concat(deltasOfSpans(), deltasOfObjects(), deltasOfPhases()) {
		w := ringWorlds(t)[d.from]
		x := shifted(w, 32)
		d.change(&x)
		x = shifted(x, 64)
		s := impl.Session{W: x, Log: logOf(fullOf(w))}
		if !sessionByDefinition(s) {
			continue
		}
		for _, card := range d.cards {
			s.W.Dirty[card] = true
		}
		what := "behind " + d.from + ": " + d.what
		got := wantAct(t, what, s, impl.Ev{Kind: impl.EvDelta}, impl.AnOk)
		if taken[d.right]++; impl.SessionOk(got) != d.right {
			t.Errorf("%s: SessionOk = %v", what, !d.right)
		}
		wantAll(t, what, s, []impl.Ev{{Kind: impl.EvDelta}, {Kind: impl.EvFull}, {Kind: impl.EvOp, Op: impl.Op{Kind: impl.OpSame}}, {Kind: impl.EvDelta}, {Kind: impl.EvCrash, N: 999999}})
	}
	if taken[true] < 20 || taken[false] < 4 {
		t.Errorf("taken: %v", taken)
	}
}

func TestActAllByHand(t *testing.T) {
	for name, s := range ringSessions(t) {
		l := []impl.Ev{
			{Kind: impl.EvFull}, {}, {Kind: impl.EvSteps, N: 99}, {Kind: impl.EvOp, Op: impl.Op{Kind: impl.OpSet, I: 1, V: 7}}, {Kind: 8}, {Kind: impl.EvOp, Op: impl.Op{Kind: 10}},
			{Kind: impl.EvDelta}, {Kind: impl.EvStart}, {Kind: impl.EvStart}, {Kind: impl.EvSteps, N: -1}, {Kind: impl.EvMove, Base: 64, Pages: 1}, {Kind: impl.EvMove, Base: 1, Pages: 4},
			{Kind: impl.EvOp, Op: impl.Op{Kind: impl.OpSet, I: 1, V: 8}}, {Kind: impl.EvOp, Op: impl.Op{Kind: impl.OpGet, I: 0}}, {Kind: impl.EvOp, Op: impl.Op{Kind: impl.OpGet, I: 1}},
			{Kind: impl.EvCrash, N: 999999}, {Kind: impl.EvOp, Op: impl.Op{Kind: impl.OpGet, I: 1}}, {Kind: impl.EvMove, Base: 320, Pages: 5}, {Kind: impl.EvDelta}, {Kind: impl.EvFull}, {Kind: -1},
			{Kind: impl.EvOp, Op: impl.Op{Kind: impl.OpGet, I: 1}}, {Kind: impl.EvOp, Op: impl.Op{Kind: impl.OpAlloc, N: 17}},
		}
		want := []impl.Ans{{}, code(1), {}, {}, code(1), code(1), {}, {}, code(1), code(3), code(5), code(3), {}, code(4), {Val: 8}, {Val: s.Log.Gen + 2}, {Val: 7}, {}, code(1), {}, code(1), {Val: 7}, code(3)}
		got, answers := impl.ActAll(s, l)
		if !slices.Equal(answers, want) {
			t.Errorf("%s: ActAll answers\n%v, want\n%v", name, answers, want)
		}
		wantList(t, name, []int{got.W.Base, got.W.Pages, got.Log.Gen, got.W.Gc.Phase, got.W.Words[1]}, 320, 5, 1, impl.PhOff, 7)
		wantSession(t, name, wantAll(t, name, s, l), got)
		wantIsSession(t, name, got)
	}
}

func TestActAllOfAThousand(t *testing.T) {
	for name, s := range ringSessions(t) {
		for _, none := range [][]impl.Ev{nil, {}} {
			got, answers := impl.ActAll(s, none)
			if wantSession(t, name, got, s); len(answers) != 0 {
				t.Errorf("%s: ActAll of none answers %v", name, answers)
			}
		}
		ops, want := aThousand(0)
		l := make([]impl.Ev, 1000, 1001)
		for i, op := range ops {
			l[i] = impl.Ev{Kind: impl.EvOp, Op: op}
		}
		l[10], want[10], want[11] = impl.Ev{Kind: impl.EvStart}, impl.Ans{}, impl.Ans{Val: 8}
		if s.W.Gc.Phase != impl.PhOff {
			want[10] = code(impl.AnForm)
		}
		got, answers := impl.ActAll(s, l)
		if !slices.Equal(answers, want) || got.W.Words[1] != 998 || got.Log != s.Log {
			t.Errorf("%s: a thousand: %v, and %d", name, answers, got.W.Words[1])
		}
		for _, many := range [][]impl.Ev{append(l, impl.Ev{Kind: impl.EvFull}), make([]impl.Ev, 1001), make([]impl.Ev, 5000)} {
			got, answers := impl.ActAll(s, many)
			if wantZeroSession(t, name+": ActAll", got); len(answers) != 0 {
				t.Errorf("%s: %d events are answered", name, len(many))
			}
		}
		got, answers = impl.ActAll(s, make([]impl.Ev, 1000))
		if wantSession(t, name, got, s); !slices.Equal(answers, slices.Repeat([]impl.Ans{code(impl.AnForm)}, 1000)) {
			t.Errorf("%s: a thousand of none: %v", name, answers)
		}
	}
}

// A thousand records, and crashes among them.
func TestAThousandRecords(t *testing.T) {
	s, _ := impl.SessionNew(64, 1, 1)
	var l []impl.Ev
	gen, gens := 0, []int{}
	for i := range 1000 {
		switch e := (impl.Ev{Kind: impl.EvDelta}); {
		case i == 0:
			l, gen = append(l, impl.Ev{Kind: impl.EvFull}), 1
		case i%100 == 99:
			l = append(l, impl.Ev{Kind: impl.EvCrash, N: 999999})
		default:
			l, gen = append(l, e), gen+1
		}
		gens = append(gens, gen)
	}
	got, answers := impl.ActAll(s, l)
	for i, answer := range answers {
		if want := (impl.Ans{Val: map[bool]int{true: gens[i]}[l[i].Kind == impl.EvCrash]}); answer != want {
			t.Fatalf("event %d answers %+v, want %+v", i, answer, want)
		}
	}
	wantList(t, "records", []int{len(answers), got.Log.Gen}, 1000, 990)
	wantIsSession(t, "a thousand", got)
	half, answer := impl.Act(got, impl.Ev{Kind: impl.EvCrash, N: len(got.Log.Bytes) / 2})
	if answer.Val != half.Log.Gen || half.Log.Gen < 480 || half.Log.Gen > 510 {
		t.Errorf("half of it has %d records", answer.Val)
	}
}

func TestSessionMemory(t *testing.T) {
	for name, s := range ringSessions(t) {
		wantUnwritten(t, name, s, func(s impl.Session) {
			impl.SessionOk(s)
			for _, e := range slices.Concat(someEvents(), []impl.Ev{{Kind: impl.EvOp, Op: impl.Op{Kind: impl.OpStore, M: 2, H: 4, I: 2, G: 5}}, {Kind: impl.EvMove, Base: 64, Pages: 4}, {Kind: impl.EvCrash, N: 700}}) {
				a, answer := impl.Act(s, e)
				b, same := impl.Act(s, e)
				if wantOwnMemory(t, fmt.Sprintf("%s: %+v", name, e), s, a, b); !reflect.DeepEqual(a, b) || answer != same {
					t.Errorf("%s: %+v answers once so, once so", name, e)
				}
				wantOwnBytes(t, name, s.Log.Bytes, a.Log.Bytes)
			}
			impl.Act(impl.Session{W: s.W, Log: impl.Log{Any: true}}, impl.Ev{Kind: impl.EvFull})
		})
		for _, l := range [][]impl.Ev{nil, someEvents()[:7], someEvents()} {
			wantUnwritten(t, name, s, func(s impl.Session) {
				wantUnwritten(t, name, l, func(l []impl.Ev) {
					a, answersA := impl.ActAll(s, l)
					b, answersB := impl.ActAll(s, l)
					wantOwnMemory(t, name+": ActAll", s, l, a, answersA, b, answersB)
					wantOwnBytes(t, name, s.Log.Bytes, a.Log.Bytes)
				})
			})
		}
	}
}

// wantOwnBytes fails if b is in the memory of a.
func wantOwnBytes(t *testing.T, what string, a string, b string) {
	t.Helper()
	from := uintptr(unsafe.Pointer(unsafe.StringData(a)))
	at := uintptr(unsafe.Pointer(unsafe.StringData(b)))
	if b != "" && at >= from && at < from+uintptr(len(a)) {
		t.Errorf("%s: the bytes of the Log share memory", what)
	}
}

// witness is a Session beside objects without memory, with those there were behind
// each record that is in the Log.
type witness struct {
	s      impl.Session
	g      impl.Graph
	list   []impl.Graph
	behind []int
	events []impl.Ev
	all    []impl.Ans
}

func newWitness(t *testing.T, rnd *rand.Rand) *witness {
	t.Helper()
	muts := 1 + rnd.Intn(3)
	s, ok := impl.SessionNew(32*(1+rnd.Intn(9)), 1+rnd.Intn(6), muts)
	g, is := impl.GraphNew(muts)
	if !ok || !is {
		t.Fatal("there is no Session")
	}
	return &witness{s: s, g: g}
}

// act does e to the Session, and to the objects what it should be to them.
func (w *witness) act(t *testing.T, what string, e impl.Ev) impl.Ans {
	t.Helper()
	ahead := w.s
	next, answer := impl.Act(w.s, e)
	if e.Kind > 0 && e.Kind < 8 {
		w.s = next
	}
	if w.events, w.all = append(w.events, e), append(w.all, answer); answer.Code == impl.AnMemory && e.Kind == impl.EvOp {
		wantNoRoomJustly(t, ahead.W, e.Op.N)
	}
	want := impl.Ans{Code: answer.Code}
	switch {
	case e.Kind == impl.EvOp && answer.Code != impl.AnMemory:
		want = modelGraphDo(&w.g, e.Op)
	case answer.Code != impl.AnOk:
	case e.Kind == impl.EvMove:
		w.list, w.behind = nil, nil
	case e.Kind == impl.EvFull || e.Kind == impl.EvDelta:
		w.list, w.behind = append(w.list, roomy(w.g)), append(w.behind, len(w.s.Log.Bytes))
	case e.Kind == impl.EvCrash:
		want.Val = w.crash(e.N)
	}
	if answer != want {
		t.Fatalf("%s: %+v answers %+v, want %+v", what, e, answer, want)
	}
	if answer.Code != impl.AnOk && !same(w.s, ahead) {
		t.Fatalf("%s: %+v is refused, but changes something", what, e)
	}
	w.want(t, fmt.Sprintf("%s: %+v", what, e))
	return answer
}

// crash tells how many of the records are whole, and goes back to the objects behind the last of them.
func (w *witness) crash(n int) int {
	count := 0
	for count < len(w.behind) && w.behind[count] <= n {
		count++
	}
	w.list, w.behind = w.list[:count], w.behind[:count]
	w.g, _ = impl.GraphNew(len(w.g.Muts))
	if count > 0 {
		w.g = roomy(w.list[count-1])
	}
	return count
}

// want fails if what can be got at is not what it should be.
func (w *witness) want(t *testing.T, what string) {
	t.Helper()
	if !impl.SessionOk(w.s) {
		t.Fatalf("%s: not SessionOk", what)
	}
	if is := impl.GraphOf(w.s.W); !impl.SameGraph(is, modelTrim(w.g)) {
		t.Fatalf("%s: there is\n%+v, want\n%+v", what, is, modelTrim(w.g))
	}
}

// randomEvent is mostly one that is not refused.
func randomEvent(rnd *rand.Rand, s impl.Session) impl.Ev {
	bytes := len(s.Log.Bytes)
	switch rest := rnd.Intn(40); {
	case rest < 3 && s.W.Gc.Phase == impl.PhOff || rest == 0:
		return impl.Ev{Kind: impl.EvStart}
	case rest < 8:
		return impl.Ev{Kind: impl.EvSteps, N: []int{0, 1, 1, 1, 2, 3, 10, -1, 10000, 10001}[rnd.Intn(10)]}
	case rest == 8:
		return impl.Ev{Kind: impl.EvMove, Base: 32 * rnd.Intn(40), Pages: max(1, len(s.W.Spans)) + rnd.Intn(5) - 1}
	case rest < 10 || rest < 13 && !s.Log.Any:
		return impl.Ev{Kind: impl.EvFull}
	case rest < 14:
		return impl.Ev{Kind: impl.EvDelta}
	case rest == 14:
		return impl.Ev{Kind: impl.EvCrash, N: []int{rnd.Intn(bytes + 1), rnd.Intn(bytes + 1), bytes, bytes - 1, 999999, -1}[rnd.Intn(6)]}
	case rest == 15 && rnd.Intn(3) == 0:
		return impl.Ev{Kind: []int{0, 8, -1}[rnd.Intn(3)]}
	}
	return impl.Ev{Kind: impl.EvOp, Op: randomOp(rnd, s.W, []int{2, 9, 16}[rnd.Intn(3)])}
}

// However one goes round, writes down, moves and crashes in between, answers are those of objects without memory.
func TestSessionsBesideObjectsWithoutMemory(t *testing.T) {
	done := map[[2]int]int{}
	for seed := range 250 {
		rnd := rand.New(rand.NewSource(int64(seed)))
		w := newWitness(t, rnd)
		first, what := w.s, fmt.Sprintf("seed %d", seed)
		for range 150 {
			e, phase := randomEvent(rnd, w.s), w.s.W.Gc.Phase
			answer := w.act(t, what, e)
			done[[2]int{e.Kind, answer.Code}]++
			if answer.Code == impl.AnOk {
				done[[2]int{e.Kind + 10, phase}]++
			}
		}
		got, answers := impl.ActAll(first, w.events)
		if wantSession(t, what+": ActAll", got, w.s); !slices.Equal(answers, w.all) {
			t.Fatalf("%s: ActAll answers\n%v, want\n%v", what, answers, w.all)
		}
	}
	wantEachDone(t, done)
}

// wantEachDone fails if an event did not have a code often, or was not done often in a phase.
func wantEachDone(t *testing.T, done map[[2]int]int) {
	t.Helper()
	for kind, codes := range map[int][]int{
		impl.EvOp: {0, 1, 2, 3, 4, 5}, impl.EvStart: {0, 1}, impl.EvSteps: {0, 3}, impl.EvMove: {0, 3, 5}, impl.EvFull: {0}, impl.EvDelta: {0, 1}, impl.EvCrash: {0},
	} {
		for _, code := range codes {
			if done[[2]int{kind, code}] < 20 {
				t.Errorf("event %d had code %d but %d times", kind, code, done[[2]int{kind, code}])
			}
		}
		for phase := impl.PhOff; phase <= impl.PhSweep; phase++ {
			if kind != impl.EvStart && done[[2]int{kind + 10, phase}] < 20 {
				t.Errorf("event %d was done but %d times in phase %d", kind, done[[2]int{kind + 10, phase}], phase)
			}
		}
	}
}

// A crash at each number of bytes, of what was written at random moments.
func TestRandomSessionsCutOffAnywhere(t *testing.T) {
	for seed := range 15 {
		rnd := rand.New(rand.NewSource(int64(seed)))
		w, what := newWitness(t, rnd), fmt.Sprintf("seed %d", seed)
		for len(w.behind) < 6 {
			if e := randomEvent(rnd, w.s); e.Kind != impl.EvCrash && e.Kind != impl.EvMove {
				w.act(t, what, e)
			}
		}
		for _, n := range cutsOf(w.s.Log.Bytes) {
			other := *w
			other.act(t, what, impl.Ev{Kind: impl.EvCrash, N: n})
		}
	}
}

// From any moment on, with a Log of another one, each event is what the chapter says.
func TestSessionsFromAnyMoment(t *testing.T) {
	written := 0
	for seed := range 150 {
		rnd := rand.New(rand.NewSource(int64(seed)))
		s, what := impl.Session{W: anyMoment(t, rnd)}, fmt.Sprintf("seed %d", seed)
		if rnd.Intn(4) > 0 {
			muts := slices.Clone(s.W.Muts)
			other, code := impl.Move(anyMoment(t, rnd), 32, s.W.Pages)
			if other.Muts = append(other.Muts, muts...)[:len(muts)]; code == impl.ImOk && len(wrongIn(other)) == 0 {
				s.Log = logOf(fullOf(other), fullOf(s.W))
				written++
			}
		}
		for range 12 {
			e := randomEvent(rnd, s)
			want, answer := actByDefinition(s, e)
			if next := wantAct(t, what, s, e, answer.Code); sessionByDefinition(want) {
				s = next
			}
		}
	}
	if written < 30 {
		t.Errorf("but %d had a Log", written)
	}
}
