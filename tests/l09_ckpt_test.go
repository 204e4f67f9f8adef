package tests

import (
	"fmt"
	"math"
	"math/rand"
	"reflect"
	"slices"
	"strings"
	"testing"

	"loop.example/g00690/impl"
)

// rec is a record by its parts.
type rec struct {
	tag   int
	gen   int
	ahead int
	told  string
}

func (r rec) body() string { return put(r.gen) + putWordByDefinition(r.ahead) + r.told }

func (r rec) sum() int { return crcByDefinition(r.body()) }

func (r rec) bytes() string { return sectionByDefinition(r.tag, r.body()) }

func fullOf(w impl.World) rec { return rec{tag: 70, told: imageOf(imageNumbers(w))} }

func deltaOf(w impl.World, cards ...int) rec {
	return rec{tag: 68, told: sectionsOf(bodiesOf(deltaNumbers(w, cards))...)}
}

// deltaNumbers are the numbers of the four sections of a delta.
func deltaNumbers(w impl.World, cards []int) [4][]int {
	round, spans, leads := metaNumbers(w)
	return [4][]int{round, spans, leads, cardNumbers(w, cards)}
}

// chained is a copy of list in which each one has the generation and the word that it should have.
func chained(list ...rec) []rec {
	list = slices.Clone(list)
	for i := range list {
		list[i].gen, list[i].ahead = i+1, 0
		if i > 0 {
			list[i].ahead = list[i-1].sum()
		}
	}
	return list
}

func bytesOf(list ...rec) string {
	var s strings.Builder
	for _, r := range list {
		s.WriteString(r.bytes())
	}
	return s.String()
}

// shifted is w at another base, with all that should be an address as far on as
// that: what is not right in w is not right then either.
func shifted(w impl.World, base int) impl.World {
	next := roomy(w)
	turn := func(list []int) {
		for i, n := range list {
			if n == 0 {
				continue
			}
			if list[i] = n + base - w.Base; list[i] == 0 {
				list[i] = -1
			}
		}
	}
	next.Base = base
	turn(next.Gc.Grey)
	for m := range next.Muts {
		turn(next.Muts[m].Roots)
	}
	if impl.FormOk(w) {
		eachObject(w, func(k int, slot int, first int, _ bool) { turn(next.Words[first : first+w.Spans[k].Ptrs[slot]]) })
	}
	return next
}

func clean(w impl.World) impl.World {
	next := roomy(w)
	clear(next.Dirty)
	return next
}

// sectionNumbers are the numbers of the four sections of which s is made, if it is.
func sectionNumbers(s string) ([4][]int, bool) {
	var lists [4][]int
	at := 0
	for i, tag := range imageTags {
		section := getSectionByDefinition(s, at)
		if section.code != impl.ByOk || section.tag != tag {
			return lists, false
		}
		for from := 0; from < len(section.body); {
			n, next, ok := getIntByDefinition(section.body, from)
			if !ok {
				return lists, false
			}
			lists[i], from = append(lists[i], n), next
		}
		at = section.next
	}
	return lists, at == len(s)
}

// readDeltaByDefinition puts together word by word what a delta tells and what w was.
func readDeltaByDefinition(w impl.World, body string) (impl.World, bool) {
	lists, whole := sectionNumbers(body)
	if !whole || w.Base != 32 || !impl.FormOk(w) || len(wrongIn(w)) > 0 {
		return impl.World{}, false
	}
	x, is := shapeByDefinition(lists)
	if !is || x.Pages != w.Pages || len(x.Muts) != len(w.Muts) {
		return impl.World{}, false
	}
	told := make([]bool, 4*x.Pages)
	for i, last := 0, -1; i < len(lists[3]); i += 9 {
		card := lists[3][i]
		if len(lists[3])-i < 9 || card <= last || card >= 4*x.Pages {
			return impl.World{}, false
		}
		copy(x.Words[8*card:8*card+8], lists[3][i+1:])
		told[card], last = true, card
	}
	for _, s := range x.Spans {
		for at := 32 * s.Page; at < 32*s.Page+32; at++ {
			if !told[at/8] {
				x.Words[at] = w.Words[at]
			}
		}
	}
	eachObject(x, func(k int, slot int, first int, doomed bool) {
		for i := range x.Spans[k].Lens[slot] {
			if at := first + i; doomed {
				x.Words[at] = 0
			} else if i < x.Spans[k].Ptrs[slot] && told[at/8] {
				x.Words[at] = addrByDefinition(x, x.Words[at])
			}
		}
	})
	if !impl.FormOk(x) || len(wrongIn(x)) > 0 {
		return impl.World{}, false
	}
	var cards []int
	for card, is := range told {
		if is {
			cards = append(cards, card)
		}
	}
	return x, deltaOf(x, cards...).told == body
}

// recoverByDefinition reads record by record.
func recoverByDefinition(s string) (impl.Found, int) {
	var found impl.Found
	for {
		section := getSectionByDefinition(s, found.At)
		gen, next, ok := getIntByDefinition(section.body, 0)
		if section.code != impl.ByOk || !ok || gen != found.Gen+1 || !strings.HasPrefix(section.body[next:], putWordByDefinition(found.Last)) {
			break
		}
		var w impl.World
		told, is := section.body[next+4:], false
		if lists, whole := sectionNumbers(strings.TrimPrefix(told, "BRM1")); whole && section.tag == 70 && strings.HasPrefix(told, "BRM1") {
			w, is = worldByDefinition(lists)
		}
		if section.tag == 68 && found.Count > 0 {
			w, is = readDeltaByDefinition(found.W, told)
		}
		if !is {
			break
		}
		found = impl.Found{W: w, Gen: gen, Last: crcByDefinition(section.body), Count: found.Count + 1, At: section.next}
	}
	if found.Count == 0 {
		return impl.Found{}, impl.RcNone
	}
	return found, impl.RcOk
}

// wantDelta holds ReadDelta against the definition, and tells whether there is a World.
func wantDelta(t *testing.T, what string, w impl.World, body string) bool {
	t.Helper()
	want, is := readDeltaByDefinition(w, body)
	if !is {
		want = impl.World{}
	}
	got, ok := impl.ReadDelta(w, body)
	if ok != is {
		t.Errorf("%s: ReadDelta = %v, want %v", what, ok, is)
	}
	if !is {
		wantZero(t, what+": ReadDelta", got)
		return false
	}
	wantWorld(t, what+": ReadDelta", got, want)
	wantWrong(t, what+": ReadDelta", got)
	return true
}

func wantNoDelta(t *testing.T, what string, w impl.World, body string) {
	t.Helper()
	if wantDelta(t, what, w, body) {
		t.Errorf("%s: the definition takes it", what)
	}
}

// wantFound holds Recover against the definition, and wants so many records.
func wantFound(t *testing.T, what string, s string, count int) impl.Found {
	t.Helper()
	want, code := recoverByDefinition(s)
	got, is := impl.Recover(s)
	if want.Count != count || is != code || got.Count != count || got.At != want.At || got.Gen != want.Gen || got.Last != want.Last {
		t.Errorf("%s: Recover tells %d: %d, %d, %d, %d, want %d records: %d, %d, %d, %d", what, is, got.Count, got.At, got.Gen, got.Last, count, want.Count, want.At, want.Gen, want.Last)
	}
	if count == 0 {
		if is != impl.RcNone || !reflect.DeepEqual(got, impl.Found{}) {
			t.Errorf("%s: Recover = %+v, %d, want nothing", what, got, is)
		}
		return got
	}
	wantWorld(t, what+": Recover", got.W, want.W)
	wantWrong(t, what+": Recover", got.W)
	return got
}

// wantRecord holds what LogFull or LogDelta answered for l and w against r, which
// is put behind.
func wantRecord(t *testing.T, what string, l impl.Log, w impl.World, r rec, got impl.Log, back impl.World, ok bool) {
	t.Helper()
	if r.gen = l.Gen + 1; l.Any {
		r.ahead = l.Last
	}
	want := impl.Log{Bytes: l.Bytes + r.bytes(), Gen: r.gen, Last: r.sum(), Any: true}
	if got != want || !ok {
		t.Errorf("%s = %#v, %v, want\n%#v, true", what, got, ok, want)
	}
	wantWorld(t, what, back, clean(w))
}

// wantLogged holds LogFull and LogDelta against chapter 9, where they take l and w.
func wantLogged(t *testing.T, what string, l impl.Log, w impl.World) {
	t.Helper()
	full, x, ok := impl.LogFull(l, w)
	wantRecord(t, what+": LogFull", l, w, fullOf(w), full, x, ok)
	if !l.Any {
		wantNoDeltaLogged(t, what, l, w)
		return
	}
	delta, y, is := impl.LogDelta(l, w)
	wantRecord(t, what+": LogDelta", l, w, deltaOf(w, dirtyCards(w)...), delta, y, is)
}

func wantNoDeltaLogged(t *testing.T, what string, l impl.Log, w impl.World) {
	t.Helper()
	got, back, ok := impl.LogDelta(l, w)
	if wantZero(t, what+": LogDelta", back); ok || got != (impl.Log{}) {
		t.Errorf("%s: LogDelta of %#v = %#v, %v, want nothing", what, l, got, ok)
	}
}

func wantNotLogged(t *testing.T, what string, l impl.Log, w impl.World) {
	t.Helper()
	got, back, ok := impl.LogFull(l, w)
	if wantZero(t, what+": LogFull", back); ok || got != (impl.Log{}) {
		t.Errorf("%s: LogFull of %#v = %#v, %v, want nothing", what, l, got, ok)
	}
	wantNoDeltaLogged(t, what, l, w)
}

func TestCheckpointConstants(t *testing.T) {
	wantList(t, "codes of checkpoints", []int{impl.RcOk, impl.RcNone}, 0, 1)
	if impl.LogNew() != (impl.Log{}) {
		t.Errorf("LogNew() = %#v", impl.LogNew())
	}
}

// TestRecordsByHand has records byte by byte; the sums were worked out apart from this program.
func TestRecordsByHand(t *testing.T) {
	meta := "G\x08\x02\x00\x00\x02\x8d\x63\x31\x33"
	first := "F\x5a\x02\x00\x00\x00\x00BRM1" + meta + "S\x02\x00\xb1\xf7\x40\x4b" +
		"R\x0e\x00\x00\x00\x00\x00\x00\x00\x7e\xfb\x36\xb9" + "W\x00\x00\x00\x00\x00" + "\x7b\x1c\xf7\x39"
	rest := meta + "S\x4a\x02\x00\x00\x00\x00\x04\x02" + strings.Repeat("\x00", 30) + "\x83\x77\xdf\x42" +
		"R\x0e\x02\x00\x00\x00\x00\x00\x00\xe0\x55\xe6\x9b"
	second := "D\xac\x01\x04\x7b\x1c\xf7\x39" + rest + "W\x12\x00\x02\x05\x00\x00\x00\x00\x00\x00\xb4\xa0\xfc\x11" + "\xbf\x6f\x39\x82"
	third := "D\x9a\x01\x06\xbf\x6f\x39\x82" + rest + "W\x00\x00\x00\x00\x00" + "\x30\x30\x05\x50"
	l, w, ok := impl.LogFull(impl.LogNew(), newWorld(t, 320, 1, 1))
	if want := (impl.Log{Bytes: first, Gen: 1, Last: 2065495865, Any: true}); !ok || l != want {
		t.Errorf("LogFull = %#v, %v, want\n%#v", l, ok, want)
	}
	w, _ = impl.DoAll(w, []impl.Op{{Kind: 1, N: 2, V: 1}, {Kind: 3}, {Kind: 4, I: 1, V: -3}})
	l, w, ok = impl.LogDelta(l, w)
	if want := (impl.Log{Bytes: first + second, Gen: 2, Last: 3211737474, Any: true}); !ok || l != want {
		t.Errorf("LogDelta = %#v, %v, want\n%#v", l, ok, want)
	}
	l, w, ok = impl.LogDelta(l, w)
	if want := (impl.Log{Bytes: first + second + third, Gen: 3, Last: 808453456, Any: true}); !ok || l != want {
		t.Errorf("LogDelta = %#v, %v, want\n%#v", l, ok, want)
	}
	found, code := impl.Recover(l.Bytes)
	w.Base, w.Words[0], w.Muts[0].Roots[0] = 32, 32, 32
	if want := (impl.Found{W: w, Gen: 3, Last: 808453456, Count: 3, At: 228}); code != impl.RcOk || !same(found, want) {
		t.Errorf("Recover = %+v, %d, want\n%+v", found, code, want)
	}
	l, ok = impl.Compact(impl.Log{Bytes: first + "behind", Gen: -7})
	if want := (impl.Log{Bytes: first, Gen: 1, Last: 2065495865, Any: true}); !ok || l != want {
		t.Errorf("Compact = %#v, %v, want\n%#v", l, ok, want)
	}
}

// someLogs are Logs behind which there may be another record.
func someLogs() []impl.Log {
	return []impl.Log{
		{},
		{Bytes: "F", Any: true},
		{Bytes: strings.Repeat("\xff\x00", 400), Gen: 7, Last: 0xdeadbeef, Any: true},
		{Gen: 4, Last: 9},
		{Gen: 4, Last: 9, Any: true},
		{Gen: 1000000, Last: 4294967295},
		{Bytes: "x", Gen: 1000000, Last: 4294967295, Any: true},
	}
}

func TestLogsInEachPhase(t *testing.T) {
	for name, w := range ringWorlds(t) {
		for _, base := range []int{32, 64, 96, impl.MaxBase} {
			at := shifted(w, base)
			for _, l := range someLogs() {
				clear(at.Dirty)
				wantLogged(t, name, l, at)
				at.Dirty[0], at.Dirty[9], at.Dirty[15] = true, true, true
				wantLogged(t, name+", dirty", l, at)
			}
		}
	}
	for _, m := range slices.Concat(rightMoments(), rightMomentsOfMarks()) {
		w := ringWorlds(t)[m.world]
		m.change(&w)
		for _, l := range someLogs() {
			wantLogged(t, m.world+", "+m.what, l, w)
		}
	}
}

// What comes back is what was given, with the words of what is Doomed, but for what is Dirty.
func TestWhatComesBackIsTheSame(t *testing.T) {
	w := ringWorlds(t)["sweep"]
	l, x, _ := impl.LogFull(impl.LogNew(), w)
	wantWorld(t, "LogFull", x, w)
	for i := range w.Dirty {
		w.Dirty[i] = true
	}
	l, x, _ = impl.LogDelta(l, w)
	if wantDirty(t, x); !impl.Doomed(x, lost) || x.Words[lost-64+15] != ringA {
		t.Errorf("the words are %v", x.Words)
	}
	clear(w.Dirty)
	wantWorld(t, "LogDelta", x, w)
	_, y, _ := impl.LogDelta(l, x)
	wantWorld(t, "LogDelta of nothing Dirty", y, w)
}

func TestLogsOfDirtyCards(t *testing.T) {
	l := impl.Log{Bytes: "x", Gen: 3, Last: 5, Any: true}
	for name, w := range ringWorlds(t) {
		clear(w.Dirty)
		wantLogged(t, name+", nothing Dirty", l, w)
		for card := range w.Dirty {
			w.Dirty[card] = true
			wantLogged(t, fmt.Sprintf("%s, Dirty up to %d", name, card), l, w)
			alone := clean(w)
			alone.Dirty[card] = true
			wantLogged(t, fmt.Sprintf("%s, card %d Dirty", name, card), l, alone)
		}
		next, _, _ := impl.LogDelta(l, w)
		if told := deltaOf(w, upTo(12)...).told; !strings.Contains(next.Bytes, told) {
			t.Errorf("%s: all Dirty: %q is not in %q", name, told, next.Bytes)
		}
	}
}

// Cards of pages that are spans no longer are Dirty, and not told.
func TestLogsOfPagesThatAreSpansNoLonger(t *testing.T) {
	w, a := take(t, newWorld(t, 96, 3, 2), 16, 3)
	w, b := take(t, w, 3, 3)
	w, c := take(t, w, 7, 0)
	setWords(&w, b, b, 0, b)
	setWords(&w, c, -1, b)
	w.Muts[1].Roots[5] = b
	l, w, _ := impl.LogFull(impl.LogNew(), w)
	w = give(t, give(t, w, a), c)
	wantDirty(t, w, 0, 1, 8)
	wantLogged(t, "no page but one", l, w)
	l, w, _ = impl.LogDelta(l, w)
	wantDirty(t, w)
	found := wantFound(t, "no page but one", l.Bytes, 2)
	wantList(t, "pages", []int{len(found.W.Spans), found.W.Spans[0].Page}, 1, 1)
	wantList(t, "words", found.W.Words[32:36], 64, 0, 64, 0)
	if n := strings.Count(l.Bytes, sectionByDefinition(87, "")); n != 1 {
		t.Errorf("%d records tell no card, want 1", n)
	}
}

func TestLogsAtTheirEdges(t *testing.T) {
	for name, w := range ringWorlds(t) {
		w.Dirty[3] = true
		for _, bytes := range []string{"", "x", "FFF"} {
			for _, gen := range []int{math.MinInt, -1, 0, 1, 63, 64, 999999, 1000000, 1000001, 1 << 32, math.MaxInt} {
				for _, last := range []int{math.MinInt, -1, 0, 1, 4294967295, 4294967296, 1 << 33, math.MaxInt} {
					for _, any := range []bool{false, true} {
						l := impl.Log{Bytes: bytes, Gen: gen, Last: last, Any: any}
						if (bytes == "" || any) && gen >= 0 && gen <= 1000000 && last >= 0 && last <= 4294967295 {
							wantLogged(t, name, l, w)
							continue
						}
						wantNotLogged(t, name, l, w)
					}
				}
			}
		}
	}
}

func TestLogsOfMaxBytes(t *testing.T) {
	for name, w := range ringWorlds(t) {
		w.Dirty[3] = true
		for _, gen := range []int{0, 62, 63} {
			l := impl.Log{Gen: gen, Any: true}
			full, _, _ := impl.LogFull(l, w)
			delta, _, _ := impl.LogDelta(l, w)
			l.Bytes = strings.Repeat("x", 200000-len(full.Bytes))
			got, x, ok := impl.LogFull(l, w)
			wantRecord(t, name+": LogFull", l, w, fullOf(w), got, x, ok)
			l.Bytes = strings.Repeat("x", 200000-len(delta.Bytes))
			got, y, is := impl.LogDelta(l, w)
			wantRecord(t, name+": LogDelta", l, w, deltaOf(w, 3), got, y, is)
			if len(got.Bytes) != impl.MaxBytes {
				t.Errorf("%s: %d bytes", name, len(got.Bytes))
			}
			l.Bytes += "x"
			wantNotLogged(t, name+": one byte more", l, w)
			l.Bytes = strings.Repeat("x", 200001-len(full.Bytes))
			if got, _, ok := impl.LogFull(l, w); ok {
				t.Errorf("%s: LogFull answers %d bytes", name, len(got.Bytes))
			}
			for _, n := range []int{199999, 200000, 200001, 400000} {
				l.Bytes = strings.Repeat("x", n)
				wantNotLogged(t, fmt.Sprintf("%s: behind %d bytes", name, n), l, w)
			}
		}
	}
}

func TestLogsRefuseWhatIsNotRight(t *testing.T) {
	refused := func(t *testing.T, w impl.World) {
		t.Helper()
		for _, l := range someLogs() {
			wantNotLogged(t, "not right", l, w)
		}
	}
	refused(t, impl.World{})
	eachNotRight(t, refused)
}

func TestDeltasRefuseWhatIsNotRight(t *testing.T) {
	refused := func(t *testing.T, w impl.World) {
		t.Helper()
		for _, name := range []string{"off", "mark", "swept"} {
			body := deltaOf(ringWorlds(t)[name], upTo(12)...).told
			wantNoDelta(t, "not right", shifted(w, 32), body)
			wantNoDelta(t, "not right", w, body)
		}
		five := deltaOf(mixedWorld(), upTo(20)...).told
		wantNoDelta(t, "not right", shifted(w, 32), five)
	}
	refused(t, impl.World{})
	eachNotRight(t, refused)
}

// From each phase to each one, with all cards told, none, and each one alone.
func TestDeltasInEachPhase(t *testing.T) {
	right := 0
	for from, a := range ringWorlds(t) {
		for to, b := range ringWorlds(t) {
			what := from + " to " + to
			w, x := shifted(a, 32), shifted(b, 32)
			w.Dirty[1], x.Dirty[2] = true, true
			setWords(&x, ringB-32+3, 77)
			setWords(&x, big-32+4, 5, 6, 7, 8, 9)
			setWords(&x, twin-32, -1, big, 0, math.MinInt)
			if !wantDelta(t, what+", all told", w, deltaOf(x, upTo(12)...).told) || !wantDelta(t, what+", none told", w, deltaOf(x).told) {
				t.Errorf("%s: there is no World", what)
			}
			got, _ := impl.ReadDelta(w, deltaOf(x, upTo(16)...).told)
			wantWorld(t, what, got, movedByDefinition(x, 32, 4))
			wantZero(t, what+", at another base", first(impl.ReadDelta(a, deltaOf(b, upTo(12)...).told)))
			for card := range 12 {
				if wantDelta(t, fmt.Sprintf("%s, card %d told", what, card), w, deltaOf(x, card).told) {
					right++
				}
			}
			wantDelta(t, what+", what differs told", w, deltaOf(x, 0, 1, 8, 9).told)
		}
	}
	if right < 700 {
		t.Errorf("but %d were taken", right)
	}
}

func first[A any, B any](a A, _ B) A { return a }

// delta is what a World at base 32 becomes behind one of ringWorlds, which cards are
// told of it, and whether it is taken.
type delta struct {
	what   string
	from   string
	change func(w *impl.World)
	cards  []int
	right  bool
}

// withoutSpan takes span number k of w away, with all that leads there.
func withoutSpan(w *impl.World, k int) {
	from := w.Base + 32*w.Spans[k].Page
	turn := func(list []int) {
		for i, addr := range list {
			if addr >= from && addr < from+32 {
				list[i] = 0
			}
		}
	}
	for m := range w.Muts {
		turn(w.Muts[m].Roots)
	}
	eachObject(*w, func(k int, slot int, first int, _ bool) { turn(w.Words[first : first+w.Spans[k].Ptrs[slot]]) })
	clear(w.Words[from-w.Base : from-w.Base+32])
	w.Spans = slices.Delete(slices.Clone(w.Spans), k, k+1)
}

// withSpan puts a span of that class with one object of n words, p of them pointers, at page 3.
func withSpan(w *impl.World, class int, n int, p int, words ...int) {
	slots := []int{16, 8, 4, 2}[class]
	s := impl.Span{Page: 3, Class: class, Lens: make([]int, slots), Ptrs: make([]int, slots)}
	s.Lens[slots-1], s.Ptrs[slots-1] = n, p
	w.Spans = append(slices.Clone(w.Spans), s)
	copy(w.Words[128-32/slots:], words)
}

// deltasOfSpans are about spans that were not there, that are there no longer, and of another class.
// At base 32 the leaf is at 64, the self at 66, the alone at 68, the big at 96, the lost at 112.
func deltasOfSpans() []delta {
	other := func(w *impl.World) {
		withoutSpan(w, 2)
		w.Spans = append(w.Spans, impl.Span{Page: 2, Class: 0, Lens: make([]int, 16), Ptrs: make([]int, 16)})
		w.Spans[2].Lens[15], w.Spans[2].Ptrs[15] = 2, 1
		w.Words[94], w.Words[95] = 64, 9
	}
	return []delta{
		{"the last span is there no longer", "off", func(w *impl.World) { withoutSpan(w, 2) }, nil, true},
		{"the last span is there no longer, its cards told", "off", func(w *impl.World) { withoutSpan(w, 2) }, []int{8, 9, 10, 11}, true},
		{"the first span is there no longer", "off", func(w *impl.World) { withoutSpan(w, 0) }, []int{11}, true},
		{"the first span is there no longer, but led to", "off", func(w *impl.World) { withoutSpan(w, 0) }, nil, false},
		{"the first span is there no longer, all told", "off", func(w *impl.World) { withoutSpan(w, 0) }, upTo(16), true},
		{"the first span is there no longer, in swept", "swept", func(w *impl.World) { withoutSpan(w, 0) }, nil, true},
		{"the span in the midst is there no longer", "off", func(w *impl.World) { withoutSpan(w, 1) }, []int{0, 8, 10}, true},
		{"the span in the midst is there no longer, but led to", "off", func(w *impl.World) { withoutSpan(w, 1) }, []int{0, 10}, false},
		{"no span is there any longer", "off", func(w *impl.World) { withoutSpan(w, 0); withoutSpan(w, 0); withoutSpan(w, 0) }, upTo(16), true},
		{"a span that was not there", "off", func(w *impl.World) { withSpan(w, 3, 16, 2, 112, 32, -5) }, []int{14}, true},
		{"a span that was not there, more told", "off", func(w *impl.World) { withSpan(w, 3, 16, 2, 112, 32, -5) }, []int{12, 13, 14, 15}, true},
		{"a span that was not there, of which nothing is told", "off", func(w *impl.World) { withSpan(w, 2, 8, 8) }, nil, true},
		{"a span that was not there, without a used slot", "off", func(w *impl.World) { withSpan(w, 1, 0, 0) }, nil, true},
		{"a span that was not there leads nowhere", "off", func(w *impl.World) { withSpan(w, 0, 2, 2, 0, 34) }, []int{15}, false},
		{"a span that was not there, for one that was", "off", func(w *impl.World) { withoutSpan(w, 0); withSpan(w, 3, 9, 3, 64, 0, 112, 32) }, []int{11, 14}, true},
		{"a span of another class", "off", other, []int{8, 9, 10, 11}, true},
		{"a span of another class, with what was there", "off", other, []int{9, 10, 11}, false},
		{"a span of another class, where nothing was in between", "off", other, []int{8, 10, 11}, true},
		{"a span of another class, with a word that was there", "off", func(w *impl.World) { other(w); w.Words[94], w.Words[95] = 0, 32 }, []int{8, 9, 10}, true},
	}
}

// deltasOfObjects are about objects that were not there, are there no longer, or are other ones.
func deltasOfObjects() []delta {
	gone := func(w *impl.World) {
		w.Spans[1].Lens[2], w.Spans[1].Ptrs[2] = 0, 0
		w.Words[82] = 0
	}
	twinGone := func(w *impl.World) {
		w.Spans[0].Lens[3], w.Muts[0].Roots[2] = 0, 0
		clear(w.Words[12:16])
	}
	longer := func(w *impl.World) { w.Spans[0].Lens[0], w.Words[3] = 4, 19 }
	shorter := func(w *impl.World) { w.Spans[0].Lens[0], w.Words[2] = 2, 0 }
	return []delta{
		{"nothing is another one", "off", func(*impl.World) {}, nil, true},
		{"nothing is another one, and all told", "off", func(*impl.World) {}, upTo(12), true},
		{"a root", "off", func(w *impl.World) { w.Muts[1].Roots[3] = 112 }, nil, true},
		{"a root that leads nowhere", "off", func(w *impl.World) { w.Muts[1].Roots[3] = 113 }, nil, false},
		{"a number", "off", func(w *impl.World) { w.Words[14] = 64 }, []int{1}, true},
		{"a pointer", "off", func(w *impl.World) { w.Words[5] = 112 }, []int{0}, true},
		{"a pointer that leads nowhere", "off", func(w *impl.World) { w.Words[5] = 114 }, []int{0}, false},
		{"an object is there no longer", "off", gone, []int{10}, true},
		{"an object is there no longer, but led to", "off", gone, nil, false},
		{"an object with words is there no longer", "off", twinGone, []int{1}, true},
		{"an object is there no longer, but its words", "off", twinGone, nil, false},
		{"an object is longer", "off", longer, []int{0}, true},
		{"an object is longer, and what was behind it stays", "off", func(w *impl.World) { w.Spans[0].Lens[0] = 4 }, nil, true},
		{"an object is shorter", "off", shorter, []int{0}, true},
		{"an object is shorter, but its words", "off", shorter, nil, false},
		{"an object that was not there", "off", func(w *impl.World) { w.Spans[1].Lens[9] = 2; w.Words[50] = 3; w.Words[51] = -3 }, []int{6}, true},
		{"an object that was not there, its words not told", "off", func(w *impl.World) { w.Spans[1].Lens[9], w.Spans[1].Ptrs[9] = 2, 2 }, nil, true},
		{"a number that is an address becomes a pointer", "off", func(w *impl.World) { w.Spans[0].Ptrs[3] = 1 }, nil, true},
		{"a number that is none becomes a pointer", "off", func(w *impl.World) { w.Spans[0].Ptrs[3] = 2 }, nil, false},
		{"a pointer becomes a number", "off", func(w *impl.World) { w.Spans[0].Ptrs[1] = 2 }, nil, true},
		{"a pointer becomes a number, and is told", "off", func(w *impl.World) { w.Spans[0].Ptrs[1] = 2 }, []int{0}, true},
		{"a word behind an object", "off", func(w *impl.World) { w.Words[3] = 1 }, []int{0}, false},
		{"a word of a slot that is not used", "off", func(w *impl.World) { w.Words[63] = 1 }, []int{7}, false},
	}
}

// deltasOfPhases are about what is marked, in Grey, Swept and Doomed.
func deltasOfPhases() []delta {
	lists := map[string]string{"off": "sweep", "sweep": "off", "mark": "sweep", "term": "swept"}
	var list []delta
	for from, to := range lists {
		change := func(w *impl.World) {
			w.Gc = impl.Gc{}
			for k := range w.Spans {
				w.Spans[k].Mark, w.Spans[k].Swept = 0, false
			}
			if to == "off" {
				return
			}
			w.Gc.Phase = impl.PhSweep
			setMarks(w, 32, 36, 40, 44, 64, 66, 96)
			if to == "swept" {
				w.Spans[0].Mark, w.Spans[0].Swept = 0, true
			}
		}
		for _, cards := range [][]int{nil, {4}, {10, 11}, {4, 10, 11}, upTo(12)} {
			list = append(list, delta{to, from, change, cards, true})
		}
	}
	return append(list,
		delta{"something marked in off", "off", func(w *impl.World) { setMarks(w, 32) }, nil, false},
		delta{"a mark of no object", "mark", func(w *impl.World) { w.Spans[2].Mark |= 4 }, nil, false},
		delta{"something in Grey that is not marked", "mark", func(w *impl.World) { w.Gc.Grey = append(w.Gc.Grey, 40) }, nil, false},
		delta{"something in Grey twice", "mark", func(w *impl.World) { w.Gc.Grey = append(w.Gc.Grey, 36) }, nil, false},
		delta{"something in Grey in term", "term", func(w *impl.World) { w.Gc.Grey = []int{32} }, nil, false},
		delta{"something less in Grey", "mark", func(w *impl.World) { w.Gc.Grey = []int{36, 96} }, nil, true},
		delta{"what is not led to any more", "mark", func(w *impl.World) { w.Gc.Grey = []int{64, 96} }, nil, false},
		delta{"what is not led to by what is told", "seen", func(w *impl.World) { w.Muts[0].Roots[1] = 36; w.Words[0] = 0 }, []int{0}, false},
		delta{"another Next", "start", func(w *impl.World) { w.Gc.Next = 3 }, nil, false},
		delta{"a Next that is none", "start", func(w *impl.World) { w.Gc.Next = 4 }, nil, false},
		delta{"a root of what is Doomed", "sweep", func(w *impl.World) { w.Muts[1].Roots[0] = 112 }, nil, false},
		delta{"a pointer to what is Doomed", "sweep", func(w *impl.World) { w.Words[5] = 112 }, []int{0}, false},
		delta{"what is Doomed leads nowhere", "sweep", func(w *impl.World) { w.Words[82] = 5 }, []int{10}, true},
		delta{"a phase that is none", "off", func(w *impl.World) { w.Gc.Phase = 5 }, nil, false},
	)
}

func TestDeltas(t *testing.T) {
	for _, d := range slices.Concat(deltasOfSpans(), deltasOfObjects(), deltasOfPhases()) {
		what := fmt.Sprintf("behind %s: %s, %v told", d.from, d.what, d.cards)
		w := shifted(ringWorlds(t)[d.from], 32)
		x := roomy(w)
		d.change(&x)
		body := deltaOf(x, d.cards...).told
		if wantDelta(t, what, w, body) != d.right {
			t.Errorf("%s: the definition tells %v", what, !d.right)
		}
		if d.right {
			got, _ := impl.ReadDelta(w, body)
			wantWorld(t, what, got, movedByDefinition(x, 32, 4))
		}
		for _, base := range []int{64, 96, impl.MaxBase} {
			wantNoDelta(t, what+", at another base", shifted(w, base), body)
		}
	}
}

// Pointers that are not told lead where they led, though the number of each span is another one.
func TestDeltasWhereSpansAreOtherNumbers(t *testing.T) {
	w := shifted(ringWorld(t), 32)
	x := roomy(w)
	withoutSpan(&x, 0)
	got, ok := impl.ReadDelta(w, deltaOf(x, 11).told)
	if !ok || impl.RefOf(got, 64) != 1 || impl.RefOf(w, 64) != 17 {
		t.Fatalf("ReadDelta = %v", ok)
	}
	wantList(t, "the leaf, the self", got.Words[32:36], 100, 0, 66, 1)
	wantList(t, "the big", got.Words[64:70], 66, 64, 0, 66, 144, 1)
	wantList(t, "the lost", got.Words[80:84], 0, 0, 68, 0)
	wantList(t, "its roots", got.Muts[2].Roots, 0, 0, 0, 0, 96, 0)
	back, ok := impl.ReadDelta(got, deltaOf(w, 0, 1, 2, 3, 11).told)
	if wantWorld(t, "and back", back, clean(w)); !ok {
		t.Error("not back")
	}
}

// What w has in Dirty, and words of what is Doomed, do not come into what is read.
func TestDeltasOfWhatIsDoomed(t *testing.T) {
	w := shifted(ringWorlds(t)["sweep"], 32)
	for i := range w.Dirty {
		w.Dirty[i] = true
	}
	body := deltaOf(w).told
	got, ok := impl.ReadDelta(w, body)
	if want := movedByDefinition(w, 32, 4); !ok || got.Words[95] != 0 || w.Words[95] != 32 {
		t.Errorf("ReadDelta = %+v, %v, want %+v", got, ok, want)
	}
	lists := deltaNumbers(w, []int{4, 10, 11})
	for at := range lists[3] {
		if card, word := at/9, at%9-1; word >= 0 && (card > 0 || word == 4 || word == 5) {
			for _, n := range []int{-1, 1, 2, 17, 34, math.MaxInt} {
				other := withNumber(lists, 3, at, n)
				wantNoDelta(t, fmt.Sprintf("%d for number %d", n, at), w, sectionsOf(bodiesOf(other)...))
			}
		}
	}
}

// deltaLists has the numbers of a delta behind each of ringWorlds at base 32.
func deltaLists(t *testing.T) (map[string]impl.World, map[string][4][]int) {
	t.Helper()
	worlds, lists := map[string]impl.World{}, map[string][4][]int{}
	for name, w := range ringWorlds(t) {
		worlds[name] = shifted(w, 32)
		lists[name] = deltaNumbers(worlds[name], []int{0, 1, 4, 8, 11})
	}
	return worlds, lists
}

func TestDeltasWithOtherSections(t *testing.T) {
	worlds, all := deltaLists(t)
	for name, lists := range all {
		w, bodies := worlds[name], bodiesOf(lists)
		section := func(i int) string { return sectionByDefinition(imageTags[i], bodies[i]) }
		whole := sectionsOf(bodies...)
		if !wantDelta(t, name, w, whole) {
			t.Errorf("%s: there is no World", name)
		}
		for i := range 4 {
			ahead, behind := sectionsOf(bodies[:i]...), ""
			for k := i + 1; k < 4; k++ {
				behind += section(k)
			}
			for tag := range 256 {
				if tag != imageTags[i] {
					wantNoDelta(t, fmt.Sprintf("%s, tag %d for section %d", name, tag, i), w, ahead+sectionByDefinition(tag, bodies[i])+behind)
				}
			}
			wantNoDelta(t, fmt.Sprintf("%s, without section %d", name, i), w, ahead+behind)
			if i < 3 {
				wantNoDelta(t, fmt.Sprintf("%s, without a body in section %d", name, i), w, ahead+sectionByDefinition(imageTags[i], "")+behind)
			}
			wantNoDelta(t, fmt.Sprintf("%s, section %d twice", name, i), w, ahead+section(i)+section(i)+behind)
			wantNoDelta(t, fmt.Sprintf("%s, bytes ahead of section %d", name, i), w, ahead+"\x00"+section(i)+behind)
			for k := range i {
				order := upTo(4)
				order[i], order[k] = k, i
				wantNoDelta(t, fmt.Sprintf("%s, sections %d and %d changed about", name, k, i), w, section(order[0])+section(order[1])+section(order[2])+section(order[3]))
			}
		}
		for _, more := range []string{"\x00", "x", "\x80", whole, sectionByDefinition(87, ""), sectionByDefinition(71, "z")} {
			wantNoDelta(t, name+", with bytes behind", w, whole+more)
		}
		for _, b := range []string{"", "x", "BRM1" + whole, imageOf(imageNumbers(w)), put(1) + putWordByDefinition(0) + whole} {
			wantNoDelta(t, name+", other bytes", w, b)
		}
		for cut := range whole {
			wantNoDelta(t, fmt.Sprintf("%s, cut off at %d", name, cut), w, whole[:cut])
		}
		for bit := range 8 * len(whole) {
			wantNoDelta(t, fmt.Sprintf("%s, bit %d turned", name, bit), w, withTurned(whole, bit, 1, 1))
		}
	}
}

func TestDeltasWithOtherNumbers(t *testing.T) {
	worlds, all := deltaLists(t)
	for name, lists := range all {
		for i, list := range lists {
			spoil := func(what string, body string) {
				bodies := bodiesOf(lists)
				bodies[i] = body
				wantNoDelta(t, fmt.Sprintf("%s: section %d with %s", name, i, what), worlds[name], sectionsOf(bodies...))
			}
			for n := range list {
				s := put(list[n])
				last := len(s) - 1
				long := s[:last] + string([]byte{s[last] + 128}) + "\x00"
				spoil(fmt.Sprintf("a longer number %d", n), put(list[:n]...)+long+put(list[n+1:]...))
				spoil(fmt.Sprintf("no number %d", n), put(list[:n]...)+put(list[n+1:]...))
				if i < 3 || n%9 > 0 {
					spoil(fmt.Sprintf("numbers up to %d", n), put(list[:n]...))
				}
			}
			body := put(list...)
			for _, more := range []string{"\x80", "\x00", "\x80\x00", "\xff\xff\xff\xff\xff\xff\xff\xff\xff\x02", "\x80\x80\x80\x80\x80\x80\x80\x80\x80\x80\x01"} {
				spoil("bytes behind", body+more)
				spoil("bytes ahead", more+body)
			}
			spoil("an open number at the end", body[:len(body)-1]+"\x82")
		}
	}
}

// Each number of each delta is changed, under a right sum.
func TestDeltasWithEachNumberChanged(t *testing.T) {
	right, wrong := 0, 0
	worlds, all := deltaLists(t)
	for name, lists := range all {
		for i := range lists {
			for at, n := range lists[i] {
				for _, other := range []int{n + 1, n - 1, -1, 0, 1, 2, 3, 4, 16, 17, 34, 200000, math.MinInt, math.MaxInt} {
					if other == n {
						continue
					}
					what := fmt.Sprintf("%s: %d for number %d of section %d", name, other, at, i)
					if wantDelta(t, what, worlds[name], sectionsOf(bodiesOf(withNumber(lists, i, at, other))...)) {
						right++
					} else {
						wrong++
					}
				}
			}
		}
	}
	if right < 400 || wrong < 4000 {
		t.Errorf("%d were deltas, %d not", right, wrong)
	}
}

// Cards that are told twice, not ascending, below 0, behind the last one, or of pages that are no spans.
func TestDeltasOfCards(t *testing.T) {
	worlds, _ := deltaLists(t)
	for name, w := range worlds {
		told := func(numbers ...int) string {
			lists := deltaNumbers(w, nil)
			lists[3] = numbers
			return sectionsOf(bodiesOf(lists)...)
		}
		for _, cards := range [][]int{{0}, {11}, {0, 11}, {3, 4}, {0, 1, 2}, upTo(12)} {
			if !wantDelta(t, fmt.Sprintf("%s, cards %v", name, cards), w, told(cardNumbers(w, cards)...)) {
				t.Errorf("%s, cards %v: there is no World", name, cards)
			}
		}
		for _, cards := range [][]int{{0, 0}, {1, 1}, {11, 11}, {1, 0}, {4, 3}, {0, 1, 1}, {0, 1, 0}, {0, 2, 1}, {1, 2, 3, 0}, {11, 0}, {8, 8, 9}, {8, 8, 8}, append(upTo(12), upTo(12)...)} {
			wantNoDelta(t, fmt.Sprintf("%s, cards %v", name, cards), w, told(cardNumbers(w, cards)...))
		}
		for _, card := range []int{-1, -2, -4, -12, 12, 13, 15, 16, 17, 48, 1 << 32, 1 << 61, 1<<61 + 1, 1<<62 + 4, math.MinInt, math.MaxInt} {
			words := []int{card, 0, 0, 0, 0, 0, 0, 0, 0}
			ahead, behind := slices.Concat(words, cardNumbers(w, upTo(12))), slices.Concat(cardNumbers(w, upTo(12)), words)
			for _, numbers := range [][]int{words, ahead, behind} {
				wantNoDelta(t, fmt.Sprintf("%s, card %d", name, card), w, told(numbers...))
			}
		}
		many := slices.Repeat(cardNumbers(w, []int{7}), 1001)
		wantNoDelta(t, name+", a thousand and one", w, told(many...))
	}
}

// What w is of other Pages, or of another number of Muts, is not gone on from.
func TestDeltasOfOtherPagesAndMuts(t *testing.T) {
	for pages := 1; pages <= 12; pages++ {
		for muts := 1; muts <= 3; muts++ {
			w := newWorld(t, 32, pages, muts)
			for p := 1; p <= 12; p++ {
				for m := 1; m <= 3; m++ {
					what := fmt.Sprintf("%d pages, %d muts, to %d, %d", pages, muts, p, m)
					if taken := wantDelta(t, what, w, deltaOf(newWorld(t, 32, p, m)).told); taken != (p == pages && m == muts) {
						t.Errorf("%s: taken %v", what, taken)
					}
				}
			}
		}
	}
	for name, w := range ringWorlds(t) {
		w = shifted(w, 32)
		x := movedByDefinition(w, 32, 5)
		for _, cards := range [][]int{nil, upTo(16)} {
			wantNoDelta(t, name+", a page more", w, deltaOf(x, cards...).told)
			wantNoDelta(t, name+", a page less", x, deltaOf(w, cards...).told)
		}
	}
}

// sampleLog are five records, and the World of each one: a full one, deltas behind
// it, a full one of another World, and a delta behind that.
func sampleLog(t *testing.T) ([]rec, []impl.World) {
	t.Helper()
	worlds := []impl.World{ringWorlds(t)["off"], ringWorlds(t)["mark"], ringWorlds(t)["sweep"], gapWorld(t), gapWorld(t)}
	for _, k := range []int{1, 2} {
		setWords(&worlds[k], twin, 5, 96, -7, math.MinInt)
	}
	setWords(&worlds[4], 104, 104, 0, 162, 8)
	list := []rec{fullOf(worlds[0]), deltaOf(worlds[1], 1), deltaOf(worlds[2]), fullOf(worlds[3]), deltaOf(worlds[4], 5, 14)}
	return chained(list...), worlds
}

// wantSample wants what sampleLog has up to record number count - 1.
func wantSample(t *testing.T, what string, s string, count int) {
	t.Helper()
	list, worlds := sampleLog(t)
	found := wantFound(t, what, s, count)
	if count > 0 {
		last := worlds[count-1]
		want := impl.Found{W: movedByDefinition(last, 32, last.Pages), Gen: count, Last: list[count-1].sum(), Count: count, At: len(bytesOf(list[:count]...))}
		if !same(found, want) || impl.Encode(found.W) != impl.Encode(last) {
			t.Errorf("%s: Recover =\n%+v, want\n%+v", what, found, want)
		}
	}
}

func TestRecoverOfTheSample(t *testing.T) {
	list, _ := sampleLog(t)
	for count := range len(list) + 1 {
		s := bytesOf(list[:count]...)
		wantSample(t, fmt.Sprintf("%d records", count), s, count)
		for _, more := range []string{"\x00", "F", "D", "F\x80", "\xff\xff", "BRM1", list[0].bytes(), list[0].bytes()[1:], sectionByDefinition(87, "")} {
			if count > 0 || more != list[0].bytes() {
				wantSample(t, fmt.Sprintf("%d records and %q", count, more), s+more, count)
			}
		}
	}
}

func TestRecoverOfWhatIsCutOff(t *testing.T) {
	list, _ := sampleLog(t)
	s := bytesOf(list...)
	for cut := range len(s) + 1 {
		count := 0
		for len(bytesOf(list[:count+1]...)) <= cut {
			if count++; count == len(list) {
				break
			}
		}
		wantSample(t, fmt.Sprintf("cut off at %d", cut), s[:cut], count)
	}
}

// A turned bit is told, and ends what is found at the record that it is in.
func TestRecoverWithATurnedBit(t *testing.T) {
	list, _ := sampleLog(t)
	s := bytesOf(list...)
	for bit, count := 0, 0; bit < 8*len(s); bit++ {
		if bit/8 == len(bytesOf(list[:count+1]...)) {
			count++
		}
		wantSample(t, fmt.Sprintf("bit %d turned", bit), withTurned(s, bit, 1, 1), count)
	}
}

func TestRecoverOfNoRecord(t *testing.T) {
	w := ringWorld(t)
	for _, s := range []string{"", "\x00", "F", "D", "x", "BRM1", impl.Encode(w), impl.MetaBytes(w), impl.WordBytes(w, upTo(12)),
		sectionByDefinition(70, ""), sectionByDefinition(68, ""), sectionByDefinition(70, impl.Encode(w)), sectionByDefinition(70, put(1)),
		sectionByDefinition(70, put(1)+"\x00\x00\x00"), sectionByDefinition(70, put(1)+"\x00\x00\x00\x00"), "\x00" + bytesOf(chained(fullOf(w))...)} {
		wantFound(t, fmt.Sprintf("%q", s), s, 0)
	}
}

// Records that are left out, told twice, or changed about, each one as it was.
func TestRecoverOfOtherRows(t *testing.T) {
	list, _ := sampleLog(t)
	for i := range list {
		wantSample(t, fmt.Sprintf("without record %d", i), bytesOf(slices.Delete(slices.Clone(list), i, i+1)...), i)
		twice := bytesOf(slices.Insert(slices.Clone(list), i, list[i])...)
		wantSample(t, fmt.Sprintf("record %d twice", i), twice, i+1)
		for k := range i {
			about := slices.Clone(list)
			about[i], about[k] = about[k], about[i]
			wantSample(t, fmt.Sprintf("records %d and %d changed about", k, i), bytesOf(about...), k)
			wantSample(t, fmt.Sprintf("records %d to %d left out", k, i), bytesOf(slices.Delete(slices.Clone(list), k, i+1)...), k)
			wantSample(t, fmt.Sprintf("record %d ahead of %d", i, k), bytesOf(slices.Insert(slices.Clone(list), k, list[i])...), k)
			wantSample(t, fmt.Sprintf("record %d behind %d", k, i), bytesOf(slices.Insert(slices.Clone(list), i+1, list[k])...), i+1)
		}
		wantSample(t, fmt.Sprintf("a byte ahead of record %d", i), bytesOf(list[:i]...)+"\x00"+bytesOf(list[i:]...), i)
	}
}

// rechained is chained with the record number i changed, and the words of those behind it right again.
func rechained(list []rec, i int, change func(r *rec)) []rec {
	list = slices.Clone(list)
	change(&list[i])
	for k := i + 1; k < len(list); k++ {
		list[k].ahead = list[k-1].sum()
	}
	return list
}

func TestRecoverWithOtherGenerationsAndWords(t *testing.T) {
	list, _ := sampleLog(t)
	for i, r := range list {
		for _, gen := range []int{math.MinInt, -1, 0, 1, 2, 3, 4, 5, 6, 7, 1000001, 1<<32 + 1, math.MaxInt} {
			count := i
			if gen == r.gen {
				count = len(list)
			}
			wantSample(t, fmt.Sprintf("generation %d for record %d", gen, i), bytesOf(rechained(list, i, func(r *rec) { r.gen = gen })...), count)
		}
		for gen := range 4 {
			later := rechained(list, i, func(r *rec) { r.gen += gen })
			for k := i + 1; k < len(later); k++ {
				later = rechained(later, k, func(r *rec) { r.gen += gen })
			}
			if count := i; gen > 0 {
				wantSample(t, fmt.Sprintf("generations %d more from record %d on", gen, i), bytesOf(later...), count)
			}
		}
		words := []int{0, 1, r.ahead + 1, r.ahead ^ 1<<31, r.sum(), 4294967295, crcByDefinition(r.bytes())}
		for k := range i {
			words = append(words, list[k].sum(), list[k].ahead, crcByDefinition(list[k].bytes()), crcByDefinition(list[k].told))
		}
		for _, word := range words {
			if word != r.ahead {
				wantSample(t, fmt.Sprintf("word %d for record %d", word, i), bytesOf(rechained(list, i, func(r *rec) { r.ahead = word })...), i)
			}
		}
	}
}

// What a record without those numbers, or with others ahead, would tell.
func TestRecoverWithoutGenerationsAndWords(t *testing.T) {
	list, _ := sampleLog(t)
	for i, r := range list {
		ahead, told := bytesOf(list[:i]...), r.body()[5:]
		long := string([]byte{r.body()[0] + 128}) + "\x00"
		for _, body := range []string{"", r.body()[:1], r.body()[:4], r.body()[:5], told, r.body()[1:], put(r.gen) + told, put(r.gen) + r.told[1:],
			long + r.body()[1:], "\x80" + r.body(), "\x00" + r.body(), r.body()[1:5] + put(r.gen) + told, put(r.gen) + r.body(), r.body()[:5] + r.body()} {
			wantSample(t, fmt.Sprintf("record %d is %q", i, body), ahead+sectionByDefinition(r.tag, body), i)
		}
	}
}

func TestRecoverWithOtherTags(t *testing.T) {
	list, _ := sampleLog(t)
	for i, r := range list {
		for tag := range 256 {
			if tag != r.tag {
				wantSample(t, fmt.Sprintf("record %d with tag %d", i, tag), bytesOf(rechained(list, i, func(r *rec) { r.tag = tag })...), i)
			}
		}
	}
}

// Bodies that are cut off, or have bytes behind, under a right sum.
func TestRecoverWithOtherBodies(t *testing.T) {
	list, worlds := sampleLog(t)
	for i, r := range list {
		for cut := range r.told {
			wantSample(t, fmt.Sprintf("record %d cut off at %d", i, cut), bytesOf(rechained(list, i, func(r *rec) { r.told = r.told[:cut] })...), i)
		}
		for _, more := range []string{"\x00", "x", r.told, sectionByDefinition(87, ""), sectionByDefinition(70, "")} {
			wantSample(t, fmt.Sprintf("record %d with %q behind", i, more), bytesOf(rechained(list, i, func(r *rec) { r.told += more })...), i)
			wantSample(t, fmt.Sprintf("record %d with %q ahead", i, more), bytesOf(rechained(list, i, func(r *rec) { r.told = more + r.told })...), i)
		}
		other := fullOf(worlds[i])
		if r.tag == 70 {
			other = deltaOf(worlds[i], upTo(20)...)
		}
		wantSample(t, fmt.Sprintf("record %d of the other kind", i), bytesOf(rechained(list, i, func(r *rec) { r.told = other.told })...), i)
	}
}

// A first record that is a delta is none, even one of a World without anything.
func TestRecoverOfADeltaAtFirst(t *testing.T) {
	w := newWorld(t, 32, 4, 3)
	for name, x := range map[string]impl.World{"nothing": w, "all told": shifted(ringWorld(t), 32)} {
		list := chained(deltaOf(x, upTo(16)...), fullOf(x))
		wantFound(t, name, bytesOf(list...), 0)
		wantFound(t, name, bytesOf(list[1:]...), 0)
		wantFound(t, name, bytesOf(chained(list[1])...), 1)
		for _, gen := range []int{0, 2} {
			list[1].gen, list[1].ahead = gen, 0
			wantFound(t, name, bytesOf(list[1]), 0)
		}
		list[1].gen, list[1].ahead = 1, 1
		wantFound(t, name, bytesOf(list[1]), 0)
	}
}

// A delta goes on from the record ahead, not from a full one ahead of that, and not
// from a World that it is not a delta of.
func TestRecoverOfDeltasBehindOtherRecords(t *testing.T) {
	w := ringWorld(t)
	x := roomy(w)
	setWords(&x, twin, 11, 12, 13, 14)
	y := roomy(x)
	setWords(&y, big+4, 15, 16, 17, 18, 19)
	found := wantFound(t, "both told", bytesOf(chained(fullOf(w), deltaOf(x, 1), deltaOf(y, 8, 9))...), 3)
	wantWorld(t, "both told", found.W, movedByDefinition(y, 32, 4))
	found = wantFound(t, "a full one in between", bytesOf(chained(fullOf(w), deltaOf(x, 1), fullOf(w), deltaOf(y, 8, 9))...), 4)
	wantList(t, "a full one in between", found.W.Words[12:16], ringA, 98, 1, -1)
	wantList(t, "a full one in between", found.W.Words[68:73], 15, 16, 17, 18, 19)
	wantFound(t, "a full one of other Pages", bytesOf(chained(fullOf(w), deltaOf(x, 1), fullOf(movedByDefinition(w, 64, 5)), deltaOf(y, 8, 9))...), 3)
	wantFound(t, "a full one without Muts 1 and 2", bytesOf(chained(fullOf(w), fullOf(gapWorld(t)), deltaOf(y, 8, 9))...), 2)
	found = wantFound(t, "one of nothing", bytesOf(chained(fullOf(w), fullOf(newWorld(t, 32, 4, 3)), deltaOf(y, 8, 9))...), 3)
	wantList(t, "one of nothing", slices.Concat(found.W.Words[:16], found.W.Words[68:73]), append(make([]int, 16), 15, 16, 17, 18, 19)...)
	wantFound(t, "one of nothing, all told", bytesOf(chained(fullOf(newWorld(t, 32, 4, 3)), deltaOf(y, upTo(12)...))...), 2)
}

// Recover has no limit of bytes, nor of generations.
func TestRecoverOfManyRecords(t *testing.T) {
	w := newWorld(t, 320, 1, 1)
	list := []rec{fullOf(w)}
	for len(list) < 5000 {
		list = append(list, deltaOf(w))
	}
	s := bytesOf(chained(list...)...)
	if found := wantFound(t, "many", s, 5000); found.At != len(s) || len(s) < 220000 {
		t.Errorf("%d of %d bytes", found.At, len(s))
	}
	wantFound(t, "many, the last one cut off", s[:len(s)-1], 4999)
}

func wantCompact(t *testing.T, what string, l impl.Log, w impl.World) {
	t.Helper()
	got, ok := impl.Compact(l)
	list := chained(fullOf(w))
	if want := (impl.Log{Bytes: bytesOf(list...), Gen: 1, Last: list[0].sum(), Any: true}); !ok || got != want {
		t.Errorf("%s: Compact = %#v, %v, want\n%#v", what, got, ok, want)
	}
	found := wantFound(t, what+": Compact", got.Bytes, 1)
	wantWorld(t, what+": Compact", found.W, movedByDefinition(w, 32, w.Pages))
	if again, ok := impl.Compact(got); !ok || again != got {
		t.Errorf("%s: compact, it is another Log", what)
	}
}

// Gen, Last and Any of the Log are not asked for.
func TestCompact(t *testing.T) {
	list, worlds := sampleLog(t)
	for count := range len(list) + 1 {
		for _, more := range []string{"", "F", "behind"} {
			for _, l := range []impl.Log{{Gen: count, Any: true}, {}, {Gen: -1, Last: -1}, {Gen: 1000001, Last: 1 << 40, Any: true}} {
				l.Bytes = bytesOf(list[:count]...) + more
				if count > 0 {
					wantCompact(t, fmt.Sprintf("%d records and %q", count, more), l, worlds[count-1])
					continue
				}
				if got, ok := impl.Compact(l); ok || got != (impl.Log{}) {
					t.Errorf("Compact of %#v = %#v, %v, want nothing", l, got, ok)
				}
			}
		}
	}
	for name, w := range ringWorlds(t) {
		wantCompact(t, name, impl.Log{Bytes: bytesOf(chained(fullOf(w))...)}, w)
	}
	for _, s := range []string{"x", bytesOf(list[1:]...), bytesOf(list[1]), bytesOf(list[3]), bytesOf(list...)[1:]} {
		if got, ok := impl.Compact(impl.Log{Bytes: s, Gen: 1, Any: true}); ok || got != (impl.Log{}) {
			t.Errorf("Compact = %#v, %v, want nothing", got, ok)
		}
	}
	if got, ok := impl.Compact(impl.LogNew()); ok || got != (impl.Log{}) {
		t.Errorf("Compact of LogNew = %#v, %v, want nothing", got, ok)
	}
	long := strings.Repeat("x", 300000)
	wantCompact(t, "more than MaxBytes", impl.Log{Bytes: bytesOf(list...) + long}, worlds[4])
}

func TestCheckpointMemory(t *testing.T) {
	list, _ := sampleLog(t)
	worlds := ringWorlds(t)
	worlds["apart"] = gapWorld(t)
	worlds["no spans"] = newWorld(t, 64, 3, 2)
	for name, w := range worlds {
		w.Dirty[1], w.Dirty[9] = true, true
		l, _, _ := impl.LogFull(impl.LogNew(), w)
		at := shifted(w, 32)
		body := deltaOf(at, 0, 9).told
		wantUnwritten(t, name, w, func(w impl.World) {
			_, a, _ := impl.LogFull(impl.LogNew(), w)
			_, b, _ := impl.LogFull(l, w)
			_, c, _ := impl.LogDelta(l, w)
			_, d, _ := impl.LogDelta(l, w)
			impl.LogFull(impl.Log{Gen: -1}, w)
			impl.LogDelta(impl.LogNew(), w)
			wantOwnMemory(t, name, w, a, b, c, d)
		})
		wantUnwritten(t, name, at, func(w impl.World) {
			a, ok := impl.ReadDelta(w, body)
			b, _ := impl.ReadDelta(w, body)
			c, _ := impl.ReadDelta(w, deltaOf(w).told)
			impl.ReadDelta(w, body[1:])
			impl.ReadDelta(w, deltaOf(w, 0, 0).told)
			impl.ReadDelta(w, sectionsOf(bodiesOf(deltaNumbers(w, nil))[:3]...)+sectionByDefinition(87, put(0, 1, 1, 1, 1, 1, 1, 1, 1)))
			if wantOwnMemory(t, name, w, a, b, c); !ok {
				t.Errorf("%s: there is no World", name)
			}
		})
	}
	a, _ := impl.Recover(bytesOf(list...))
	b, _ := impl.Recover(bytesOf(list...))
	c, _ := impl.Recover(bytesOf(list[0]))
	wantOwnMemory(t, "Recover", a, b, c)
}

// keeper writes down a World again and again, and has what was written each time.
type keeper struct {
	w      impl.World
	log    impl.Log
	list   []impl.World
	behind []int
}

// write writes all, or what is Dirty alone.
func (k *keeper) write(t *testing.T, what string, all bool) {
	t.Helper()
	how := impl.LogDelta
	if all {
		how = impl.LogFull
	}
	l, w, ok := how(k.log, k.w)
	if !ok || !strings.HasPrefix(l.Bytes, k.log.Bytes) {
		t.Fatalf("%s: %v, %d bytes", what, ok, len(l.Bytes))
	}
	k.log, k.w = l, w
	k.list, k.behind = append(k.list, w), append(k.behind, len(l.Bytes))
	k.want(t, what)
}

// want wants what was written last.
func (k *keeper) want(t *testing.T, what string) {
	t.Helper()
	last := k.list[len(k.list)-1]
	found, code := impl.Recover(k.log.Bytes)
	want := impl.Found{W: movedByDefinition(last, 32, last.Pages), Gen: k.log.Gen, Last: k.log.Last, Count: len(k.list), At: len(k.log.Bytes)}
	if code != impl.RcOk || !same(found, want) {
		t.Fatalf("%s: Recover =\n%+v, %d, want\n%+v", what, found, code, want)
	}
	if impl.Encode(found.W) != impl.Encode(last) || !impl.SameGraph(impl.GraphOf(found.W), impl.GraphOf(last)) {
		t.Fatalf("%s: what is found is another World", what)
	}
}

// crash cuts the bytes off, and goes on from what is found, at another base.
func (k *keeper) crash(t *testing.T, what string, cut int, base int) {
	t.Helper()
	count := 0
	for count < len(k.behind) && k.behind[count] <= cut {
		count++
	}
	found, code := impl.Recover(k.log.Bytes[:cut])
	if (code == impl.RcOk) != (count > 0) || found.Count != count {
		t.Fatalf("%s: cut off at %d, Recover tells %d, %d, want %d", what, cut, code, found.Count, count)
	}
	if count == 0 {
		return
	}
	if found.At != k.behind[count-1] || impl.Encode(found.W) != impl.Encode(k.list[count-1]) {
		t.Fatalf("%s: cut off at %d, another World is found", what, cut)
	}
	k.list, k.behind = k.list[:count], k.behind[:count]
	k.log = impl.Log{Bytes: k.log.Bytes[:found.At], Gen: found.Gen, Last: found.Last, Any: true}
	k.w, code = impl.Move(found.W, base, found.W.Pages)
	if code != impl.ImOk {
		t.Fatalf("%s: what is found can't be moved: %d", what, code)
	}
	k.want(t, what)
}

// compact goes on from what Compact makes of the log.
func (k *keeper) compact(t *testing.T, what string) {
	t.Helper()
	l, ok := impl.Compact(k.log)
	if !ok {
		t.Fatalf("%s: Compact = false", what)
	}
	k.log, k.list, k.behind = l, k.list[len(k.list)-1:], []int{len(l.Bytes)}
	k.want(t, what)
}

// goOn does one thing, mostly one that somebody who uses the World would do.
func (k *keeper) goOn(rnd *rand.Rand) {
	switch rest := rnd.Intn(20); {
	case rest < 2 && k.w.Gc.Phase == impl.PhOff:
		k.w, _ = impl.GcStart(k.w)
	case rest < 7:
		k.w = impl.GcRun(k.w, 1+rnd.Intn(3))
	default:
		if next, answer := impl.Do(k.w, randomOp(rnd, k.w, []int{2, 9, 16}[rnd.Intn(3)])); answer.Code != impl.AnForm {
			k.w = next
		}
	}
}

// What was written last is found, in the midst of rounds too, whatever was cut off in between.
func TestWhatWasWrittenLastIsFound(t *testing.T) {
	deltas, doomed := 0, 0
	for seed := range 400 {
		rnd := rand.New(rand.NewSource(int64(seed)))
		what := fmt.Sprintf("seed %d", seed)
		k := &keeper{w: anyMoment(t, rnd)}
		k.write(t, what, true)
		for range 25 {
			for range rnd.Intn(6) {
				k.goOn(rnd)
			}
			switch all := rnd.Intn(12); {
			case all == 0:
				k.write(t, what, true)
			case all == 1 && len(k.log.Bytes) > 0:
				k.crash(t, what, rnd.Intn(len(k.log.Bytes)+1), 32*(1+rnd.Intn(50)))
			case all == 2 && same(k.w, k.list[len(k.list)-1]):
				k.compact(t, what)
			default:
				k.write(t, what, false)
				deltas++
				eachObject(k.w, func(_ int, _ int, _ int, is bool) {
					if is {
						doomed++
					}
				})
			}
		}
		k.want(t, what)
	}
	if deltas < 6000 || doomed < 400 {
		t.Errorf("%d deltas, %d objects that were Doomed", deltas, doomed)
	}
}

// Cut off anywhere, the last whole checkpoint is found byte by byte.
func TestLogsCutOffAnywhere(t *testing.T) {
	for seed := range 12 {
		rnd := rand.New(rand.NewSource(int64(seed)))
		what := fmt.Sprintf("seed %d", seed)
		k := &keeper{w: newWorld(t, 64, 1+rnd.Intn(3), 1+rnd.Intn(3))}
		k.write(t, what, true)
		for range 8 {
			for range rnd.Intn(12) {
				k.goOn(rnd)
			}
			k.write(t, what, rnd.Intn(4) == 0)
		}
		for cut := range len(k.log.Bytes) + 1 {
			other := *k
			other.crash(t, what, cut, 96)
		}
	}
}

// deltaBehind is a World at base 32, and the numbers of a delta of what became of it.
func deltaBehind(t *testing.T, rnd *rand.Rand) (impl.World, [4][]int) {
	t.Helper()
	k := &keeper{w: shifted(anyMoment(t, rnd), 32)}
	clear(k.w.Dirty)
	w := roomy(k.w)
	for range rnd.Intn(12) {
		k.goOn(rnd)
	}
	cards := dirtyCards(k.w)
	for card := range k.w.Dirty {
		if rnd.Intn(8) == 0 && !slices.Contains(cards, card) {
			cards = append(cards, card)
		}
	}
	slices.Sort(cards)
	return w, deltaNumbers(k.w, cards)
}

// Numbers of deltas are changed, left out, put in and changed about, under right sums.
func TestDeltasOfRandomNumbers(t *testing.T) {
	right, wrong := 0, 0
	for seed := range 4000 {
		rnd := rand.New(rand.NewSource(int64(seed)))
		w, lists := deltaBehind(t, rnd)
		for range rnd.Intn(3) {
			i := rnd.Intn(4)
			list := slices.Clone(lists[i])
			if len(list) == 0 {
				continue
			}
			at, other := rnd.Intn(len(list)), rnd.Intn(len(list))
			switch rnd.Intn(7) {
			case 0:
				list = slices.Delete(list, at, at+1)
			case 1:
				list = slices.Insert(list, at, rnd.Intn(3))
			case 2:
				list[at], list[other] = list[other], list[at]
			case 3:
				list[at] = int(rnd.Uint64() >> rnd.Intn(64))
			case 4:
				list[at] += rnd.Intn(5) - 2
			case 5:
				if at -= at % 9; i == 3 {
					list = slices.Delete(list, at, at+9)
				}
			case 6:
				if i == 2 {
					list = slices.Delete(list, len(list)-1, len(list))
				}
			}
			lists[i] = list
		}
		if wantDelta(t, fmt.Sprintf("seed %d", seed), w, sectionsOf(bodiesOf(lists)...)) {
			right++
		} else {
			wrong++
		}
	}
	if right < 1500 || wrong < 1000 {
		t.Errorf("%d were deltas, %d not", right, wrong)
	}
}

// Whatever bytes come, a World that may go on is read, or none.
func TestDeltasAndLogsOfRandomBytes(t *testing.T) {
	counts := make([]int, 4)
	for seed := range 3000 {
		rnd := rand.New(rand.NewSource(int64(seed)))
		w, lists := deltaBehind(t, rnd)
		body := sectionsOf(bodiesOf(lists)...)
		if rnd.Intn(4) == 0 {
			body = sectionsOf(randomBytes(rnd, rnd.Intn(9)), randomBytes(rnd, rnd.Intn(40)), randomBytes(rnd, rnd.Intn(20)), randomBytes(rnd, rnd.Intn(90)))
		}
		list := chained(fullOf(w), rec{tag: 68, told: body}, fullOf(w))
		s := bytesOf(list...)
		for range rnd.Intn(3) {
			if body = spoilt(rnd, body); body == "" {
				break
			}
		}
		wantDelta(t, fmt.Sprintf("seed %d", seed), w, body)
		if rnd.Intn(2) == 0 {
			s = bytesOf(rechained(list, 1, func(r *rec) { r.told = body })...)
		}
		if rnd.Intn(2) == 0 {
			at := rnd.Intn(len(s))
			s = s[:at] + spoilt(rnd, s[at:])
		}
		found, _ := recoverByDefinition(s)
		counts[found.Count]++
		wantFound(t, fmt.Sprintf("seed %d", seed), s, found.Count)
	}
	for count, n := range counts {
		if n < 200 {
			t.Errorf("%d records came but %d times", count, n)
		}
	}
}
