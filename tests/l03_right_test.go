package tests

import (
	"fmt"
	"math"
	"math/rand"
	"slices"
	"testing"

	"loop.example/g00690/impl"
)

// The objects of ringWorld. The ring, the one behind it and the twin are on page
// 0, the leaf, the self and the alone on page 1, the big and the lost on page 2.
const (
	ringA = 64
	ringB = 68
	ringC = 72
	twin  = 76
	leaf  = 96
	self  = 98
	alone = 100
	big   = 128
	lost  = 144
)

// ringWorld has 4 pages and 3 muts and is in PhOff. A leads to B, B to C and to
// the leaf, C to A; the self leads to itself; the big leads to the self twice and
// to the leaf; the lost leads to the alone, and to A; the twin leads to nothing.
// The roots are A twice and the twin (mut 0), and the big and A (mut 2).
func ringWorld(t *testing.T) impl.World {
	t.Helper()
	w := newWorld(t, 64, 4, 3)
	sizes := [][2]int{{3, 1}, {4, 3}, {3, 2}, {4, 0}, {1, 0}, {2, 1}, {2, 1}, {9, 4}, {16, 16}}
	for _, size := range sizes {
		w, _ = take(t, w, size[0], size[1])
	}
	clear(w.Dirty)
	setWords(&w, ringA, ringB, -5, 6)
	setWords(&w, ringB, ringC, 0, leaf, 3)
	setWords(&w, ringC, 0, ringA, ringB)
	setWords(&w, twin, ringA, 98, 1, -1)
	setWords(&w, leaf, alone)
	setWords(&w, self, self, 1)
	setWords(&w, big, self, leaf, 0, self, lost, 1)
	setWords(&w, lost, 0, 0, alone, 0, 0, 0, 0, 0, 0, 0, 0, 0, 0, 0, 0, ringA)
	copy(w.Muts[0].Roots, []int{ringA, 0, twin, ringA})
	copy(w.Muts[2].Roots[4:], []int{big, ringA})
	return w
}

// setWords writes the words from address addr on.
func setWords(w *impl.World, addr int, words ...int) { copy(w.Words[addr-w.Base:], words) }

// setMarks marks just the objects at list.
func setMarks(w *impl.World, list ...int) {
	for k := range w.Spans {
		w.Spans[k].Mark = 0
	}
	for _, addr := range list {
		k, slot := impl.Find(*w, addr)
		w.Spans[k].Mark |= 1 << slot
	}
}

// ringWorlds are ringWorlds in all phases of a round, all of which are right.
func ringWorlds(t *testing.T) map[string]impl.World {
	t.Helper()
	in := func(phase int, next int, grey []int, marked ...int) impl.World {
		w := ringWorld(t)
		w.Gc = impl.Gc{Phase: phase, Next: next, Grey: grey}
		setMarks(&w, marked...)
		return w
	}
	swept := in(impl.PhSweep, 0, nil, leaf, self, big)
	swept.Spans[0].Swept = true
	return map[string]impl.World{
		"off":   ringWorld(t),
		"start": in(impl.PhSetup, 0, nil),
		"setup": in(impl.PhSetup, 1, []int{ringA, twin}, ringA, twin),
		"seen":  in(impl.PhSetup, 3, []int{ringA, twin, big}, ringA, twin, big),
		"mark":  in(impl.PhMark, 0, []int{ringB, leaf, big}, ringA, ringB, twin, leaf, big),
		"term":  in(impl.PhTerm, 0, nil, ringA, ringB, ringC, twin, leaf, self, big),
		"sweep": in(impl.PhSweep, 0, nil, ringA, ringB, ringC, twin, leaf, self, big),
		"swept": swept,
	}
}

// thing is an object as the model of what is right sees it.
type thing struct {
	ptrs   []int
	marked bool
	swept  bool
}

func thingsOf(w impl.World) map[int]thing {
	list := map[int]thing{}
	for _, s := range w.Spans {
		size := []int{2, 4, 8, 16}[s.Class]
		for slot, n := range s.Lens {
			first := s.Page*32 + slot*size
			if n > 0 {
				list[w.Base+first] = thing{w.Words[first : first+s.Ptrs[slot]], s.Mark>>slot&1 == 1, s.Swept}
			}
		}
	}
	return list
}

func (o thing) doomed(w impl.World) bool { return w.Gc.Phase == impl.PhSweep && !o.swept && !o.marked }

// keptIn goes over all objects again and again until no more of them are kept.
func keptIn(w impl.World, list map[int]thing) map[int]bool {
	kept := map[int]bool{}
	for before := -1; before < len(kept); {
		before = len(kept)
		for addr, o := range list {
			if o.marked {
				kept[addr] = true
			}
			if slices.Contains(w.Gc.Grey, addr) || kept[addr] && !o.marked {
				for _, p := range o.ptrs {
					if _, is := list[p]; is {
						kept[p] = true
					}
				}
			}
		}
	}
	return kept
}

// wrongIn names what of WorldOk does not hold for a w that is FormOk.
func wrongIn(w impl.World) []string {
	var wrong []string
	ask := func(name string, right bool) {
		if !right && !slices.Contains(wrong, name) {
			wrong = append(wrong, name)
		}
	}
	list, phase := thingsOf(w), w.Gc.Phase
	kept := keptIn(w, list)
	stays := func(n int) bool {
		o, is := list[n]
		return n == 0 || is && !o.doomed(w)
	}
	rounds := phase == impl.PhSetup || phase == impl.PhMark || phase == impl.PhTerm
	for m, mut := range w.Muts {
		seen := phase == impl.PhMark || phase == impl.PhTerm || phase == impl.PhSetup && m < w.Gc.Next
		for _, root := range mut.Roots {
			ask("root", stays(root))
			ask("kept root", !seen || root == 0 || kept[root])
		}
	}
	for _, o := range list {
		for _, p := range o.ptrs {
			ask("pointer", o.doomed(w) || stays(p))
			ask("kept pointer", !rounds || !o.marked || p == 0 || kept[p])
		}
		ask("marked in off", phase != impl.PhOff || !o.marked)
		ask("marked where swept", phase != impl.PhSweep || !o.swept || !o.marked)
	}
	for i, addr := range w.Gc.Grey {
		ask("grey not marked", list[addr].marked)
		ask("grey twice", !slices.Contains(w.Gc.Grey[:i], addr))
		ask("grey in phase", phase == impl.PhSetup || phase == impl.PhMark)
	}
	ask("next", w.Gc.Next == 0 || phase == impl.PhSetup && w.Gc.Next > 0 && w.Gc.Next <= len(w.Muts))
	for _, s := range w.Spans {
		ask("swept", phase == impl.PhSweep || !s.Swept)
	}
	slices.Sort(wrong)
	return wrong
}

// wantWrong holds WorldOk against the model, and the model against want.
func wantWrong(t *testing.T, what string, w impl.World, want ...string) {
	t.Helper()
	if !impl.FormOk(w) {
		t.Errorf("%s: not FormOk", what)
	}
	if wrong := wrongIn(w); !slices.Equal(wrong, want) {
		t.Errorf("%s: the model tells %v, want %v", what, wrong, want)
	}
	if impl.WorldOk(w) != (len(want) == 0) {
		t.Errorf("%s: WorldOk = %v", what, len(want) > 0)
	}
}

func wantList(t *testing.T, what string, got []int, want ...int) {
	t.Helper()
	if !slices.Equal(got, want) {
		t.Errorf("%s = %v, want %v", what, got, want)
	}
}

func TestPointers(t *testing.T) {
	w := ringWorld(t)
	want := map[int][]int{
		ringA: {ringB}, ringB: {ringC, leaf}, ringC: {ringA}, self: {self},
		big: {self, leaf, self}, lost: {alone, ringA},
	}
	for addr := -3; addr < 64+128+40; addr++ {
		wantList(t, "Pointers", impl.Pointers(w, addr), want[addr]...)
	}
	for _, addr := range []int{math.MinInt, math.MaxInt, ringA + 1<<32, -ringA} {
		wantList(t, "Pointers of nothing", impl.Pointers(w, addr))
	}
	for _, phase := range []int{impl.PhSetup, impl.PhMark, impl.PhTerm, impl.PhSweep} {
		w.Gc.Phase = phase
		wantList(t, "Pointers in a round", impl.Pointers(w, big), self, leaf, self)
	}
}

// Pointers says nothing of what is right, so it tells pointers that lead nowhere too.
func TestPointersThatLeadNowhere(t *testing.T) {
	w := ringWorld(t)
	setWords(&w, lost, 1, -1, math.MinInt, math.MaxInt, ringA+1, 0, alone, alone, 9, 8, 7, 6, 5, 4, 3, 2)
	wantList(t, "Pointers", impl.Pointers(w, lost), 1, -1, math.MinInt, math.MaxInt, ringA+1, alone, alone, 9, 8, 7, 6, 5, 4, 3, 2)
	wantList(t, "Reach", impl.Reach(w, []int{lost}), alone, lost)
	copy(w.Muts[1].Roots, []int{math.MaxInt, -1, 5, math.MinInt, -1, 5})
	wantList(t, "RootsOf", impl.RootsOf(w), math.MinInt, -1, 5, ringA, twin, big, math.MaxInt)
}

func TestReach(t *testing.T) {
	w := ringWorld(t)
	ring := []int{ringA, ringB, ringC, leaf}
	cases := []struct{ from, want []int }{
		{nil, nil},
		{[]int{}, nil},
		{[]int{0}, nil},
		{[]int{ringA}, ring},
		{[]int{ringB}, ring},
		{[]int{ringC}, ring},
		{[]int{twin}, []int{twin}},
		{[]int{leaf}, []int{leaf}},
		{[]int{self}, []int{self}},
		{[]int{alone}, []int{alone}},
		{[]int{big}, []int{leaf, self, big}},
		{[]int{lost}, []int{ringA, ringB, ringC, leaf, alone, lost}},
		{[]int{self, self, self}, []int{self}},
		{[]int{twin, leaf, twin}, []int{twin, leaf}},
		{[]int{big, 0, ringC, big, ringA}, []int{ringA, ringB, ringC, leaf, self, big}},
		{[]int{ringA + 1, 102, 160, 192, -1, 63, 32, math.MinInt, math.MaxInt}, nil},
		{[]int{ringA + 1, 0, self, 102}, []int{self}},
	}
	for _, c := range cases {
		wantList(t, "Reach", impl.Reach(w, c.from), c.want...)
	}
	many := make([]int, 100000)
	for i := range many {
		many[i] = 63 + i%100
	}
	wantList(t, "Reach from all", impl.Reach(w, many), ringA, ringB, ringC, twin, leaf, self, alone, big, lost)
	wantList(t, "Reach where nothing is", impl.Reach(newWorld(t, 32, 1, 1), []int{0, 32, 64}))
}

// Reach goes by pointers alone: phases, marks, and what is Doomed are nothing to it.
func TestReachInARound(t *testing.T) {
	for name, w := range ringWorlds(t) {
		wantList(t, name+": Reach", impl.Reach(w, impl.RootsOf(w)), ringA, ringB, ringC, twin, leaf, self, big)
		wantList(t, name+": Reach", impl.Reach(w, []int{lost}), ringA, ringB, ringC, leaf, alone, lost)
	}
}

// A row as long as a World can have, of which each leads to the next one.
func TestReachOfALongRow(t *testing.T) {
	w := newWorld(t, 1024, 12, 1)
	var row []int
	for i := range 192 {
		w, _ = take(t, w, 2, 2)
		row = append(row, 1024+2*i)
		if i > 0 {
			setWords(&w, row[i-1], row[i], row[0])
		}
	}
	wantList(t, "Reach", impl.Reach(w, []int{1024}), row...)
	wantList(t, "Reach", impl.Reach(w, []int{1024 + 382}), 1024+382)
	wantList(t, "Reach", impl.Reach(w, []int{1024 + 380}), row...)
	w.Muts[0].Roots[5] = 1024 + 380
	wantWrong(t, "a long row", w)
}

func TestRootsOf(t *testing.T) {
	w := ringWorld(t)
	wantList(t, "RootsOf", impl.RootsOf(w), ringA, twin, big)
	copy(w.Muts[1].Roots, []int{lost, leaf, big, lost, self, ringA})
	wantList(t, "RootsOf", impl.RootsOf(w), ringA, twin, leaf, self, big, lost)
	for m := range w.Muts {
		clear(w.Muts[m].Roots)
	}
	wantList(t, "RootsOf without roots", impl.RootsOf(w))
	w.Muts[2].Roots[5] = self
	wantList(t, "RootsOf the last", impl.RootsOf(w), self)
}

func TestSeen(t *testing.T) {
	for muts := 1; muts <= impl.MaxMuts; muts++ {
		for phase := impl.PhOff; phase <= impl.PhSweep; phase++ {
			for next := -1; next <= muts+1; next++ {
				w := newWorld(t, 32, 1, muts)
				w.Gc.Phase, w.Gc.Next = phase, next
				for m := -2; m <= muts+2; m++ {
					want := phase == impl.PhMark || phase == impl.PhTerm || phase == impl.PhSetup && m < next
					want = want && m >= 0 && m < muts
					if impl.Seen(w, m) != want {
						t.Errorf("phase %d, next %d of %d: Seen(%d) = %v", phase, next, muts, m, !want)
					}
				}
				if impl.Seen(w, math.MinInt) || impl.Seen(w, math.MaxInt) {
					t.Errorf("phase %d, next %d of %d: a mut far off is Seen", phase, next, muts)
				}
			}
		}
	}
	w := ringWorlds(t)["setup"]
	if !impl.Seen(w, 0) || impl.Seen(w, 1) || impl.Seen(w, 2) || impl.Seen(w, 3) || impl.Seen(w, -1) {
		t.Error("Seen in the midst of setup")
	}
}

func TestDoomed(t *testing.T) {
	want := map[string][]int{"sweep": {alone, lost}, "swept": {alone, lost}}
	for name, w := range ringWorlds(t) {
		var doomed []int
		for addr := -3; addr < 64+128+40; addr++ {
			if impl.Doomed(w, addr) {
				doomed = append(doomed, addr)
			}
		}
		wantList(t, name+": Doomed", doomed, want[name]...)
		if impl.Doomed(w, math.MinInt) || impl.Doomed(w, math.MaxInt) {
			t.Errorf("%s: what is not there is Doomed", name)
		}
	}
	w := ringWorlds(t)["swept"]
	w.Spans[0].Swept = false
	for _, addr := range []int{ringA, ringB, ringC, twin} {
		if !impl.Doomed(w, addr) {
			t.Errorf("Doomed(%d) = false where it is not swept", addr)
		}
	}
	for phase := impl.PhOff; phase < impl.PhSweep; phase++ {
		if w.Gc.Phase = phase; impl.Doomed(w, lost) {
			t.Errorf("phase %d: Doomed", phase)
		}
	}
}

// moment is one of ringWorlds with something changed; what says how, or what is wrong then.
type moment struct {
	what   string
	world  string
	change func(w *impl.World)
}

func wantMoment(t *testing.T, m moment, wrong ...string) {
	t.Helper()
	t.Run(m.world+", "+m.what, func(t *testing.T) {
		w := ringWorlds(t)[m.world]
		m.change(&w)
		wantWrong(t, m.what, w, wrong...)
	})
}

func rightMoments() []moment {
	return []moment{
		{"no roots", "off", func(w *impl.World) { clear(w.Muts[0].Roots); clear(w.Muts[2].Roots) }},
		{"dirty", "off", func(w *impl.World) { w.Dirty[0], w.Dirty[15] = true, true }},
		{"grey not made at all", "off", func(w *impl.World) { w.Gc.Grey = []int{} }},
		{"all in the roots of one", "off", func(w *impl.World) { copy(w.Muts[1].Roots, []int{lost, lost, self, alone, big, leaf}) }},
		{"a number that is no address", "term", func(w *impl.World) { setWords(w, twin, 1, lost, alone, math.MinInt) }},
		{"a span without a used slot", "off", func(w *impl.World) {
			w.Spans = append(w.Spans, impl.Span{Page: 3, Class: 2, Lens: make([]int, 4), Ptrs: make([]int, 4)})
		}},
		{"a root of a mut that is not seen", "setup", func(w *impl.World) { w.Muts[1].Roots[0] = lost }},
		{"all marked in setup", "start", func(w *impl.World) { setMarks(w, ringA, ringB, ringC, twin, leaf, self, alone, big, lost) }},
		{"marked and grey at the start", "start", func(w *impl.World) { setMarks(w, lost); w.Gc.Grey = []int{lost} }},
		{"a root at a pointer of grey", "seen", func(w *impl.World) { w.Muts[2].Roots[0] = ringB }},
		{"a root two on from grey", "seen", func(w *impl.World) { w.Muts[2].Roots[0] = ringC }},
		{"a root three on from grey", "mark", func(w *impl.World) {
			setMarks(w, ringA, twin, big)
			w.Gc.Grey = []int{big, ringA}
			clear(w.Muts[2].Roots)
			w.Muts[0].Roots[1] = leaf
		}},
	}
}

func rightMomentsOfMarks() []moment {
	return []moment{
		{"a circle through grey", "mark", func(w *impl.World) {
			setMarks(w, ringC, twin, big)
			w.Gc.Grey = []int{ringC, big}
		}},
		{"grey turned round", "mark", func(w *impl.World) { slices.Reverse(w.Gc.Grey) }},
		{"a marked one at a pointer of grey", "mark", func(w *impl.World) { setWords(w, ringB, ringA, ringB, ringC) }},
		{"nothing marked, nothing held", "mark", func(w *impl.World) {
			setMarks(w)
			w.Gc.Grey = nil
			clear(w.Muts[0].Roots)
			clear(w.Muts[2].Roots)
		}},
		{"what is lost is marked, with what it leads to", "term", func(w *impl.World) {
			setMarks(w, ringA, ringB, ringC, twin, leaf, self, alone, big, lost)
		}},
		{"what is doomed leads to what is doomed", "sweep", func(w *impl.World) { setWords(w, lost, lost, alone) }},
		{"what is doomed leads nowhere", "sweep", func(w *impl.World) { setWords(w, lost, -1, ringA+1, 5) }},
		{"all is doomed", "sweep", func(w *impl.World) {
			setMarks(w)
			clear(w.Muts[0].Roots)
			clear(w.Muts[2].Roots)
		}},
		{"all is swept", "swept", func(w *impl.World) {
			setMarks(w)
			w.Spans[1].Swept, w.Spans[2].Swept = true, true
			w.Muts[1].Roots[0] = lost
		}},
		{"the last span is swept first", "sweep", func(w *impl.World) {
			w.Spans[2].Swept, w.Spans[2].Mark = true, 0
			setWords(w, lost, leaf, 0, 0)
		}},
	}
}

func TestWorldOkAccepts(t *testing.T) {
	for name, w := range ringWorlds(t) {
		wantWrong(t, name, w)
	}
	for _, m := range slices.Concat(rightMoments(), rightMomentsOfMarks()) {
		wantMoment(t, m)
	}
}

func wrongWays() []moment {
	return []moment{
		{"root", "off", func(w *impl.World) { w.Muts[0].Roots[0] = ringA + 1 }},
		{"root", "off", func(w *impl.World) { w.Muts[2].Roots[5] = -1 }},
		{"root", "off", func(w *impl.World) { w.Muts[1].Roots[3] = 192 }},
		{"root", "off", func(w *impl.World) { w.Muts[1].Roots[0] = 32 }},
		{"root", "start", func(w *impl.World) { w.Muts[0].Roots[1] = 102 }},
		{"root", "setup", func(w *impl.World) { w.Muts[1].Roots[1] = math.MaxInt }},
		{"root", "sweep", func(w *impl.World) { w.Muts[1].Roots[0] = lost }},
		{"root", "sweep", func(w *impl.World) { w.Muts[0].Roots[5] = 99 }},
		{"root", "swept", func(w *impl.World) { w.Muts[2].Roots[0] = alone }},
		{"pointer", "off", func(w *impl.World) { setWords(w, ringA, ringB+1) }},
		{"pointer", "off", func(w *impl.World) { setWords(w, lost, 104) }},
		{"pointer", "off", func(w *impl.World) { setWords(w, lost+15, 1) }},
		{"pointer", "setup", func(w *impl.World) { setWords(w, ringC, math.MinInt) }},
		{"pointer", "mark", func(w *impl.World) { setWords(w, lost, 6) }},
		{"pointer", "term", func(w *impl.World) { setWords(w, lost, 192) }},
		{"pointer", "sweep", func(w *impl.World) { setWords(w, big+3, lost) }},
		{"pointer", "sweep", func(w *impl.World) { setWords(w, self, -2) }},
		{"pointer", "swept", func(w *impl.World) { setWords(w, ringB+1, alone) }},
		{"pointer", "sweep", func(w *impl.World) { w.Spans[2].Swept, w.Spans[2].Mark = true, 0 }},
	}
}

func wrongRounds() []moment {
	return []moment{
		{"grey not marked", "start", func(w *impl.World) { w.Gc.Grey = []int{lost} }},
		{"grey not marked", "setup", func(w *impl.World) { w.Gc.Grey = append(w.Gc.Grey, ringB) }},
		{"grey not marked", "setup", func(w *impl.World) { w.Gc.Grey = append(w.Gc.Grey, 0) }},
		{"grey not marked", "mark", func(w *impl.World) { w.Gc.Grey = append(w.Gc.Grey, lost) }},
		{"grey not marked", "mark", func(w *impl.World) { w.Gc.Grey = append(w.Gc.Grey, ringA+1) }},
		{"grey twice", "seen", func(w *impl.World) { w.Gc.Grey = append(w.Gc.Grey, ringA) }},
		{"grey twice", "mark", func(w *impl.World) { w.Gc.Grey = append([]int{big}, w.Gc.Grey...) }},
		{"grey in phase", "term", func(w *impl.World) { w.Gc.Grey = []int{ringA} }},
		{"grey in phase", "sweep", func(w *impl.World) { w.Gc.Grey = []int{big} }},
		{"next", "start", func(w *impl.World) { w.Gc.Next = -1 }},
		{"next", "seen", func(w *impl.World) { w.Gc.Next = 4 }},
		{"next", "off", func(w *impl.World) { w.Gc.Next = 1 }},
		{"next", "mark", func(w *impl.World) { w.Gc.Next = 3 }},
		{"next", "term", func(w *impl.World) { w.Gc.Next = -1 }},
		{"next", "sweep", func(w *impl.World) { w.Gc.Next = math.MinInt }},
		{"swept", "off", func(w *impl.World) { w.Spans[2].Swept = true }},
		{"swept", "start", func(w *impl.World) { w.Spans[0].Swept = true }},
		{"swept", "mark", func(w *impl.World) { w.Spans[1].Swept = true }},
		{"swept", "term", func(w *impl.World) { w.Spans[2].Swept = true }},
		{"marked in off", "off", func(w *impl.World) { setMarks(w, lost) }},
		{"marked in off", "off", func(w *impl.World) { setMarks(w, ringA, ringB, ringC, twin, leaf, self, big) }},
		{"marked where swept", "swept", func(w *impl.World) { w.Spans[0].Mark = 1 }},
		{"marked where swept", "sweep", func(w *impl.World) { w.Spans[1].Swept, w.Spans[1].Mark = true, 4 }},
	}
}

func wrongMarks() []moment {
	return []moment{
		{"kept root", "setup", func(w *impl.World) { w.Gc.Next = 3 }},
		{"kept root", "setup", func(w *impl.World) { w.Muts[0].Roots[5] = lost }},
		{"kept root", "seen", func(w *impl.World) { w.Muts[1].Roots[0] = alone }},
		{"kept root", "mark", func(w *impl.World) { w.Muts[1].Roots[5] = lost }},
		{"kept root", "term", func(w *impl.World) { w.Muts[2].Roots[0] = lost }},
		{"kept root", "term", func(w *impl.World) { setMarks(w, ringA, ringB, ringC, leaf, self, big) }},
		{"kept pointer", "setup", func(w *impl.World) { w.Gc.Grey = []int{twin} }},
		{"kept pointer", "setup", func(w *impl.World) { setMarks(w, ringA, twin, lost) }},
		{"kept pointer", "mark", func(w *impl.World) { setWords(w, ringA, lost) }},
		{"kept pointer", "mark", func(w *impl.World) { w.Gc.Grey = []int{leaf, big} }},
		{"kept pointer", "mark", func(w *impl.World) { w.Gc.Grey = []int{leaf, ringB} }},
		{"kept pointer", "term", func(w *impl.World) { setMarks(w, ringA, ringB, ringC, twin, self, big) }},
		{"kept pointer", "term", func(w *impl.World) { setWords(w, self, lost) }},
		// the way from B in Grey ends at C, which is marked and will not be looked at again
		{"kept pointer", "mark", func(w *impl.World) {
			setMarks(w, ringA, ringB, ringC, twin, leaf, big)
			setWords(w, ringC, 0, lost)
		}},
	}
}

func TestWorldOkAsksForEachThing(t *testing.T) {
	for _, m := range slices.Concat(wrongWays(), wrongRounds(), wrongMarks()) {
		wantMoment(t, m, m.what)
	}
}

// In PhOff what is in Grey is never marked, so that two things are wrong at once.
func TestGreyInOff(t *testing.T) {
	for _, addr := range []int{ringA, lost, 0, 102} {
		w := ringWorld(t)
		w.Gc.Grey = []int{addr}
		wantWrong(t, "grey in off", w, "grey in phase", "grey not marked")
	}
	w := ringWorld(t)
	w.Gc.Grey = []int{ringA}
	setMarks(&w, ringA, ringB)
	wantWrong(t, "grey and marks in off", w, "grey in phase", "marked in off")
}

// Next is right at both its ends, and not one past them; in the other phases it is 0.
func TestNextInEachPhase(t *testing.T) {
	for muts := 1; muts <= impl.MaxMuts; muts++ {
		for phase := impl.PhOff; phase <= impl.PhSweep; phase++ {
			for next := -1; next <= muts+1; next++ {
				w := newWorld(t, 32, 1, muts)
				w.Gc.Phase, w.Gc.Next = phase, next
				want := next == 0 || phase == impl.PhSetup && next >= 0 && next <= muts
				if impl.WorldOk(w) != want {
					t.Errorf("phase %d, next %d of %d muts: WorldOk = %v", phase, next, muts, !want)
				}
			}
		}
	}
}

// settled is w with just those roots and spans that WorldOk lets stand in mixedWorld.
func settled(w impl.World) impl.World {
	w = roomy(w)
	for k := range w.Spans {
		w.Spans[k].Swept = false
	}
	for m := range w.Muts {
		for i, root := range w.Muts[m].Roots {
			if root != 96 && root != 176 {
				w.Muts[m].Roots[i] = 0
			}
		}
	}
	return w
}

func TestWhatIsNotFormOkIsNotRight(t *testing.T) {
	wantWrong(t, "what is broken below", settled(mixedWorld()))
	for name, w := range brokenWorlds() {
		t.Run(name, func(t *testing.T) {
			if impl.WorldOk(w) || impl.WorldOk(settled(w)) {
				t.Error("WorldOk")
			}
			wantList(t, "RootsOf", impl.RootsOf(w))
			wantList(t, "Reach", impl.Reach(w, []int{96, 104, 160, 176, 192}))
			for _, addr := range []int{0, 32, 96, 160} {
				wantList(t, "Pointers", impl.Pointers(w, addr))
			}
			if impl.Seen(w, 0) {
				t.Error("Seen")
			}
			if w.Gc.Phase == impl.PhMark {
				w.Gc.Phase = impl.PhSweep
			}
			if impl.Doomed(w, 96) || impl.Doomed(w, 160) || impl.Doomed(w, 192) {
				t.Error("Doomed")
			}
		})
	}
}

func TestRightMemory(t *testing.T) {
	for name, w := range ringWorlds(t) {
		setWords(&w, ringB, ringC, ringA, leaf)
		given := roomy([]int{lost, 0, big, lost, ringC, 5})
		wantUnwritten(t, name, w, func(w impl.World) {
			wantUnwritten(t, name+": from", given, func(from []int) {
				for _, addr := range []int{ringB, self, lost} {
					wantOwnMemory(t, name, w, from, impl.Pointers(w, addr), impl.Pointers(w, addr),
						impl.Reach(w, from), impl.Reach(w, from), impl.RootsOf(w), impl.RootsOf(w))
				}
				wantOwnMemory(t, name, from[:1], impl.Reach(w, []int{self}), impl.Reach(w, from[:1]))
			})
			for m := -1; m < 4; m++ {
				impl.Seen(w, m)
			}
			impl.Doomed(w, lost)
			impl.WorldOk(w)
		})
	}
}

// closed is the set of what list leads to: what is in it, and what that leads to.
func closed(list map[int]thing, set map[int]bool) map[int]bool {
	for before := -1; before < len(set); {
		before = len(set)
		for addr, o := range list {
			for _, p := range o.ptrs {
				if _, is := list[p]; is && set[addr] {
					set[p] = true
				}
			}
		}
	}
	return set
}

func someOf(rnd *rand.Rand, list []int) int {
	if len(list) == 0 {
		return 0
	}
	return list[rnd.Intn(len(list))]
}

// randomHeap has objects, pointers and roots of any kind, and is in PhOff.
func randomHeap(t *testing.T, rnd *rand.Rand) impl.World {
	t.Helper()
	w := newWorld(t, 32*(1+rnd.Intn(9)), 1+rnd.Intn(5), 1+rnd.Intn(3))
	var objects []int
	for range 1 + rnd.Intn(14) {
		n := 1 + rnd.Intn(5+rnd.Intn(12))
		if next, addr, ok := impl.Take(w, n, rnd.Intn(n+1)); ok {
			w, objects = next, append(objects, addr)
		}
	}
	for range rnd.Intn(3) {
		i := rnd.Intn(len(objects))
		w = give(t, w, objects[i])
		if objects = slices.Delete(objects, i, i+1); len(objects) == 0 {
			return w
		}
	}
	list := thingsOf(w)
	for _, addr := range addressesOf(list) {
		for i := range list[addr].ptrs {
			list[addr].ptrs[i] = []int{0, someOf(rnd, objects), someOf(rnd, objects)}[rnd.Intn(3)]
		}
	}
	for range rnd.Intn(6) {
		w.Muts[rnd.Intn(len(w.Muts))].Roots[rnd.Intn(6)] = someOf(rnd, objects)
	}
	return w
}

// goOn puts w, which is in PhOff, into a moment of a round in which it is right.
func goOn(w *impl.World, rnd *rand.Rand) {
	w.Gc.Phase = rnd.Intn(5)
	list := thingsOf(*w)
	marked := map[int]bool{}
	for _, addr := range addressesOf(list) {
		if w.Gc.Phase != impl.PhOff && rnd.Intn(4) == 0 {
			marked[addr] = true
		}
	}
	if w.Gc.Phase == impl.PhSetup {
		w.Gc.Next = rnd.Intn(len(w.Muts) + 1)
	}
	for m := range w.Muts {
		for _, root := range w.Muts[m].Roots {
			if root != 0 && w.Gc.Phase != impl.PhOff && (w.Gc.Phase != impl.PhSetup || m < w.Gc.Next) {
				marked[root] = true
			}
		}
	}
	switch w.Gc.Phase {
	case impl.PhTerm:
		marked = closed(list, marked)
	case impl.PhSweep:
		for k := range w.Spans {
			w.Spans[k].Swept = rnd.Intn(2) == 0
		}
		for addr := range list {
			if k, _ := impl.Find(*w, addr); w.Spans[k].Swept {
				marked[addr] = true
			}
		}
		marked = closed(list, marked)
	}
	setMarks(w, addressesOf(marked)...)
	if w.Gc.Phase == impl.PhSetup || w.Gc.Phase == impl.PhMark {
		w.Gc.Grey = addressesOf(marked)
		rnd.Shuffle(len(w.Gc.Grey), func(i, j int) {
			w.Gc.Grey[i], w.Gc.Grey[j] = w.Gc.Grey[j], w.Gc.Grey[i]
		})
	}
	for k := range w.Spans {
		if w.Spans[k].Swept {
			w.Spans[k].Mark = 0
		}
	}
}

// disturb changes one thing, which may leave w right or not.
func disturb(w *impl.World, rnd *rand.Rand) {
	list := thingsOf(*w)
	objects := addressesOf(list)
	addr := someOf(rnd, objects)
	switch what := rnd.Intn(12); {
	case what < 2:
		w.Muts[rnd.Intn(len(w.Muts))].Roots[rnd.Intn(6)] = addr
	case what < 4 && len(list[addr].ptrs) > 0:
		ptrs := list[addr].ptrs
		ptrs[rnd.Intn(len(ptrs))] = someOf(rnd, objects)
	case what < 6 && addr > 0:
		k, slot := impl.Find(*w, addr)
		w.Spans[k].Mark ^= 1 << slot
	case what < 10 && len(w.Gc.Grey) > 0:
		i := rnd.Intn(len(w.Gc.Grey))
		w.Gc.Grey = slices.Delete(w.Gc.Grey, i, i+1)
	case what == 10:
		w.Muts[0].Roots[rnd.Intn(6)] = rnd.Intn(500)
	case what == 11 && rnd.Intn(3) == 0:
		w.Gc.Phase = rnd.Intn(5)
	}
}

// wantReach holds Reach from the addresses from against the model and against Pointers.
func wantReach(t *testing.T, w impl.World, from []int) {
	t.Helper()
	list := thingsOf(w)
	set := map[int]bool{}
	for _, addr := range from {
		if _, is := list[addr]; is {
			set[addr] = true
		}
	}
	got := impl.Reach(w, from)
	wantList(t, "Reach", got, addressesOf(closed(list, set))...)
	for _, addr := range got {
		for _, p := range impl.Pointers(w, addr) {
			if k, _ := impl.Find(w, p); k >= 0 && !slices.Contains(got, p) {
				t.Errorf("Reach(%v) = %v, but %d leads to %d", from, got, addr, p)
			}
		}
	}
}

// wantStay fails if a root, or what is got at from roots, is not there or Doomed.
func wantStay(t *testing.T, w impl.World) {
	t.Helper()
	got := impl.Reach(w, impl.RootsOf(w))
	for _, root := range impl.RootsOf(w) {
		if !slices.Contains(got, root) {
			t.Errorf("all is right, but nothing is at root %d", root)
		}
	}
	for _, addr := range got {
		if impl.Doomed(w, addr) {
			t.Errorf("all is right, but %d is got at and Doomed", addr)
		}
	}
}

func TestWhatIsRightAgainstAModel(t *testing.T) {
	right, wrong := map[int]int{}, map[string]int{}
	for seed := range 4000 {
		rnd := rand.New(rand.NewSource(int64(seed)))
		w := randomHeap(t, rnd)
		goOn(&w, rnd)
		wantWrong(t, fmt.Sprintf("seed %d, not disturbed", seed), w)
		for range rnd.Intn(6) {
			disturb(&w, rnd)
			asked := wrongIn(w)
			wantWrong(t, fmt.Sprintf("seed %d", seed), w, asked...)
			if len(asked) == 0 {
				right[w.Gc.Phase]++
				wantStay(t, w)
			}
			if len(asked) == 1 {
				wrong[asked[0]]++
			}
		}
		wantReach(t, w, impl.RootsOf(w))
		wantReach(t, w, []int{w.Base + 2*rnd.Intn(16), w.Base + 32, w.Base + 2*rnd.Intn(16)})
	}
	t.Logf("right by phase %v, wrong alone %v", right, wrong)
	for phase := impl.PhOff; phase <= impl.PhSweep; phase++ {
		if right[phase] < 20 {
			t.Errorf("phase %d was right but %d times", phase, right[phase])
		}
	}
	for _, name := range []string{"root", "pointer", "kept root", "kept pointer", "grey not marked"} {
		if wrong[name] < 20 {
			t.Errorf("%s was wrong alone but %d times", name, wrong[name])
		}
	}
}
