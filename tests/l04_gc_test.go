package tests

import (
	"fmt"
	"math"
	"math/rand"
	"reflect"
	"slices"
	"testing"

	"loop.example/g00690/impl"
)

func wantWorld(t *testing.T, what string, got impl.World, want impl.World) {
	t.Helper()
	if !same(got, want) {
		t.Errorf("%s: the World is\n%+v, want\n%+v", what, got, want)
	}
}

func wantZero(t *testing.T, what string, got impl.World) {
	t.Helper()
	if !reflect.DeepEqual(got, impl.World{}) {
		t.Errorf("%s = %+v, want the zero value", what, got)
	}
}

// wantStep holds a step of w against w with change, and asks whether all is right behind it.
func wantStep(t *testing.T, what string, w impl.World, change func(w *impl.World)) impl.World {
	t.Helper()
	wantWrong(t, what+", ahead", w)
	want := roomy(w)
	change(&want)
	got := impl.GcStep(w)
	wantWorld(t, what, got, want)
	wantWrong(t, what+", behind", got)
	return got
}

// wantRefused fails if one of the five functions takes a w that is not WorldOk.
func wantRefused(t *testing.T, w impl.World) {
	t.Helper()
	for _, addr := range []int{0, 1, ringA, lost, 96, 160} {
		wantZero(t, "Shade", impl.Shade(w, addr))
	}
	next, ok := impl.GcStart(w)
	if wantZero(t, "GcStart", next); ok {
		t.Error("GcStart = true")
	}
	wantZero(t, "GcStep", impl.GcStep(w))
	for _, n := range []int{-1, 0, 1, 10000, 10001} {
		wantZero(t, fmt.Sprintf("GcRun %d", n), impl.GcRun(w, n))
	}
	if left := impl.StepsLeft(w); left != 0 {
		t.Errorf("StepsLeft = %d, want 0", left)
	}
}

func TestRoundsRefuseWhatIsNotRight(t *testing.T) { eachNotRight(t, wantRefused) }

// eachNotRight asks about Worlds that are not WorldOk, for all reasons there are.
func eachNotRight(t *testing.T, ask func(t *testing.T, w impl.World)) {
	t.Helper()
	for name, w := range brokenWorlds() {
		t.Run(name, func(t *testing.T) {
			ask(t, w)
			ask(t, settled(w))
		})
	}
	for _, m := range slices.Concat(wrongWays(), wrongRounds(), wrongMarks(), wrongInEachPhase()) {
		t.Run(m.world+", "+m.what, func(t *testing.T) {
			w := ringWorlds(t)[m.world]
			m.change(&w)
			ask(t, w)
		})
	}
}

// wrongInEachPhase has form, Next, Grey and a root all as they should not be, one phase after the other.
func wrongInEachPhase() []moment {
	var list []moment
	for _, name := range []string{"off", "start", "setup", "seen", "mark", "term", "sweep", "swept"} {
		list = append(list,
			moment{"form", name, func(w *impl.World) { w.Words = w.Words[1:] }},
			moment{"next", name, func(w *impl.World) { w.Gc.Next = -1 }},
			moment{"grey", name, func(w *impl.World) { w.Gc.Grey = append(w.Gc.Grey, 5) }},
			moment{"root", name, func(w *impl.World) { w.Muts[1].Roots[4] = 5 }},
		)
	}
	return list
}

func TestShade(t *testing.T) {
	for name, w := range ringWorlds(t) {
		for addr := -3; addr < 64+128+40; addr++ {
			want := roomy(w)
			modelShade(&want, addr)
			got := impl.Shade(w, addr)
			wantWorld(t, fmt.Sprintf("%s: Shade(%d)", name, addr), got, want)
			wantWrong(t, name+": behind Shade", got)
		}
		for _, addr := range []int{math.MinInt, math.MaxInt, ringA + 1<<32, -ringA, lost + math.MinInt} {
			wantWorld(t, name+": Shade of nothing", impl.Shade(w, addr), w)
		}
	}
}

func TestShadePutsBehindGrey(t *testing.T) {
	for name, change := range map[string]func(w *impl.World){
		"start": func(w *impl.World) { setMarks(w, lost); w.Gc.Grey = []int{lost} },
		"setup": func(w *impl.World) { setMarks(w, ringA, twin, lost); w.Gc.Grey = []int{ringA, twin, lost} },
		"seen":  func(w *impl.World) { setMarks(w, ringA, twin, big, lost); w.Gc.Grey = []int{ringA, twin, big, lost} },
		"mark": func(w *impl.World) {
			setMarks(w, ringA, ringB, twin, leaf, big, lost)
			w.Gc.Grey = []int{ringB, leaf, big, lost}
		},
	} {
		w := ringWorlds(t)[name]
		want := ringWorlds(t)[name]
		change(&want)
		got := impl.Shade(w, lost)
		wantWorld(t, name+": Shade of what is lost", got, want)
		wantWorld(t, name+": Shade once more", impl.Shade(got, lost), want)
	}
}

// Shade changes nothing where there is nothing to mark, and in the other phases.
func TestShadeLeavesTheWorldAsItIs(t *testing.T) {
	for name, w := range ringWorlds(t) {
		addrs := []int{0, 1, ringA + 1, 102, 192, 63}
		switch name {
		case "setup", "seen":
			addrs = append(addrs, ringA, twin)
		case "mark":
			addrs = append(addrs, ringA, ringB, twin, leaf, big)
		case "off", "term", "sweep", "swept":
			addrs = append(addrs, ringA, ringB, ringC, twin, leaf, self, alone, big, lost)
		}
		for _, addr := range addrs {
			wantWorld(t, fmt.Sprintf("%s: Shade(%d)", name, addr), impl.Shade(w, addr), w)
		}
	}
}

func TestGcStartInEachPhase(t *testing.T) {
	for name, w := range ringWorlds(t) {
		next, ok := impl.GcStart(w)
		if name != "off" {
			if wantZero(t, name+": GcStart", next); ok {
				t.Errorf("%s: GcStart = true", name)
			}
			continue
		}
		want := roomy(w)
		want.Gc.Phase = impl.PhSetup
		if wantWorld(t, "GcStart", next, want); !ok {
			t.Error("GcStart = false")
		}
		wantWrong(t, "behind GcStart", next)
	}
	w, ok := impl.GcStart(newWorld(t, 32, 1, 1))
	if !ok || w.Gc.Phase != impl.PhSetup || w.Gc.Next != 0 || len(w.Gc.Grey) != 0 {
		t.Errorf("GcStart where nothing is: %+v, %v", w.Gc, ok)
	}
}

func TestStepsInOffAndTerm(t *testing.T) {
	wantStep(t, "off", ringWorlds(t)["off"], func(w *impl.World) {})
	dirty := ringWorlds(t)["off"]
	dirty.Dirty[3], dirty.Gc.Grey = true, []int{}
	wantStep(t, "off, dirty", dirty, func(w *impl.World) {})
	wantStep(t, "term", ringWorlds(t)["term"], func(w *impl.World) { w.Gc.Phase = impl.PhSweep })
}

func TestStepsInSetup(t *testing.T) {
	w := ringWorlds(t)["start"]
	w = wantStep(t, "A, 0, twin, A", w, func(w *impl.World) {
		setMarks(w, ringA, twin)
		w.Gc.Next, w.Gc.Grey = 1, []int{ringA, twin}
	})
	w = wantStep(t, "no roots", w, func(w *impl.World) { w.Gc.Next = 2 })
	w = wantStep(t, "big, and A again", w, func(w *impl.World) {
		setMarks(w, ringA, twin, big)
		w.Gc.Next, w.Gc.Grey = 3, []int{ringA, twin, big}
	})
	wantStep(t, "all muts", w, func(w *impl.World) { w.Gc.Phase, w.Gc.Next = impl.PhMark, 0 })
	w = ringWorlds(t)["start"]
	copy(w.Muts[0].Roots, []int{lost, self, 0, lost, twin, ringB})
	wantStep(t, "roots in order", w, func(w *impl.World) {
		setMarks(w, lost, self, twin, ringB)
		w.Gc.Next, w.Gc.Grey = 1, []int{lost, self, twin, ringB}
	})
	setMarks(&w, self, alone, ringB)
	w.Gc.Grey = []int{self}
	setWords(&w, ringB, 0, 0, 0)
	wantStep(t, "roots that are marked", w, func(w *impl.World) {
		setMarks(w, self, alone, ringB, lost, twin)
		w.Gc.Next, w.Gc.Grey = 1, []int{self, lost, twin}
	})
}

// With one mut the least Next is the greatest one less one.
func TestStepsInSetupOfOneMut(t *testing.T) {
	w := newWorld(t, 32, 1, 1)
	w.Gc.Phase = impl.PhSetup
	w = wantStep(t, "one mut", w, func(w *impl.World) { w.Gc.Next = 1 })
	w = wantStep(t, "one mut that was looked at", w, func(w *impl.World) { w.Gc.Phase, w.Gc.Next = impl.PhMark, 0 })
	w = wantStep(t, "nothing to mark", w, func(w *impl.World) { w.Gc.Phase = impl.PhTerm })
	w = wantStep(t, "nothing to end", w, func(w *impl.World) { w.Gc.Phase = impl.PhSweep })
	wantStep(t, "nothing to sweep", w, func(w *impl.World) { w.Gc.Phase = impl.PhOff })
}

func TestStepsInMark(t *testing.T) {
	marks := []int{ringA, ringB, twin, leaf, big}
	w := ringWorlds(t)["mark"]
	w = wantStep(t, "big", w, func(w *impl.World) {
		setMarks(w, append(marks, self)...)
		w.Gc.Grey = []int{ringB, leaf, self}
	})
	w = wantStep(t, "self, which leads to itself", w, func(w *impl.World) { w.Gc.Grey = []int{ringB, leaf} })
	w = wantStep(t, "leaf, which leads to nothing", w, func(w *impl.World) { w.Gc.Grey = []int{ringB} })
	w = wantStep(t, "B", w, func(w *impl.World) {
		setMarks(w, append(marks, self, ringC)...)
		w.Gc.Grey = []int{ringC}
	})
	w = wantStep(t, "C, which closes the ring", w, func(w *impl.World) { w.Gc.Grey = nil })
	wantStep(t, "nothing in grey", w, func(w *impl.World) { w.Gc.Phase = impl.PhTerm })
	w = ringWorlds(t)["mark"]
	setWords(&w, big, lost, 0, ringC, lost)
	wantStep(t, "pointers in order", w, func(w *impl.World) {
		setMarks(w, append(marks, lost, ringC)...)
		w.Gc.Grey = []int{ringB, leaf, lost, ringC}
	})
	w.Gc.Grey = []int{big, ringB, leaf}
	setWords(&w, leaf, lost)
	wantStep(t, "a number that looks like a pointer", w, func(w *impl.World) { w.Gc.Grey = []int{big, ringB} })
}

func TestStepsInSweep(t *testing.T) {
	w := ringWorlds(t)["sweep"]
	setWords(&w, alone, 0, 9)
	w = wantStep(t, "page 0, where all are marked", w, func(w *impl.World) {
		w.Spans[0].Mark, w.Spans[0].Swept = 0, true
	})
	w = wantStep(t, "page 1, where one is not", w, func(w *impl.World) {
		w.Spans[1].Mark, w.Spans[1].Swept = 0, true
		w.Spans[1].Lens[2], w.Spans[1].Ptrs[2], w.Words[37], w.Dirty[4] = 0, 0, 0, true
	})
	w = wantStep(t, "page 2, where one is not", w, func(w *impl.World) {
		w.Spans[2].Mark, w.Spans[2].Swept = 0, true
		w.Spans[2].Lens[1], w.Spans[2].Ptrs[1], w.Dirty[10], w.Dirty[11] = 0, 0, true, true
		clear(w.Words[80:96])
	})
	wantStep(t, "all pages swept", w, func(w *impl.World) {
		w.Gc.Phase = impl.PhOff
		w.Spans[0].Swept, w.Spans[1].Swept, w.Spans[2].Swept = false, false, false
	})
}

// What is given away has its whole slot's cards Dirty, however short it was.
func TestSweepDirtiesWholeSlots(t *testing.T) {
	w := ringWorlds(t)["sweep"]
	w.Spans[2].Lens[0], w.Spans[2].Ptrs[0] = 9, 0
	copy(w.Muts[2].Roots, make([]int, 6))
	setMarks(&w)
	copy(w.Muts[0].Roots, make([]int, 6))
	w.Spans[0].Swept, w.Spans[1].Swept = true, true
	setWords(&w, lost, 0, 0, 0, 0, 0, 0, 0, 0, 0, 0, 0, 0, 0, 0, 0, 0)
	w.Spans[2].Lens[1], w.Spans[2].Ptrs[1] = 1, 0
	wantStep(t, "two short ones", w, func(w *impl.World) {
		clear(w.Words[64:96])
		w.Dirty[8], w.Dirty[9], w.Dirty[10], w.Dirty[11] = true, true, true, true
		w.Spans = w.Spans[:2]
	})
}

func TestSweepTakesSpansAway(t *testing.T) {
	w := ringWorlds(t)["sweep"]
	setMarks(&w)
	clear(w.Muts[0].Roots)
	clear(w.Muts[2].Roots)
	w = wantStep(t, "page 0", w, func(w *impl.World) {
		clear(w.Words[:32])
		w.Dirty[0], w.Dirty[1] = true, true
		w.Spans = w.Spans[1:]
	})
	w = wantStep(t, "page 1", w, func(w *impl.World) {
		clear(w.Words[32:64])
		w.Dirty[4] = true
		w.Spans = w.Spans[1:]
	})
	w = wantStep(t, "page 2", w, func(w *impl.World) {
		clear(w.Words)
		w.Dirty[8], w.Dirty[9], w.Dirty[10], w.Dirty[11] = true, true, true, true
		w.Spans = nil
	})
	wantStep(t, "no page", w, func(w *impl.World) { w.Gc.Phase = impl.PhOff })
}

// Spans that are Swept are passed over, wherever they stand.
func TestSweepGoesToTheFirstThatIsNotSwept(t *testing.T) {
	w := ringWorlds(t)["swept"]
	wantStep(t, "behind page 0", w, func(w *impl.World) {
		w.Spans[1].Mark, w.Spans[1].Swept = 0, true
		w.Spans[1].Lens[2], w.Spans[1].Ptrs[2], w.Dirty[4] = 0, 0, true
	})
	w.Spans[0].Swept, w.Spans[1].Swept = false, true
	setMarks(&w, ringA, ringB, ringC, twin, big)
	w = wantStep(t, "ahead of page 1", w, func(w *impl.World) { w.Spans[0].Mark, w.Spans[0].Swept = 0, true })
	wantStep(t, "behind page 1", w, func(w *impl.World) {
		clear(w.Words[80:96])
		w.Spans[2].Mark, w.Spans[2].Swept = 0, true
		w.Spans[2].Lens[1], w.Spans[2].Ptrs[1], w.Dirty[10], w.Dirty[11] = 0, 0, true, true
	})
}

// A span without a used slot is taken away by its step, and by no other one.
func TestSweepOfASpanWithoutAUsedSlot(t *testing.T) {
	w := ringWorlds(t)["sweep"]
	w.Spans = append(w.Spans, impl.Span{Page: 3, Class: 2, Lens: make([]int, 4), Ptrs: make([]int, 4)})
	setMarks(&w, ringA, ringB, ringC, twin, leaf, self, alone, big, lost)
	for range 3 {
		w = impl.GcStep(w)
	}
	if len(w.Spans) != 4 || w.Spans[3].Swept || impl.StepsLeft(w) != 2 {
		t.Errorf("spans %+v, %d steps left", w.Spans, impl.StepsLeft(w))
	}
	wantStep(t, "nothing used", w, func(w *impl.World) { w.Spans = w.Spans[:3] })
	w.Spans[3].Swept = true
	wantStep(t, "nothing used, but swept", w, func(w *impl.World) {
		w.Gc.Phase = impl.PhOff
		for k := range w.Spans {
			w.Spans[k].Swept = false
		}
	})
}

func TestGcRun(t *testing.T) {
	for name, w := range ringWorlds(t) {
		for _, n := range []int{math.MinInt, -10000, -1, 10001, 20000, 1 << 32, 1<<32 + 1, math.MaxInt} {
			wantZero(t, fmt.Sprintf("%s: GcRun(%d)", name, n), impl.GcRun(w, n))
		}
		wantWorld(t, name+": GcRun(0)", impl.GcRun(w, 0), w)
		wantWorld(t, name+": GcRun(1)", impl.GcRun(w, 1), impl.GcStep(w))
		step := w
		for n := range 40 {
			wantWorld(t, fmt.Sprintf("%s: GcRun(%d)", name, n), impl.GcRun(w, n), step)
			step = impl.GcStep(step)
		}
		if step.Gc.Phase != impl.PhOff {
			t.Errorf("%s: phase %d behind 40 steps", name, step.Gc.Phase)
		}
		wantWorld(t, name+": GcRun(10000)", impl.GcRun(w, 10000), step)
		wantWorld(t, name+": GcRun(9999)", impl.GcRun(w, 9999), step)
	}
}

// ringWorld has 9 objects, 3 spans and 3 muts.
func TestStepsLeft(t *testing.T) {
	want := map[string]int{
		"off":   0,
		"start": 4 + 3 + 9 + 0 + 3,
		"setup": 4 + 3 + 7 + 2 + 2,
		"seen":  4 + 3 + 6 + 3 + 0,
		"mark":  3 + 3 + 4 + 3,
		"term":  2 + 3,
		"sweep": 1 + 3,
		"swept": 1 + 2,
	}
	for name, w := range ringWorlds(t) {
		if left := impl.StepsLeft(w); left != want[name] {
			t.Errorf("%s: StepsLeft = %d, want %d", name, left, want[name])
		}
		wantEnough(t, name, w)
	}
	w := newWorld(t, 32, 1, 2)
	for phase, left := range []int{0, 6, 3, 2, 1} {
		if w.Gc.Phase = phase; impl.StepsLeft(w) != left {
			t.Errorf("nothing there, phase %d: StepsLeft = %d, want %d", phase, impl.StepsLeft(w), left)
		}
		wantEnough(t, "nothing there", w)
	}
	w = ringWorlds(t)["swept"]
	setMarks(&w)
	w.Spans[1].Swept, w.Spans[2].Swept = true, true
	if left := impl.StepsLeft(w); left != 1 {
		t.Errorf("all swept: StepsLeft = %d, want 1", left)
	}
}

// wantEnough fails if as many steps as StepsLeft tells do not end the round.
func wantEnough(t *testing.T, what string, w impl.World) {
	t.Helper()
	left := impl.StepsLeft(w)
	if w = impl.GcRun(w, left); w.Gc.Phase != impl.PhOff || len(w.Words) == 0 || impl.StepsLeft(w) != 0 {
		t.Errorf("%s: behind %d steps phase %d", what, left, w.Gc.Phase)
	}
}

// modelStepsLeft counts the sums of chapter 4, each as it is written there.
func modelStepsLeft(w impl.World) int {
	unmarked, unswept, spans, grey := 0, 0, len(w.Spans), len(w.Gc.Grey)
	for _, o := range thingsOf(w) {
		if !o.marked {
			unmarked++
		}
	}
	for _, s := range w.Spans {
		if !s.Swept {
			unswept++
		}
	}
	switch w.Gc.Phase {
	case impl.PhSweep:
		return 1 + unswept
	case impl.PhTerm:
		return 2 + spans
	case impl.PhMark:
		return 3 + spans + unmarked + grey
	case impl.PhSetup:
		return 4 + spans + unmarked + grey + len(w.Muts) - w.Gc.Next
	}
	return 0
}

// modelShade shades addr in w, by the span whose page has it.
func modelShade(w *impl.World, addr int) {
	o, is := thingsOf(*w)[addr]
	if !is || o.marked || w.Gc.Phase != impl.PhSetup && w.Gc.Phase != impl.PhMark {
		return
	}
	for k := range w.Spans {
		if s := &w.Spans[k]; s.Page == (addr-w.Base)/32 {
			s.Mark += 1 << ((addr - w.Base) % 32 / []int{2, 4, 8, 16}[s.Class])
		}
	}
	w.Gc.Grey = append(slices.Clip(w.Gc.Grey), addr)
}

// modelStep goes one step of w, which is right.
func modelStep(w *impl.World) {
	switch next := w.Gc.Next; w.Gc.Phase {
	case impl.PhSetup:
		if next == len(w.Muts) {
			w.Gc.Phase, w.Gc.Next = impl.PhMark, 0
			break
		}
		for _, root := range w.Muts[next].Roots {
			modelShade(w, root)
		}
		w.Gc.Next = next + 1
	case impl.PhMark:
		if len(w.Gc.Grey) == 0 {
			w.Gc.Phase = impl.PhTerm
			break
		}
		last := w.Gc.Grey[len(w.Gc.Grey)-1]
		w.Gc.Grey = slices.Clone(w.Gc.Grey[:len(w.Gc.Grey)-1])
		for _, p := range thingsOf(*w)[last].ptrs {
			modelShade(w, p)
		}
	case impl.PhTerm:
		w.Gc.Phase = impl.PhSweep
	case impl.PhSweep:
		modelSweep(w)
	}
}

func modelSweep(w *impl.World) {
	for k := range w.Spans {
		s := &w.Spans[k]
		if s.Swept {
			continue
		}
		size := []int{2, 4, 8, 16}[s.Class]
		for slot := range s.Lens {
			if s.Lens[slot] == 0 || s.Mark>>slot%2 == 1 {
				continue
			}
			s.Lens[slot], s.Ptrs[slot] = 0, 0
			for word := s.Page*32 + slot*size; word < s.Page*32+slot*size+size; word++ {
				w.Words[word], w.Dirty[word/8] = 0, true
			}
		}
		s.Mark, s.Swept = 0, true
		if slices.Max(s.Lens) == 0 {
			w.Spans = slices.Delete(w.Spans, k, k+1)
		}
		return
	}
	w.Gc.Phase = impl.PhOff
	for k := range w.Spans {
		w.Spans[k].Swept = false
	}
}

// wordsAt is how many words the object at addr has, by the span whose page has it; 0, if there is no such span.
func wordsAt(w impl.World, addr int) int {
	for _, s := range w.Spans {
		if s.Page == (addr-w.Base)/32 {
			return s.Lens[(addr-w.Base)%32/[]int{2, 4, 8, 16}[s.Class]]
		}
	}
	return 0
}

// gotAt tells all that those who hold handles can come to: the roots, and of each
// object that can be got at from there its place, its pointers and its words.
func gotAt(w impl.World) string {
	list := thingsOf(w)
	set := map[int]bool{}
	for _, mut := range w.Muts {
		for _, root := range mut.Roots {
			set[root] = root != 0
		}
	}
	delete(set, 0)
	text := fmt.Sprint(w.Base, w.Pages, w.Muts)
	for _, addr := range addressesOf(closed(list, set)) {
		n := wordsAt(w, addr)
		text += fmt.Sprint("; ", addr, len(list[addr].ptrs), w.Words[addr-w.Base:addr-w.Base+n])
	}
	return text
}

// wantRound goes on from w until PhOff, and holds each step against the model and
// against what could be got at; shades is how often something else is shaded between.
func wantRound(t *testing.T, what string, w impl.World, rnd *rand.Rand, shades int) impl.World {
	t.Helper()
	got, enough := gotAt(w), impl.StepsLeft(w)
	for steps := 0; ; steps++ {
		if left := impl.StepsLeft(w); left != modelStepsLeft(w) || steps+left > enough || (left == 0) != (w.Gc.Phase == impl.PhOff) {
			t.Fatalf("%s: behind %d of %d steps StepsLeft = %d, want %d", what, steps, enough, left, modelStepsLeft(w))
		}
		if w.Gc.Phase == impl.PhOff {
			return w
		}
		want := roomy(w)
		if addr := someOf(rnd, addressesOf(thingsOf(w))); rnd.Intn(4) < shades {
			modelShade(&want, addr)
			w = impl.Shade(w, addr)
		}
		modelStep(&want)
		w = impl.GcStep(w)
		if wantWorld(t, what, w, want); t.Failed() {
			t.FailNow()
		}
		wantWrong(t, what, w)
		if now := gotAt(w); now != got {
			t.Fatalf("%s: what can be got at is\n%s, was\n%s", what, now, got)
		}
	}
}

// From any moment of a round on, all stays right, and nothing that can be got at changes.
func TestRoundsAgainstAModel(t *testing.T) {
	phases := map[int]int{}
	for seed := range 1500 {
		rnd := rand.New(rand.NewSource(int64(seed)))
		w := randomHeap(t, rnd)
		goOn(&w, rnd)
		for range rnd.Intn(4) {
			other := roomy(w)
			if disturb(&other, rnd); len(wrongIn(other)) == 0 {
				w = other
			}
		}
		phases[w.Gc.Phase]++
		wantEnough(t, "at once", w)
		wantRound(t, fmt.Sprintf("seed %d", seed), w, rnd, seed%2)
	}
	for phase := impl.PhOff; phase <= impl.PhSweep; phase++ {
		if phases[phase] < 100 {
			t.Errorf("phase %d came but %d times", phase, phases[phase])
		}
	}
}

// wantJustWhatIsGotAt fails if there is an object that can not be got at, or a span for nothing.
func wantJustWhatIsGotAt(t *testing.T, what string, w impl.World) {
	t.Helper()
	wantList(t, what+": objects", addressesOf(thingsOf(w)), impl.Reach(w, impl.RootsOf(w))...)
	for _, s := range w.Spans {
		if slices.Max(s.Lens) == 0 {
			t.Errorf("%s: a span without a used slot at page %d", what, s.Page)
		}
	}
	wantWrong(t, what, w)
}

func TestAWholeRoundLeavesJustWhatCanBeGotAt(t *testing.T) {
	lostWords := 0
	for seed := range 1500 {
		rnd := rand.New(rand.NewSource(int64(seed)))
		w := randomHeap(t, rnd)
		used := impl.UsedWords(w)
		start, ok := impl.GcStart(w)
		if !ok {
			t.Fatalf("seed %d: GcStart is refused", seed)
		}
		done := wantRound(t, fmt.Sprintf("seed %d", seed), start, rnd, 0)
		wantJustWhatIsGotAt(t, fmt.Sprintf("seed %d", seed), done)
		lostWords += used - impl.UsedWords(done)
		again, _ := impl.GcStart(done)
		wantWorld(t, "one more round", impl.GcRun(again, impl.StepsLeft(again)), done)
		if gotAt(done) != gotAt(w) {
			t.Errorf("seed %d: what can be got at is\n%s, was\n%s", seed, gotAt(done), gotAt(w))
		}
	}
	if lostWords < 10000 {
		t.Errorf("but %d words were given away", lostWords)
	}
}

// In the ring and in self circles are held from roots; then they are not, and go all the same.
func TestCirclesAreSweptUp(t *testing.T) {
	w := ringWorld(t)
	round := func() {
		t.Helper()
		start, _ := impl.GcStart(w)
		w = impl.GcRun(start, impl.StepsLeft(start))
		wantJustWhatIsGotAt(t, "a round", w)
	}
	round()
	wantList(t, "objects", addressesOf(thingsOf(w)), ringA, ringB, ringC, twin, leaf, self, big)
	clear(w.Muts[0].Roots)
	round()
	wantList(t, "objects", addressesOf(thingsOf(w)), ringA, ringB, ringC, leaf, self, big)
	w.Muts[2].Roots[5] = self
	round()
	wantList(t, "objects", addressesOf(thingsOf(w)), leaf, self, big)
	clear(w.Muts[2].Roots)
	round()
	if len(w.Spans) != 0 || impl.FreeWords(w) != 128 || slices.Max(w.Words) != 0 || slices.Min(w.Words) != 0 {
		t.Errorf("nothing is held, and %+v is there", w)
	}
}

// A full World whose objects make one row: the greatest number of steps that a round can take.
func TestTheLongestRound(t *testing.T) {
	w := newWorld(t, impl.MaxBase, 12, 3)
	for i := range 192 {
		w, _ = take(t, w, 2, 2)
		if i > 0 {
			setWords(&w, impl.MaxBase+2*i-2, 0, impl.MaxBase+2*i)
		}
	}
	w.Muts[2].Roots[5] = impl.MaxBase
	start, _ := impl.GcStart(w)
	left := impl.StepsLeft(start)
	if left != 4+12+192+3 {
		t.Errorf("StepsLeft = %d, want 211", left)
	}
	if impl.GcRun(start, left-1).Gc.Phase == impl.PhOff {
		t.Error("a row of 192 is marked in fewer steps than it has objects")
	}
	wantWorld(t, "all is held", impl.GcRun(start, left), w)
	w.Muts[2].Roots[5] = 0
	start, _ = impl.GcStart(w)
	done := impl.GcRun(start, impl.StepsLeft(start))
	if impl.FreeWords(done) != 384 || len(dirtyCards(done)) != 48 || done.Gc.Phase != impl.PhOff {
		t.Errorf("nothing is held: %d words free, phase %d", impl.FreeWords(done), done.Gc.Phase)
	}
}

func TestRoundMemory(t *testing.T) {
	worlds := ringWorlds(t)
	bare := ringWorlds(t)["sweep"]
	setMarks(&bare)
	clear(bare.Muts[0].Roots)
	clear(bare.Muts[2].Roots)
	worlds["bare"] = bare
	for name, w := range worlds {
		wantUnwritten(t, name, w, func(w impl.World) {
			a, _ := impl.GcStart(w)
			b, _ := impl.GcStart(w)
			wantOwnMemory(t, name+": GcStart", w, a, b)
			for _, addr := range []int{0, ringA, alone, lost} {
				wantOwnMemory(t, name+": Shade", w, impl.Shade(w, addr), impl.Shade(w, addr))
			}
			wantOwnMemory(t, name+": GcStep", w, impl.GcStep(w), impl.GcStep(w))
			for _, n := range []int{-1, 0, 1, 2, 5, 100, 10001} {
				wantOwnMemory(t, name+": GcRun", w, impl.GcRun(w, n), impl.GcRun(w, n))
			}
			impl.StepsLeft(w)
		})
		for steps := range 20 {
			wantUnwritten(t, name+", gone on with", impl.GcRun(w, steps), func(w impl.World) {
				wantOwnMemory(t, name, w, impl.GcStep(w), impl.Shade(w, lost))
			})
		}
	}
}
