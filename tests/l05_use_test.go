package tests

import (
	"fmt"
	"math"
	"math/rand"
	"reflect"
	"slices"
	"testing"

	"loop.example/g00690/impl"
)

// code is an answer that refuses.
func code(n int) impl.Ans { return impl.Ans{Code: n} }

// unlisted are Kinds that are none.
var unlisted = []int{0, 10, -1, 11, 257, 1<<32 + 1, math.MinInt, math.MaxInt}

// wantDo does op to w, holds the answer against want, and the World behind it
// against w with change (nil: as it was).
func wantDo(t *testing.T, what string, w impl.World, op impl.Op, want impl.Ans, change func(w *impl.World)) impl.World {
	t.Helper()
	what = fmt.Sprintf("%s: %+v", what, op)
	wantWrong(t, what+", ahead", w)
	behind := roomy(w)
	if change != nil {
		change(&behind)
	}
	got, answer := impl.Do(w, op)
	if answer != want {
		t.Errorf("%s: the answer is %+v, want %+v", what, answer, want)
	}
	wantWorld(t, what, got, behind)
	wantWrong(t, what+", behind", got)
	return got
}

// wantForm fails if Do answers anything but AnForm and the zero value.
func wantForm(t *testing.T, w impl.World, op impl.Op) {
	t.Helper()
	next, answer := impl.Do(w, op)
	if wantZero(t, fmt.Sprintf("Do %+v", op), next); answer != code(impl.AnForm) {
		t.Errorf("Do %+v answers %+v, want AnForm", op, answer)
	}
}

// wantNothing fails if DoAll does any of l.
func wantNothing(t *testing.T, w impl.World, l []impl.Op) {
	t.Helper()
	next, answers := impl.DoAll(w, l)
	if wantZero(t, "DoAll", next); len(answers) != 0 {
		t.Errorf("DoAll answers %+v, want nothing", answers)
	}
}

// ofEachKind has each of list with each Kind, and with two that are none.
func ofEachKind(list []impl.Op) []impl.Op {
	var all []impl.Op
	for kind := impl.OpAlloc - 1; kind <= impl.OpLen+1; kind++ {
		for _, op := range list {
			op.Kind = kind
			all = append(all, op)
		}
	}
	return all
}

func wantUnused(t *testing.T, w impl.World) {
	t.Helper()
	all := ofEachKind([]impl.Op{{N: 1}, {M: 2, H: 4, G: 5}, {M: -1}})
	for _, op := range all {
		wantForm(t, w, op)
	}
	wantNothing(t, w, nil)
	wantNothing(t, w, []impl.Op{{Kind: impl.OpSame}})
	wantNothing(t, w, all)
	wantNothing(t, w, make([]impl.Op, 1001))
}

func TestUseConstants(t *testing.T) {
	got := []int{impl.OpAlloc, impl.OpLoad, impl.OpStore, impl.OpSet, impl.OpGet, impl.OpDrop, impl.OpSame, impl.OpCopy, impl.OpLen,
		impl.AnOk, impl.AnForm, impl.AnHandle, impl.AnSize, impl.AnIndex, impl.AnMemory}
	wantList(t, "constants of use", got, 1, 2, 3, 4, 5, 6, 7, 8, 9, 0, 1, 2, 3, 4, 5)
}

func TestUseRefusesWhatIsNotRight(t *testing.T) {
	wantUnused(t, impl.World{})
	eachNotRight(t, wantUnused)
}

// A Kind that is none counts ahead of all else that is not right.
func TestKindsThatAreNone(t *testing.T) {
	for name, w := range ringWorlds(t) {
		for _, kind := range unlisted {
			op := impl.Op{Kind: kind, H: 1, N: 1, V: 1}
			for _, op := range []impl.Op{op, {Kind: kind}, {Kind: kind, M: -1, H: 9, G: -9, I: 99, N: 99, V: 99}} {
				wantForm(t, w, op)
				next, answers := impl.DoAll(w, []impl.Op{op})
				wantWorld(t, name+": DoAll", next, w)
				if !slices.Equal(answers, []impl.Ans{code(impl.AnForm)}) {
					t.Errorf("%s: DoAll of %+v answers %+v", name, op, answers)
				}
			}
		}
	}
}

// The first free slots of ringWorld are 80 (page 0), 102 (page 1) and, as page 2
// is full, 160 (page 3, which is no span).
func TestAllocInEachPhase(t *testing.T) {
	inPage := func(k int, slot int, n int, p int, marked bool, card int) func(w *impl.World) {
		return func(w *impl.World) {
			w.Spans[k].Lens[slot], w.Spans[k].Ptrs[slot], w.Dirty[card] = n, p, true
			if marked {
				w.Spans[k].Mark |= 1 << slot
			}
		}
	}
	for name, w := range ringWorlds(t) {
		round := name != "off"
		wantDo(t, name, w, impl.Op{Kind: impl.OpAlloc, M: 1, H: 5, N: 3, V: 2}, impl.Ans{}, func(w *impl.World) {
			inPage(0, 4, 3, 2, round && name != "swept", 2)(w)
			w.Muts[1].Roots[5] = 80
		})
		wantDo(t, name, w, impl.Op{Kind: impl.OpAlloc, M: 0, H: 0, N: 1}, impl.Ans{}, func(w *impl.World) {
			inPage(1, 3, 1, 0, round, 4)(w)
			w.Muts[0].Roots[0] = 102
		})
		wantDo(t, name, w, impl.Op{Kind: impl.OpAlloc, M: 2, H: 1, N: 16, V: 16}, impl.Ans{}, func(w *impl.World) {
			sweep := w.Gc.Phase == impl.PhSweep
			w.Spans = append(w.Spans, impl.Span{Page: 3, Class: 3, Swept: sweep, Lens: make([]int, 2), Ptrs: make([]int, 2)})
			inPage(3, 0, 16, 16, round && !sweep, 12)(w)
			w.Dirty[13], w.Muts[2].Roots[1] = true, 160
		})
	}
}

// In the midst of sweeping, each span tells for itself whether what is new in it is marked.
func TestAllocWhereSwept(t *testing.T) {
	for swept := range 8 {
		w := ringWorlds(t)["sweep"]
		setWords(&w, lost+2, 0) // which would lead to the alone
		for k := range w.Spans {
			if swept>>k&1 == 1 {
				w.Spans[k].Swept, w.Spans[k].Mark = true, 0
			}
		}
		for k, n := range []int{4, 2} {
			is := swept>>k&1 == 1
			wantDo(t, fmt.Sprintf("swept %03b", swept), w, impl.Op{Kind: impl.OpAlloc, N: n, H: 3}, impl.Ans{}, func(w *impl.World) {
				slot := 4 - k
				w.Spans[k].Lens[slot], w.Dirty[k*4+(slot*n/8)] = n, true
				if !is {
					w.Spans[k].Mark |= 1 << slot
				}
				w.Muts[0].Roots[3] = 64 + 32*k + slot*n
			})
		}
		if swept == 0 {
			continue
		}
		w, answers := impl.DoAll(w, []impl.Op{{Kind: impl.OpAlloc, H: 4, N: 8}, {Kind: impl.OpAlloc, H: 5, N: 8, V: 8}})
		if answers[0].Code != 0 || answers[1].Code != 0 || !w.Spans[3].Swept || w.Spans[3].Mark != 0 || w.Muts[0].Roots[5] != 168 {
			t.Errorf("swept %03b: two in a new span: %+v, %+v", swept, answers, w.Spans[3])
		}
	}
}

func TestAllocSizes(t *testing.T) {
	for name, w := range ringWorlds(t) {
		for _, n := range []int{math.MinInt, -1, 0, 17, 32, 1<<32 + 1, math.MaxInt} {
			for _, v := range []int{-1, 0, 1, 16, n} {
				wantDo(t, name, w, impl.Op{Kind: impl.OpAlloc, M: 1, N: n, V: v}, code(impl.AnSize), nil)
			}
		}
		for _, n := range []int{1, 2, 8, 15, 16} {
			for _, v := range []int{math.MinInt, -1, n + 1, 1 << 32, math.MaxInt} {
				wantDo(t, name, w, impl.Op{Kind: impl.OpAlloc, M: 1, N: n, V: v}, code(impl.AnSize), nil)
			}
		}
	}
	w := newWorld(t, 32, 1, 1)
	for n := 1; n <= impl.MaxWords; n++ {
		for v := 0; v <= n; v++ {
			next, answer := impl.Do(w, impl.Op{Kind: impl.OpAlloc, H: 5, N: n, V: v})
			took, _ := take(t, w, n, v)
			took.Muts[0].Roots[5] = 32
			if wantWorld(t, fmt.Sprintf("alloc %d %d", n, v), next, took); answer != (impl.Ans{}) {
				t.Errorf("alloc %d %d answers %+v", n, v, answer)
			}
		}
	}
}

// In the last free slot and in the last page there is room; behind that there is none, for any size.
func TestAllocWithNoRoom(t *testing.T) {
	for n := 1; n <= impl.MaxWords; n++ {
		for phase := impl.PhOff; phase <= impl.PhSweep; phase++ {
			what := fmt.Sprintf("%d words, phase %d", n, phase)
			size := impl.ClassSize(impl.ClassOf(n))
			w := newWorld(t, 64, 2, 1)
			w.Gc.Phase = phase
			for i := range 64 / size {
				var answer impl.Ans
				w, answer = impl.Do(w, impl.Op{Kind: impl.OpAlloc, N: n, V: n})
				if answer != (impl.Ans{}) || w.Muts[0].Roots[0] != 64+i*size {
					t.Fatalf("%s: object number %d at %d: %+v", what, i, w.Muts[0].Roots[0], answer)
				}
			}
			for m := 1; m <= impl.MaxWords; m++ {
				wantDo(t, what, w, impl.Op{Kind: impl.OpAlloc, N: m, V: m}, code(impl.AnMemory), nil)
			}
		}
	}
}

// Words that are free are no room, if no slot of the class and no page is free.
func TestAllocWithRoomForOtherClasses(t *testing.T) {
	w := newWorld(t, 32, 3, 2)
	for _, n := range []int{2, 4, 16} {
		w, _ = impl.Do(w, impl.Op{Kind: impl.OpAlloc, M: 1, H: n % 5, N: n})
	}
	for _, n := range []int{5, 8} {
		wantDo(t, "no page", w, impl.Op{Kind: impl.OpAlloc, N: n}, code(impl.AnMemory), nil)
	}
	for n, addr := range map[int]int{1: 34, 2: 34, 3: 68, 4: 68, 9: 112, 16: 112} {
		next, answer := impl.Do(w, impl.Op{Kind: impl.OpAlloc, N: n})
		if answer != (impl.Ans{}) || next.Muts[0].Roots[0] != addr {
			t.Errorf("%d words at %d, want %d: %+v", n, next.Muts[0].Roots[0], addr, answer)
		}
	}
}

// What is Doomed has its slot until it is swept up.
func TestAllocBesideWhatIsDoomed(t *testing.T) {
	w := newWorld(t, 32, 1, 1)
	w, _ = impl.Do(w, impl.Op{Kind: impl.OpAlloc, N: 16})
	w, _ = impl.Do(w, impl.Op{Kind: impl.OpAlloc, H: 1, N: 16})
	w, _ = impl.Do(w, impl.Op{Kind: impl.OpDrop})
	w, _ = impl.GcStart(w)
	for w.Gc.Phase != impl.PhSweep {
		wantDo(t, "ahead of sweeping", w, impl.Op{Kind: impl.OpAlloc, N: 16}, code(impl.AnMemory), nil)
		w = impl.GcStep(w)
	}
	wantDo(t, "doomed", w, impl.Op{Kind: impl.OpAlloc, N: 16}, code(impl.AnMemory), nil)
	w = impl.GcStep(w)
	w = wantDo(t, "swept up", w, impl.Op{Kind: impl.OpAlloc, N: 16, V: 1}, impl.Ans{}, func(w *impl.World) {
		w.Spans[0].Lens[0], w.Spans[0].Ptrs[0], w.Muts[0].Roots[0] = 16, 1, 32
	})
	wantDo(t, "full", w, impl.Op{Kind: impl.OpAlloc, N: 16}, code(impl.AnMemory), nil)
}

func TestLoadInEachPhase(t *testing.T) {
	for name, w := range ringWorlds(t) {
		load := func(m int, h int, i int, want int) {
			t.Helper()
			for g := range impl.MaxRoots {
				wantDo(t, name, w, impl.Op{Kind: impl.OpLoad, M: m, H: h, I: i, G: g, N: -1, V: -1}, impl.Ans{}, func(w *impl.World) {
					w.Muts[m].Roots[g] = want
				})
			}
		}
		load(0, 0, 0, ringB)
		load(2, 5, 0, ringB)
		load(2, 4, 0, self)
		load(2, 4, 1, leaf)
		load(2, 4, 2, 0)
		load(2, 4, 3, self)
	}
}

func TestSetGetAndLenInEachPhase(t *testing.T) {
	for name, w := range ringWorlds(t) {
		for _, x := range []struct{ m, h, i, word, card, val int }{
			{0, 0, 1, 1, 0, -5}, {0, 3, 2, 2, 0, 6}, {0, 2, 0, 12, 1, ringA}, {0, 2, 3, 15, 1, -1},
			{2, 4, 4, 68, 8, lost}, {2, 4, 5, 69, 8, 1}, {2, 4, 7, 71, 8, 0}, {2, 4, 8, 72, 9, 0},
		} {
			get := impl.Op{Kind: impl.OpGet, M: x.m, H: x.h, I: x.i, G: 9, V: 7, N: -1}
			wantDo(t, name, w, get, impl.Ans{Val: x.val}, nil)
			for _, v := range []int{0, 5, x.val, ringB, lost, math.MinInt, math.MaxInt} {
				next := wantDo(t, name, w, impl.Op{Kind: impl.OpSet, M: x.m, H: x.h, I: x.i, V: v, G: -1, N: 99}, impl.Ans{}, func(w *impl.World) {
					w.Words[x.word], w.Dirty[x.card] = v, true
				})
				wantDo(t, name+", set", next, get, impl.Ans{Val: v}, nil)
			}
		}
		for _, x := range [][3]int{{0, 0, 3}, {0, 2, 4}, {0, 3, 3}, {2, 4, 9}, {2, 5, 3}} {
			wantDo(t, name, w, impl.Op{Kind: impl.OpLen, M: x[0], H: x[1], I: 99, G: -1, N: 99, V: 99}, impl.Ans{Val: x[2]}, nil)
		}
	}
}

func TestDropSameAndCopyInEachPhase(t *testing.T) {
	for name, w := range ringWorlds(t) {
		w.Muts[2].Roots[3] = leaf
		for m, mut := range w.Muts {
			for h := range impl.MaxRoots {
				wantDo(t, name, w, impl.Op{Kind: impl.OpDrop, M: m, H: h, G: 6, I: -1, N: 99, V: 99}, impl.Ans{}, func(w *impl.World) {
					w.Muts[m].Roots[h] = 0
				})
				for g := range impl.MaxRoots {
					val := 0
					if mut.Roots[h] == mut.Roots[g] {
						val = 1
					}
					wantDo(t, name, w, impl.Op{Kind: impl.OpSame, M: m, H: h, G: g, I: -1, N: 99, V: 99}, impl.Ans{Val: val}, nil)
					wantDo(t, name, w, impl.Op{Kind: impl.OpCopy, M: m, H: h, G: g, I: -1, N: 99, V: 99}, impl.Ans{}, func(w *impl.World) {
						w.Muts[m].Roots[g] = mut.Roots[h]
					})
				}
			}
		}
	}
}

func TestSameByHand(t *testing.T) {
	w := ringWorld(t)
	for _, x := range [][4]int{{0, 0, 3, 1}, {0, 0, 0, 1}, {0, 0, 2, 0}, {0, 0, 1, 0}, {0, 1, 0, 0}, {0, 1, 4, 1}, {0, 1, 1, 1}, {1, 0, 5, 1}, {2, 4, 5, 0}} {
		wantDo(t, "same", w, impl.Op{Kind: impl.OpSame, M: x[0], H: x[1], G: x[2]}, impl.Ans{Val: x[3]}, nil)
	}
}

// storing is one OpStore in one of ringWorlds, where the roots of mut 0 and 2 are
// changed so that handle 1 of each Mut has root; word is the one that is written.
type storing struct {
	world string
	root  int
	op    impl.Op
	word  int
	grey  []int // what is shaded, in order
}

func (s storing) run(t *testing.T) {
	t.Helper()
	w := ringWorlds(t)[s.world]
	w.Muts[s.op.M].Roots[1] = s.root
	s.op.Kind = impl.OpStore
	wantDo(t, s.world, w, s.op, impl.Ans{}, func(w *impl.World) {
		w.Words[s.word], w.Dirty[s.word/8] = w.Muts[s.op.M].Roots[s.op.G], true
		for _, addr := range s.grey {
			k, slot := impl.Find(*w, addr)
			w.Spans[k].Mark |= 1 << slot
			w.Gc.Grey = append(w.Gc.Grey, addr)
		}
	})
}

// In the ring A.0 is B, and pointers 0 to 3 of big are self, leaf, 0 and self.
func TestStoreShades(t *testing.T) {
	for _, s := range []storing{
		// nobody is Seen: what was there, then what comes
		{"start", lost, impl.Op{M: 0, H: 0, I: 0, G: 1}, 0, []int{ringB, lost}},
		{"start", lost, impl.Op{M: 2, H: 4, I: 0, G: 1}, 64, []int{self, lost}},
		{"start", lost, impl.Op{M: 2, H: 4, I: 2, G: 1}, 66, []int{lost}},
		{"start", lost, impl.Op{M: 2, H: 4, I: 3, G: 0}, 67, []int{self}},
		{"start", lost, impl.Op{M: 2, H: 4, I: 2, G: 0}, 66, nil},
		{"start", self, impl.Op{M: 2, H: 4, I: 0, G: 1}, 64, []int{self}},
		{"start", 0, impl.Op{M: 0, H: 0, I: 0, G: 0}, 0, []int{ringB, ringA}},
		{"start", self, impl.Op{M: 2, H: 1, I: 0, G: 4}, 34, []int{self, big}},
		{"start", lost, impl.Op{M: 0, H: 1, I: 15, G: 2}, 95, []int{ringA, twin}},
		{"start", lost, impl.Op{M: 0, H: 1, I: 7, G: 1}, 87, []int{lost}},
		// mut 0 is Seen, mut 2 is not; A and twin are marked already
		{"setup", ringC, impl.Op{M: 0, H: 0, I: 0, G: 1}, 0, []int{ringB}},
		{"setup", leaf, impl.Op{M: 0, H: 0, I: 0, G: 1}, 0, []int{ringB}},
		{"setup", ringB, impl.Op{M: 0, H: 1, I: 1, G: 1}, 5, nil},
		{"setup", ringB, impl.Op{M: 0, H: 1, I: 2, G: 4}, 6, []int{leaf}},
		{"setup", lost, impl.Op{M: 2, H: 4, I: 1, G: 1}, 65, []int{leaf, lost}},
		{"setup", ringC, impl.Op{M: 2, H: 5, I: 0, G: 1}, 0, []int{ringB, ringC}},
		{"setup", ringC, impl.Op{M: 2, H: 1, I: 1, G: 4}, 9, []int{big}},
		{"setup", 0, impl.Op{M: 2, H: 5, I: 0, G: 1}, 0, []int{ringB}},
		// all are Seen: what was there alone
		{"seen", ringC, impl.Op{M: 0, H: 0, I: 0, G: 1}, 0, []int{ringB}},
		{"seen", leaf, impl.Op{M: 2, H: 4, I: 0, G: 1}, 64, []int{self}},
		{"seen", leaf, impl.Op{M: 2, H: 4, I: 2, G: 1}, 66, nil},
		{"seen", 0, impl.Op{M: 2, H: 4, I: 1, G: 1}, 65, []int{leaf}},
		{"mark", ringC, impl.Op{M: 0, H: 1, I: 1, G: 1}, 9, nil},
		{"mark", ringC, impl.Op{M: 2, H: 4, I: 3, G: 1}, 67, []int{self}},
		{"mark", 0, impl.Op{M: 2, H: 4, I: 0, G: 0}, 64, []int{self}},
		{"mark", ringB, impl.Op{M: 2, H: 1, I: 0, G: 4}, 4, []int{ringC}},
		{"mark", self, impl.Op{M: 2, H: 1, I: 0, G: 4}, 34, []int{self}},
	} {
		s.run(t)
	}
}

// In the other phases nothing is shaded, whatever is not marked.
func TestStoreShadesNothingElse(t *testing.T) {
	for _, name := range []string{"off", "term", "sweep", "swept"} {
		for _, s := range []storing{
			{name, leaf, impl.Op{M: 0, H: 0, I: 0, G: 1}, 0, nil},
			{name, 0, impl.Op{M: 0, H: 0, I: 0, G: 1}, 0, nil},
			{name, ringC, impl.Op{M: 2, H: 4, I: 0, G: 1}, 64, nil},
			{name, ringC, impl.Op{M: 2, H: 4, I: 2, G: 1}, 66, nil},
			{name, ringC, impl.Op{M: 2, H: 1, I: 0, G: 2}, 8, nil},
		} {
			s.run(t)
		}
	}
	storing{"off", lost, impl.Op{M: 0, H: 1, I: 2, G: 0}, 82, nil}.run(t)
	storing{"off", lost, impl.Op{M: 2, H: 1, I: 15, G: 1}, 95, nil}.run(t)
}

// Of an object with two cards just that of the word is Dirty, whether the word is another one then or not.
func TestStoreAndSetDirtyOneCard(t *testing.T) {
	for i := range 16 {
		for _, ptrs := range []int{0, 16} {
			w := newWorld(t, 32, 2, 1)
			w, _ = take(t, w, 2, 0)
			w, _ = impl.Do(w, impl.Op{Kind: impl.OpAlloc, N: 16, V: ptrs})
			clear(w.Dirty)
			kind := impl.OpSet
			if ptrs > 0 {
				kind = impl.OpStore
			}
			for _, op := range []impl.Op{{Kind: kind, I: i, G: 1}, {Kind: kind, I: i, V: 7}} {
				next, answer := impl.Do(w, op)
				if wantDirty(t, next, 4+i/8); answer != (impl.Ans{}) {
					t.Errorf("%+v answers %+v", op, answer)
				}
			}
		}
	}
}

// G counts just for those Kinds that ask for it; the others go on without.
func TestHandles(t *testing.T) {
	asksG := []int{impl.OpLoad, impl.OpStore, impl.OpSame, impl.OpCopy}
	for name, w := range ringWorlds(t) {
		w.Muts[0].Roots[5], w.Muts[2].Roots[0] = twin, big
		for kind := impl.OpAlloc; kind <= impl.OpLen; kind++ {
			// what is done to H where all is right: A has pointer 0 and number 1
			op := impl.Op{Kind: kind, N: 1}
			if kind == impl.OpSet || kind == impl.OpGet {
				op.I = 1
			}
			for _, off := range []int{-1, 3, math.MinInt, math.MaxInt, 1 << 32} {
				op := op
				op.M = off
				wantDo(t, name, w, op, code(impl.AnHandle), nil)
			}
			for _, off := range []int{-1, impl.MaxRoots, math.MinInt, math.MaxInt, 1 << 32} {
				other := op
				other.H = off
				wantDo(t, name, w, other, code(impl.AnHandle), nil)
				other = op
				other.G = off
				if slices.Contains(asksG, kind) {
					wantDo(t, name, w, other, code(impl.AnHandle), nil)
					continue
				}
				next, answer := impl.Do(w, op)
				if world, same := impl.Do(w, other); answer.Code != 0 || same != answer {
					t.Errorf("%s: %+v answers %+v, want %+v", name, other, same, answer)
				} else {
					wantWorld(t, name, world, next)
				}
			}
			for _, edge := range []impl.Op{{M: 0, H: 0, G: 5}, {M: 0, H: 0, G: 0}, {M: 2, H: 5, G: 0}, {M: 2, H: 5, G: 5}} {
				edge.Kind, edge.I, edge.N = op.Kind, op.I, op.N
				if _, answer := impl.Do(w, edge); answer.Code != impl.AnOk {
					t.Errorf("%s: %+v answers %+v", name, edge, answer)
				}
			}
		}
	}
}

func TestHandlesThatAreEmpty(t *testing.T) {
	for name, w := range ringWorlds(t) {
		for _, kind := range []int{impl.OpLoad, impl.OpStore, impl.OpSet, impl.OpGet, impl.OpLen} {
			for i := -1; i < 3; i++ {
				wantDo(t, name, w, impl.Op{Kind: kind, M: 0, H: 1, G: 0, I: i}, code(impl.AnHandle), nil)
				wantDo(t, name, w, impl.Op{Kind: kind, M: 1, H: 5, G: 5, I: i}, code(impl.AnHandle), nil)
				wantDo(t, name, w, impl.Op{Kind: kind, M: 2, H: 0, G: 4, I: i}, code(impl.AnHandle), nil)
			}
		}
		wantDo(t, name, w, impl.Op{Kind: impl.OpDrop, M: 1, H: 5}, impl.Ans{}, nil)
		wantDo(t, name, w, impl.Op{Kind: impl.OpSame, M: 1, H: 5, G: 0}, impl.Ans{Val: 1}, nil)
		wantDo(t, name, w, impl.Op{Kind: impl.OpCopy, M: 0, H: 1, G: 4}, impl.Ans{}, nil)
		wantDo(t, name, w, impl.Op{Kind: impl.OpCopy, M: 0, H: 1, G: 0}, impl.Ans{}, func(w *impl.World) { w.Muts[0].Roots[0] = 0 })
	}
}

// Each object has its pointers first, then its numbers, and nothing before or behind.
func TestIndexes(t *testing.T) {
	for _, size := range [][2]int{{1, 0}, {1, 1}, {2, 1}, {3, 2}, {4, 0}, {4, 4}, {9, 4}, {16, 0}, {16, 1}, {16, 15}, {16, 16}} {
		n, p := size[0], size[1]
		w := newWorld(t, 32, 3, 1)
		w, _ = impl.Do(w, impl.Op{Kind: impl.OpAlloc, H: 2, N: n, V: p})
		w, _ = impl.Do(w, impl.Op{Kind: impl.OpAlloc, H: 3, N: n, V: p})
		for i := -2; i < 20; i++ {
			for _, i := range []int{i, i + 1<<32, i + math.MinInt, i + math.MaxInt - 30} {
				for kind, is := range map[int]bool{
					impl.OpLoad:  i >= 0 && i < p,
					impl.OpStore: i >= 0 && i < p,
					impl.OpSet:   i >= p && i < n,
					impl.OpGet:   i >= p && i < n,
				} {
					op := impl.Op{Kind: kind, H: 2, G: 3, I: i, V: -9}
					if !is {
						wantDo(t, fmt.Sprint(size), w, op, code(impl.AnIndex), nil)
					} else if _, answer := impl.Do(w, op); answer != (impl.Ans{}) {
						t.Errorf("%v: %+v answers %+v", size, op, answer)
					}
				}
			}
		}
	}
}

// refusal is an operation for which two codes both would fit, and the one that comes first.
type refusal struct {
	op   impl.Op
	want int
}

// refusals are such ones where there is no room, there are two Muts, handle 0 has
// an object of 8 pointers and 8 numbers, handle 1 one of numbers, and the others
// are empty.
func refusals() []refusal {
	return []refusal{
		{impl.Op{Kind: impl.OpAlloc, M: 2, N: 17}, impl.AnHandle},
		{impl.Op{Kind: impl.OpAlloc, H: 6, N: 0, V: 1}, impl.AnHandle},
		{impl.Op{Kind: impl.OpAlloc, H: -1, N: 1}, impl.AnHandle},
		{impl.Op{Kind: impl.OpAlloc, M: -1, N: 16}, impl.AnHandle},
		{impl.Op{Kind: impl.OpAlloc, N: 17}, impl.AnSize},
		{impl.Op{Kind: impl.OpAlloc, N: 1, V: 2}, impl.AnSize},
		{impl.Op{Kind: impl.OpAlloc, N: 1}, impl.AnMemory},
		{impl.Op{Kind: impl.OpAlloc, G: 6, I: 99, N: 16, V: 16}, impl.AnMemory},
		{impl.Op{Kind: impl.OpLoad, G: 6, I: 8}, impl.AnHandle},
		{impl.Op{Kind: impl.OpLoad, H: 2, I: -1}, impl.AnHandle},
		{impl.Op{Kind: impl.OpLoad, I: 8, N: 17}, impl.AnIndex},
		{impl.Op{Kind: impl.OpStore, G: -1, I: 8}, impl.AnHandle},
		{impl.Op{Kind: impl.OpStore, M: 1, I: 99}, impl.AnHandle},
		{impl.Op{Kind: impl.OpStore, I: 8, V: -1}, impl.AnIndex},
		{impl.Op{Kind: impl.OpSet, H: 6, I: 7}, impl.AnHandle},
		{impl.Op{Kind: impl.OpSet, H: 5, I: 16}, impl.AnHandle},
		{impl.Op{Kind: impl.OpSet, I: 7, N: 17, V: 1}, impl.AnIndex},
		{impl.Op{Kind: impl.OpGet, M: 2, I: 16}, impl.AnHandle},
		{impl.Op{Kind: impl.OpGet, M: 1, I: 7}, impl.AnHandle},
		{impl.Op{Kind: impl.OpGet, I: 16, N: 17}, impl.AnIndex},
		{impl.Op{Kind: impl.OpSame, H: 2, G: 6}, impl.AnHandle},
		{impl.Op{Kind: impl.OpCopy, H: 6, G: 2}, impl.AnHandle},
		{impl.Op{Kind: impl.OpDrop, H: 6, N: 17}, impl.AnHandle},
		{impl.Op{Kind: impl.OpLen, H: 2, N: 17, I: 99}, impl.AnHandle},
	}
}

func TestTheFirstCodeCounts(t *testing.T) {
	w := newWorld(t, 32, 1, 2)
	w, _ = impl.Do(w, impl.Op{Kind: impl.OpAlloc, N: 16, V: 8})
	w, _ = impl.Do(w, impl.Op{Kind: impl.OpAlloc, H: 1, N: 16})
	for _, x := range refusals() {
		wantDo(t, "full", w, x.op, code(x.want), nil)
	}
}

func TestDoAll(t *testing.T) {
	for name, w := range ringWorlds(t) {
		for _, none := range [][]impl.Op{nil, {}} {
			next, answers := impl.DoAll(w, none)
			if wantWorld(t, name+": DoAll of none", next, w); len(answers) != 0 {
				t.Errorf("%s: DoAll of none answers %v", name, answers)
			}
		}
		ops := []impl.Op{
			{Kind: impl.OpGet, I: 1}, {Kind: impl.OpAlloc, M: 1, H: 0, N: 4, V: 2}, {Kind: 10, M: 1}, {Kind: impl.OpSet, M: 1, I: 3, V: 5},
			{Kind: impl.OpLoad, M: 1, I: 2}, {Kind: impl.OpDrop, M: 3}, {Kind: impl.OpStore, M: 1, I: 1}, {}, {Kind: impl.OpGet, M: 1, I: 3},
			{Kind: impl.OpAlloc, N: 17}, {Kind: -1}, {Kind: impl.OpLen, M: 1}, {Kind: impl.OpAlloc, H: 1, N: 16}, {Kind: impl.OpAlloc, H: 1, N: 16}, {Kind: impl.OpAlloc, N: 16},
		}
		codes := []impl.Ans{{Val: -5}, {}, code(impl.AnForm), {}, code(impl.AnIndex), code(impl.AnHandle), {}, code(impl.AnForm), {Val: 5},
			code(impl.AnSize), code(impl.AnForm), {Val: 4}, {}, {}, code(impl.AnMemory)}
		next, answers := impl.DoAll(w, ops)
		if !slices.Equal(answers, codes) {
			t.Errorf("%s: DoAll answers %v, want %v", name, answers, codes)
		}
		one := w
		for _, op := range ops {
			if now, answer := impl.Do(one, op); answer.Code != impl.AnForm {
				one = now
			}
		}
		wantWorld(t, name+": DoAll", next, one)
		wantWrong(t, name+": behind DoAll", next)
	}
}

// aThousand are operations that write number 1 of what handle h of mut 0 holds, and
// read it again, with one of no Kind in their midst, and their answers. In the end
// the number is 998.
func aThousand(h int) ([]impl.Op, []impl.Ans) {
	ops := make([]impl.Op, 1000, 1001)
	want := make([]impl.Ans, 1000)
	for i := range ops {
		ops[i] = impl.Op{Kind: impl.OpSet, H: h, I: 1, V: i}
		if i%2 == 1 {
			ops[i] = impl.Op{Kind: impl.OpGet, H: h, I: 1}
			want[i].Val = i - 1
		}
	}
	ops[500], want[500], want[501] = impl.Op{Kind: 10}, code(impl.AnForm), impl.Ans{Val: 498}
	return ops, want
}

func TestDoAllOfAThousand(t *testing.T) {
	for name, w := range ringWorlds(t) {
		ops, want := aThousand(0)
		next, answers := impl.DoAll(w, ops)
		if !slices.Equal(answers, want) || next.Words[1] != 998 {
			t.Errorf("%s: a thousand: %v, and %d", name, answers, next.Words[1])
		}
		wantNothing(t, w, append(ops, impl.Op{Kind: impl.OpSame}))
		wantNothing(t, w, make([]impl.Op, 1001))
		wantNothing(t, w, make([]impl.Op, 5000))
		next, answers = impl.DoAll(w, make([]impl.Op, 1000))
		if wantWorld(t, name+": a thousand of none", next, w); !slices.Equal(answers, slices.Repeat([]impl.Ans{code(impl.AnForm)}, 1000)) {
			t.Errorf("%s: a thousand of none: %v", name, answers)
		}
	}
}

func TestUseMemory(t *testing.T) {
	ops := ofEachKind([]impl.Op{{N: 3, V: 1}, {M: 1, H: 3, N: 16}, {M: 2, H: 4, I: 8, G: 2}, {M: 2, H: 5, G: 4}, {M: 2, I: 99, H: 4, N: 99}, {M: -1}})
	for name, w := range ringWorlds(t) {
		wantUnwritten(t, name, w, func(w impl.World) {
			for _, op := range ops {
				a, _ := impl.Do(w, op)
				b, _ := impl.Do(w, op)
				wantOwnMemory(t, fmt.Sprintf("%s: %+v", name, op), w, a, b)
			}
		})
		for _, list := range [][]impl.Op{nil, ops[:1], ops} {
			wantUnwritten(t, name, w, func(w impl.World) {
				wantUnwritten(t, name, list, func(list []impl.Op) {
					a, answersA := impl.DoAll(w, list)
					b, answersB := impl.DoAll(w, list)
					wantOwnMemory(t, name+": DoAll", w, list, a, answersA, b, answersB)
					if !reflect.DeepEqual(a, b) || !slices.Equal(answersA, answersB) {
						t.Errorf("%s: DoAll answers once so, once so", name)
					}
				})
			})
		}
	}
}

// modelTake puts an object of n words into w; 0, if there is no room.
func modelTake(w *impl.World, n int, p int) int {
	class := 0
	for []int{2, 4, 8, 16}[class] < n {
		class++
	}
	size := []int{2, 4, 8, 16}[class]
	for k := range w.Spans {
		s := &w.Spans[k]
		if slot := slices.Index(s.Lens, 0); s.Class == class && slot >= 0 {
			s.Lens[slot], s.Ptrs[slot] = n, p
			for word := s.Page*32 + slot*size; word < s.Page*32+slot*size+n; word++ {
				w.Dirty[word/8] = true
			}
			return w.Base + s.Page*32 + slot*size
		}
	}
	for page := range w.Pages {
		if slices.ContainsFunc(w.Spans, func(s impl.Span) bool { return s.Page == page }) {
			continue
		}
		s := impl.Span{Page: page, Class: class, Swept: w.Gc.Phase == impl.PhSweep, Lens: make([]int, 32/size), Ptrs: make([]int, 32/size)}
		w.Spans = append(slices.Clip(w.Spans), s)
		slices.SortFunc(w.Spans, func(a, b impl.Span) int { return a.Page - b.Page })
		return modelTake(w, n, p)
	}
	return 0
}

// modelRefuses is the first code that fits, but for AnMemory.
func modelRefuses(w impl.World, op impl.Op) int {
	is := func(kinds ...int) bool { return slices.Contains(kinds, op.Kind) }
	in := func(n, from, below int) bool { return n >= from && n < below }
	if !in(op.Kind, 1, 10) {
		return impl.AnForm
	}
	if !in(op.M, 0, len(w.Muts)) || !in(op.H, 0, 6) {
		return impl.AnHandle
	}
	if is(impl.OpLoad, impl.OpStore, impl.OpSame, impl.OpCopy) && !in(op.G, 0, 6) {
		return impl.AnHandle
	}
	addr := w.Muts[op.M].Roots[op.H]
	if is(impl.OpLoad, impl.OpStore, impl.OpSet, impl.OpGet, impl.OpLen) && addr == 0 {
		return impl.AnHandle
	}
	if is(impl.OpAlloc) && (!in(op.N, 1, 17) || !in(op.V, 0, op.N+1)) {
		return impl.AnSize
	}
	ptrs := len(thingsOf(w)[addr].ptrs)
	if is(impl.OpLoad, impl.OpStore) && !in(op.I, 0, ptrs) || is(impl.OpSet, impl.OpGet) && !in(op.I, ptrs, wordsAt(w, addr)) {
		return impl.AnIndex
	}
	return impl.AnOk
}

// modelDo does op to w, which is right, as chapter 5 is written.
func modelDo(w *impl.World, op impl.Op) impl.Ans {
	if refused := modelRefuses(*w, op); refused != impl.AnOk {
		return code(refused)
	}
	roots := w.Muts[op.M].Roots
	word := roots[op.H] - w.Base + op.I
	val := 0
	switch op.Kind {
	case impl.OpAlloc:
		addr := modelTake(w, op.N, op.V)
		if addr == 0 {
			return code(impl.AnMemory)
		}
		roots[op.H] = addr
		k := slices.IndexFunc(w.Spans, func(s impl.Span) bool { return s.Page == (addr-w.Base)/32 })
		s := &w.Spans[k]
		switch phase := w.Gc.Phase; {
		case phase == impl.PhSetup, phase == impl.PhMark, phase == impl.PhTerm, phase == impl.PhSweep && !s.Swept:
			s.Mark += 1 << ((addr - w.Base) % 32 / []int{2, 4, 8, 16}[s.Class])
		}
	case impl.OpLoad:
		roots[op.G] = w.Words[word]
	case impl.OpStore:
		if w.Words[word] != 0 {
			modelShade(w, w.Words[word])
		}
		seen := w.Gc.Phase == impl.PhMark || w.Gc.Phase == impl.PhTerm || w.Gc.Phase == impl.PhSetup && op.M < w.Gc.Next
		if !seen && roots[op.G] != 0 {
			modelShade(w, roots[op.G])
		}
		w.Words[word], w.Dirty[word/8] = roots[op.G], true
	case impl.OpSet:
		w.Words[word], w.Dirty[word/8] = op.V, true
	case impl.OpGet:
		val = w.Words[word]
	case impl.OpDrop:
		roots[op.H] = 0
	case impl.OpSame:
		if roots[op.H] == roots[op.G] {
			val = 1
		}
	case impl.OpCopy:
		roots[op.G] = roots[op.H]
	case impl.OpLen:
		val = wordsAt(*w, roots[op.H])
	}
	return impl.Ans{Val: val}
}

// object is one that lies nowhere, and is never swept up.
type object struct {
	ptrs []*object
	nums []int
}

// shadow holds what those who hold handles have, as objects that lie nowhere.
type shadow [][6]*object

// do is what op does to objects, where it is not refused.
func (s shadow) do(op impl.Op) impl.Ans {
	roots := &s[op.M]
	o := roots[op.H]
	val := 0
	switch op.Kind {
	case impl.OpAlloc:
		roots[op.H] = &object{make([]*object, op.V), make([]int, op.N-op.V)}
	case impl.OpLoad:
		roots[op.G] = o.ptrs[op.I]
	case impl.OpStore:
		o.ptrs[op.I] = roots[op.G]
	case impl.OpSet:
		o.nums[op.I-len(o.ptrs)] = op.V
	case impl.OpGet:
		val = o.nums[op.I-len(o.ptrs)]
	case impl.OpDrop:
		roots[op.H] = nil
	case impl.OpSame:
		if o == roots[op.G] {
			val = 1
		}
	case impl.OpCopy:
		roots[op.G] = o
	case impl.OpLen:
		val = len(o.ptrs) + len(o.nums)
	}
	return impl.Ans{Val: val}
}

// differs tells what w has other than s, among what can be got at from roots.
func (s shadow) differs(w impl.World) string {
	list := thingsOf(w)
	at, back := map[*object]int{}, map[int]*object{}
	var open []*object
	meet := func(o *object, addr int) bool {
		if o == nil || addr == 0 {
			return o == nil && addr == 0
		}
		if _, is := at[o]; !is && back[addr] == nil {
			at[o], back[addr] = addr, o
			open = append(open, o)
		}
		return at[o] == addr && back[addr] == o
	}
	for m, roots := range s {
		for h, o := range roots {
			if !meet(o, w.Muts[m].Roots[h]) {
				return fmt.Sprintf("handle %d of mut %d", h, m)
			}
		}
	}
	for ; len(open) > 0; open = open[1:] {
		o, addr := open[0], at[open[0]]
		first, n := addr-w.Base, wordsAt(w, addr)
		if len(list[addr].ptrs) != len(o.ptrs) || n != len(o.ptrs)+len(o.nums) || !slices.Equal(w.Words[first+len(o.ptrs):first+n], o.nums) {
			return fmt.Sprintf("the object at %d", addr)
		}
		for i, p := range o.ptrs {
			if !meet(p, list[addr].ptrs[i]) {
				return fmt.Sprintf("pointer %d of the object at %d", i, addr)
			}
		}
	}
	return ""
}

// pair is a World and its shadow, which go through the same.
type pair struct {
	w      impl.World
	shadow shadow
}

func newPair(t *testing.T, base int, pages int, muts int) *pair {
	t.Helper()
	return &pair{newWorld(t, base, pages, muts), make(shadow, muts)}
}

// do does all of ops, and holds each against the model, and against objects that lie nowhere.
func (p *pair) do(t *testing.T, what string, ops ...impl.Op) impl.Ans {
	t.Helper()
	var last impl.Ans
	for _, op := range ops {
		what := fmt.Sprintf("%s: %+v in phase %d", what, op, p.w.Gc.Phase)
		want := roomy(p.w)
		answer := modelDo(&want, op)
		got, is := impl.Do(p.w, op)
		if is != answer {
			t.Fatalf("%s: the answer is %+v, want %+v", what, is, answer)
		}
		if is.Code == impl.AnForm {
			got, want = p.w, p.w
		}
		if p.w, last = got, is; !same(got, want) {
			t.Fatalf("%s: the World is\n%+v, want\n%+v", what, got, want)
		}
		if is.Code == impl.AnOk {
			if other := p.shadow.do(op); other != is {
				t.Fatalf("%s: the answer is %+v, that of objects %+v", what, is, other)
			}
		}
		p.want(t, what)
	}
	return last
}

// step goes n steps of a round.
func (p *pair) step(t *testing.T, what string, n int) {
	t.Helper()
	for range n {
		p.w = impl.GcStep(p.w)
		p.want(t, what+": behind a step")
	}
}

func (p *pair) start(t *testing.T) {
	t.Helper()
	w, ok := impl.GcStart(p.w)
	if !ok {
		t.Fatal("GcStart is refused")
	}
	p.w = w
}

// round goes a whole round, behind which there is what can be got at, and nothing else.
func (p *pair) round(t *testing.T, what string) {
	t.Helper()
	p.start(t)
	p.step(t, what, impl.StepsLeft(p.w))
	wantJustWhatIsGotAt(t, what, p.w)
}

// want fails if not all is right, or if what can be got at is not what it should be.
func (p *pair) want(t *testing.T, what string) {
	t.Helper()
	if wrong := wrongIn(p.w); len(wrong) > 0 || !impl.WorldOk(p.w) {
		t.Fatalf("%s: not right: %v", what, wrong)
	}
	if differs := p.shadow.differs(p.w); differs != "" {
		t.Fatalf("%s: other than it should be: %s in\n%+v", what, differs, p.w)
	}
}

// hiding is how one object, with another one behind it, is put out of the way of
// those who go round: what is done at three moments of a round.
type hiding struct {
	name    string
	moments [3][]impl.Op
}

// Both muts hold P (handle 0), whose pointers are X and 0. X is at handle 3 of mut
// 1 too where that is asked for. X has a pointer to Y, and both have a number.
func hidingPair(t *testing.T, held bool) *pair {
	t.Helper()
	p := newPair(t, 64, 2, 2)
	p.do(t, "hiding", []impl.Op{
		{Kind: impl.OpAlloc, N: 3, V: 2}, {Kind: impl.OpAlloc, H: 1, N: 2, V: 1}, {Kind: impl.OpAlloc, H: 2, N: 1},
		{Kind: impl.OpSet, H: 1, I: 1, V: 11}, {Kind: impl.OpSet, H: 2, V: 22},
		{Kind: impl.OpStore, G: 1}, {Kind: impl.OpStore, H: 1, G: 2}, {Kind: impl.OpDrop, H: 1}, {Kind: impl.OpDrop, H: 2},
	}...)
	p.w.Muts[1].Roots[0], p.shadow[1][0] = p.w.Muts[0].Roots[0], p.shadow[0][0]
	if held {
		p.do(t, "hiding", []impl.Op{{Kind: impl.OpLoad, M: 1, G: 3}, {Kind: impl.OpStore, G: 5}}...)
	}
	return p
}

func hidings() []hiding {
	load := func(m int) impl.Op { return impl.Op{Kind: impl.OpLoad, M: m, G: 3} }
	// hide puts X where H's pointer I is; empty makes P's pointer 0 lead nowhere
	hide := func(m int, h int, i int) impl.Op { return impl.Op{Kind: impl.OpStore, M: m, H: h, I: i, G: 3} }
	empty := func(m int) impl.Op { return impl.Op{Kind: impl.OpStore, M: m, G: 5} }
	alloc := func(m int) impl.Op { return impl.Op{Kind: impl.OpAlloc, M: m, H: 4, N: 2, V: 2} }
	drop := func(m int, h int) impl.Op { return impl.Op{Kind: impl.OpDrop, M: m, H: h} }
	both := func(name string, moments func(a int, b int) [3][]impl.Op) []hiding {
		return []hiding{
			{name + ", 0 alone", moments(0, 0)}, {name + ", 0 and 1", moments(0, 1)},
			{name + ", 1 and 0", moments(1, 0)}, {name + ", 1 alone", moments(1, 1)},
		}
	}
	return slices.Concat(
		both("in a handle", func(a, b int) [3][]impl.Op { return [3][]impl.Op{{load(a)}, {empty(b)}, nil} }),
		both("at the other pointer", func(a, b int) [3][]impl.Op {
			return [3][]impl.Op{{load(a)}, {empty(b)}, {hide(a, 0, 1), drop(a, 3)}}
		}),
		both("overwritten by what is new", func(a, b int) [3][]impl.Op {
			return [3][]impl.Op{{load(a), alloc(b)}, {{Kind: impl.OpStore, M: b, G: 4}, drop(b, 4)}, {hide(a, 0, 1), drop(a, 3)}}
		}),
		both("in what is new", func(a, b int) [3][]impl.Op {
			return [3][]impl.Op{{load(a), alloc(a)}, {empty(b), hide(a, 4, 1)}, {drop(a, 3)}}
		}),
		both("in what is new, behind P", func(a, b int) [3][]impl.Op {
			return [3][]impl.Op{{alloc(a), {Kind: impl.OpStore, M: a, I: 1, G: 4}}, {load(b), empty(b)},
				{{Kind: impl.OpLoad, M: b, I: 1, G: 4}, hide(b, 4, 0), drop(b, 3), drop(b, 4), drop(a, 4)}}
		}),
		both("in turns", func(a, b int) [3][]impl.Op {
			return [3][]impl.Op{{load(a), hide(a, 0, 1), drop(a, 3)}, {empty(b)}, {{Kind: impl.OpLoad, M: b, I: 1, G: 3}, hide(b, 0, 0), {Kind: impl.OpStore, M: b, I: 1, G: 5}, drop(b, 3)}}
		}),
	)
}

// hidingsOfAHandle are those of an X that just handle 3 of mut 1 holds.
func hidingsOfAHandle() []hiding {
	hide := impl.Op{Kind: impl.OpStore, M: 1, H: 4, G: 3}
	drop := impl.Op{Kind: impl.OpDrop, M: 1, H: 3}
	alloc := []impl.Op{{Kind: impl.OpAlloc, H: 4, N: 2, V: 1}, {Kind: impl.OpStore, I: 1, G: 4}}
	return []hiding{
		{"in what mut 0 made", [3][]impl.Op{alloc, {{Kind: impl.OpLoad, M: 1, I: 1, G: 4}, hide}, {drop}}},
		{"in what mut 1 made", [3][]impl.Op{{{Kind: impl.OpAlloc, M: 1, H: 4, N: 2, V: 1}}, {hide}, {drop}}},
		{"in P", [3][]impl.Op{nil, {{Kind: impl.OpStore, M: 1, G: 3}}, {drop}}},
		{"in P, and loaded by mut 0", [3][]impl.Op{{{Kind: impl.OpStore, M: 1, G: 3}}, {{Kind: impl.OpLoad, G: 3}, drop}, {{Kind: impl.OpStore, G: 5}}}},
		{"in what is new, which goes behind P", [3][]impl.Op{{{Kind: impl.OpAlloc, M: 1, H: 4, N: 2, V: 1}, hide}, {{Kind: impl.OpStore, M: 1, I: 1, G: 4}, {Kind: impl.OpDrop, M: 1, H: 4}}, {drop}}},
		{"copied and dropped", [3][]impl.Op{{{Kind: impl.OpCopy, M: 1, H: 3, G: 0}}, {drop}, {{Kind: impl.OpLoad, M: 1, H: 0, G: 3}}}},
	}
}

// Whatever the steps are between which it happens, X and Y are there behind the round, and the one behind that.
func TestNothingHiddenIsLost(t *testing.T) {
	for i, list := range [][]hiding{hidings(), hidingsOfAHandle()} {
		for _, h := range list {
			t.Run(h.name, func(t *testing.T) {
				t.Parallel()
				wantFoundAgain(t, h, i == 1)
			})
		}
	}
}

func wantFoundAgain(t *testing.T, h hiding, held bool) {
	t.Helper()
	const steps = 13
	phases := map[int]bool{}
	for first := range steps {
		for second := first; second < steps; second++ {
			for third := second; third < steps; third++ {
				what := fmt.Sprintf("at steps %d, %d and %d", first, second, third)
				p := hidingPair(t, held)
				p.start(t)
				p.step(t, what, first)
				p.do(t, what, h.moments[0]...)
				p.step(t, what, second-first)
				p.do(t, what, h.moments[1]...)
				p.step(t, what, third-second)
				p.do(t, what, h.moments[2]...)
				phases[p.w.Gc.Phase] = true
				p.step(t, what, impl.StepsLeft(p.w))
				p.round(t, what)
			}
		}
	}
	if len(phases) != 5 {
		t.Errorf("phases %v alone", addressesOf(phases))
	}
}

// Two that lead to each other, and one that leads to itself, let go at any step of
// a round: what that leaves, the round behind it sweeps up.
func TestCirclesThatNobodyLeadsTo(t *testing.T) {
	build := []impl.Op{
		{Kind: impl.OpAlloc, N: 2, V: 1}, {Kind: impl.OpAlloc, H: 1, N: 4, V: 2}, {Kind: impl.OpAlloc, H: 2, N: 16, V: 1}, {Kind: impl.OpAlloc, M: 1, H: 5, N: 1},
		{Kind: impl.OpStore, G: 1}, {Kind: impl.OpStore, H: 1, I: 1, G: 0}, {Kind: impl.OpStore, H: 2, G: 2},
	}
	drop := []impl.Op{{Kind: impl.OpDrop}, {Kind: impl.OpDrop, H: 1}, {Kind: impl.OpDrop, H: 2}}
	for steps := range 20 {
		what := fmt.Sprintf("dropped at step %d", steps)
		p := newPair(t, 64, 4, 2)
		p.do(t, what, build...)
		p.round(t, what)
		if impl.UsedWords(p.w) != 2+4+16+2 {
			t.Errorf("%s: %d words used ahead of it", what, impl.UsedWords(p.w))
		}
		p.start(t)
		p.step(t, what, steps)
		p.do(t, what, drop...)
		p.step(t, what, impl.StepsLeft(p.w))
		p.round(t, what)
		if impl.UsedWords(p.w) != 2 || len(p.w.Spans) != 1 || impl.FreeWords(p.w) != 126 {
			t.Errorf("%s: %d words used behind it", what, impl.UsedWords(p.w))
		}
		p.do(t, what, build[:3]...)
	}
}

// randomOp is mostly one that is not refused.
func randomOp(rnd *rand.Rand, w impl.World, largest int) impl.Op {
	near := func(n int) int {
		if rnd.Intn(60) == 0 {
			return []int{-1, n, n + 1}[rnd.Intn(3)]
		}
		return rnd.Intn(n)
	}
	kinds := []int{1, 1, 1, 2, 2, 2, 3, 3, 3, 3, 3, 4, 5, 6, 6, 7, 8, 9}
	op := impl.Op{Kind: kinds[rnd.Intn(len(kinds))], M: near(len(w.Muts)), H: near(6), G: near(6), I: near(3), N: 1 + near(largest), V: near(4)}
	if rnd.Intn(100) == 0 {
		op.Kind = unlisted[rnd.Intn(len(unlisted))]
	}
	if op.V > op.N && rnd.Intn(10) > 0 {
		op.V = op.N
	}
	if op.Kind == impl.OpSet && rnd.Intn(2) == 0 {
		op.V = w.Base + rnd.Intn(64)
	}
	if op.Kind != impl.OpAlloc && rnd.Intn(4) > 0 {
		aim(&op, rnd, w)
	}
	return op
}

// aim changes H to a handle that is not empty, and I to a word that op can be
// done to, if there are such ones.
func aim(op *impl.Op, rnd *rand.Rand, w impl.World) {
	if op.M < 0 || op.M >= len(w.Muts) || slices.Max(w.Muts[op.M].Roots) == 0 {
		return
	}
	roots := w.Muts[op.M].Roots
	for op.H = rnd.Intn(6); roots[op.H] == 0; op.H = rnd.Intn(6) {
	}
	ptrs, words := len(thingsOf(w)[roots[op.H]].ptrs), wordsAt(w, roots[op.H])
	switch op.Kind {
	case impl.OpLoad, impl.OpStore:
		op.I = rnd.Intn(max(ptrs, 1))
	case impl.OpSet, impl.OpGet:
		op.I = ptrs + rnd.Intn(max(words-ptrs, 1))
	}
}

// wantNoRoomJustly fails if there is a free slot of the class of n words, or a free page.
func wantNoRoomJustly(t *testing.T, w impl.World, n int) {
	t.Helper()
	if len(w.Spans) < w.Pages {
		t.Errorf("no room for %d words, but %d of %d pages are used", n, len(w.Spans), w.Pages)
	}
	for _, s := range w.Spans {
		if s.Class == impl.ClassOf(n) && slices.Contains(s.Lens, 0) {
			t.Errorf("no room for %d words, but there is a free slot on page %d", n, s.Page)
		}
	}
}

// wantAllDone fails if a Kind was not done so often in a Phase.
func wantAllDone(t *testing.T, done map[[2]int]int, least int) {
	t.Helper()
	for kind := impl.OpAlloc; kind <= impl.OpLen; kind++ {
		for phase := impl.PhOff; phase <= impl.PhSweep; phase++ {
			if done[[2]int{kind, phase}] < least {
				t.Errorf("kind %d was done but %d times in phase %d", kind, done[[2]int{kind, phase}], phase)
			}
		}
	}
}

// All Kinds, in all Phases, with steps of rounds between them, from nothing on.
func TestUseInTheMidstOfRounds(t *testing.T) {
	done, codes := map[[2]int]int{}, map[int]int{}
	for seed := range 400 {
		rnd := rand.New(rand.NewSource(int64(seed)))
		p := newPair(t, 32*(1+rnd.Intn(9)), 1+rnd.Intn(4), 1+rnd.Intn(3))
		largest := []int{2, 4, 9, 16}[seed%4]
		what := fmt.Sprintf("seed %d", seed)
		for range 150 {
			switch rest := rnd.Intn(10); {
			case rest < 2 && p.w.Gc.Phase == impl.PhOff:
				p.start(t)
			case rest < 3:
				p.step(t, what, 1)
			default:
				op, phase := randomOp(rnd, p.w, largest), p.w.Gc.Phase
				answer := p.do(t, what, op)
				if codes[answer.Code]++; answer.Code == impl.AnOk {
					done[[2]int{op.Kind, phase}]++
				}
				if answer.Code == impl.AnMemory {
					wantNoRoomJustly(t, p.w, op.N)
				}
			}
		}
		p.step(t, what, impl.StepsLeft(p.w))
		p.round(t, what)
	}
	wantAllDone(t, done, 40)
	for answer := impl.AnOk; answer <= impl.AnMemory; answer++ {
		if codes[answer] < 100 {
			t.Errorf("code %d came but %d times", answer, codes[answer])
		}
	}
}

// From any moment of a round on in which all is right, even one that no use leads to.
func TestUseFromAnyMoment(t *testing.T) {
	for seed := range 1500 {
		rnd := rand.New(rand.NewSource(int64(seed)))
		w := randomHeap(t, rnd)
		goOn(&w, rnd)
		for range rnd.Intn(4) {
			other := roomy(w)
			if disturb(&other, rnd); len(wrongIn(other)) == 0 {
				w = other
			}
		}
		var ops []impl.Op
		var answers []impl.Ans
		want := roomy(w)
		for range 12 {
			op := randomOp(rnd, w, 16)
			ops, answers = append(ops, op), append(answers, modelDo(&want, op))
		}
		got, is := impl.DoAll(w, ops)
		if !slices.Equal(is, answers) {
			t.Fatalf("seed %d: %+v answers %+v, want %+v", seed, ops, is, answers)
		}
		wantWorld(t, fmt.Sprintf("seed %d", seed), got, want)
		wantWrong(t, fmt.Sprintf("seed %d", seed), got)
	}
}
