package tests

import (
	"fmt"
	"maps"
	"math"
	"math/rand"
	"reflect"
	"slices"
	"testing"

	"loop.example/g00690/impl"
)

// same holds two values against each other; an empty list and nil are the same.
func same(a any, b any) bool { return fmt.Sprintf("%+v", a) == fmt.Sprintf("%+v", b) }

func newWorld(t *testing.T, base int, pages int, muts int) impl.World {
	t.Helper()
	w, ok := impl.WorldNew(base, pages, muts)
	if !ok {
		t.Fatalf("WorldNew(%d, %d, %d) is refused", base, pages, muts)
	}
	return w
}

func take(t *testing.T, w impl.World, n int, p int) (impl.World, int) {
	t.Helper()
	next, addr, ok := impl.Take(w, n, p)
	if !ok {
		t.Fatalf("Take(%d, %d) is refused", n, p)
	}
	return next, addr
}

func give(t *testing.T, w impl.World, addr int) impl.World {
	t.Helper()
	next, ok := impl.Give(w, addr)
	if !ok {
		t.Fatalf("Give(%d) is refused", addr)
	}
	return next
}

func wantFind(t *testing.T, w impl.World, addr int, span int, slot int) {
	t.Helper()
	if k, s := impl.Find(w, addr); k != span || s != slot {
		t.Errorf("Find(%d) = %d, %d, want %d, %d", addr, k, s, span, slot)
	}
}

func wantNoTake(t *testing.T, w impl.World, n int, p int) {
	t.Helper()
	if next, addr, ok := impl.Take(w, n, p); ok || addr != 0 || !reflect.DeepEqual(next, impl.World{}) {
		t.Errorf("Take(%d, %d) = %v, %d, %v, want nothing", n, p, next, addr, ok)
	}
}

func wantNoGive(t *testing.T, w impl.World, addr int) {
	t.Helper()
	if next, ok := impl.Give(w, addr); ok || !reflect.DeepEqual(next, impl.World{}) {
		t.Errorf("Give(%d) = %v, %v, want nothing", addr, next, ok)
	}
}

// dirtyCards lists the numbers of the cards that are Dirty.
func dirtyCards(w impl.World) []int {
	var list []int
	for card, dirty := range w.Dirty {
		if dirty {
			list = append(list, card)
		}
	}
	return list
}

func wantDirty(t *testing.T, w impl.World, want ...int) {
	t.Helper()
	if got := dirtyCards(w); !slices.Equal(got, want) {
		t.Errorf("dirty cards %v, want %v", got, want)
	}
}

// mixedWorld has 5 pages: page 0 with slots of 4, page 1 none, page 2 with slots
// of 16, page 3 with slots of 2, page 4 none. Its objects are at 96 (3 words, 1
// pointer), 104 (4 words, no pointer), 160 (9 words, all pointers), 176 (16
// words), 192 (1 word); 96, 104 and 176 are marked.
func mixedWorld() impl.World {
	w := impl.World{
		Base:  96,
		Pages: 5,
		Words: make([]int, 160),
		Dirty: make([]bool, 20),
		Spans: []impl.Span{
			{Page: 0, Class: 1, Mark: 5, Lens: []int{3, 0, 4, 0, 0, 0, 0, 0}, Ptrs: []int{1, 0, 0, 0, 0, 0, 0, 0}},
			{Page: 2, Class: 3, Mark: 2, Swept: true, Lens: []int{9, 16}, Ptrs: []int{9, 0}},
			{Page: 3, Class: 0, Lens: make([]int, 16), Ptrs: make([]int, 16)},
		},
		Muts: []impl.Mut{{Roots: []int{96, 0, 176, 0, 0, 7}}, {Roots: []int{0, 0, 0, 192, 0, 0}}},
		Gc:   impl.Gc{Phase: impl.PhMark, Grey: []int{104, 96}},
	}
	w.Spans[2].Lens[0] = 1
	copy(w.Words, []int{104, -5, 6, 0, 0, 0, 0, 0, 1, 2, 3, math.MinInt})
	copy(w.Words[64:], []int{96, 0, 0, 0, 0, 0, 0, 0, 192})
	copy(w.Words[80:], []int{9, 8, 7, 6, 5, 4, 3, 2, 1, 0, 1, 2, 3, 4, 5, math.MaxInt})
	w.Words[96] = -1
	return w
}

// brokenWorlds are copies of mixedWorld that lack just one of the things that FormOk asks for.
func brokenWorlds() map[string]impl.World {
	breaks := map[string]func(w *impl.World){
		"base 0":                     func(w *impl.World) { w.Base = 0 },
		"base below 0":               func(w *impl.World) { w.Base = -32 },
		"base half a page":           func(w *impl.World) { w.Base = 16 },
		"base no multiple":           func(w *impl.World) { w.Base = 97 },
		"base a page more":           func(w *impl.World) { w.Base = impl.MaxBase + impl.PageWords },
		"base one more":              func(w *impl.World) { w.Base = impl.MaxBase + 1 },
		"base least":                 func(w *impl.World) { w.Base = math.MinInt },
		"pages one less":             func(w *impl.World) { w.Pages = 4 },
		"pages one more":             func(w *impl.World) { w.Pages = 6 },
		"pages below 0":              func(w *impl.World) { w.Pages = -5 },
		"pages greatest":             func(w *impl.World) { w.Pages = math.MaxInt },
		"pages round the corner":     func(w *impl.World) { w.Pages = 5 + 1<<59 },
		"words one less":             func(w *impl.World) { w.Words = w.Words[:159] },
		"words one more":             func(w *impl.World) { w.Words = append(w.Words, 0) },
		"words none":                 func(w *impl.World) { w.Words = nil },
		"dirty one less":             func(w *impl.World) { w.Dirty = w.Dirty[:19] },
		"dirty one more":             func(w *impl.World) { w.Dirty = append(w.Dirty, false) },
		"dirty none":                 func(w *impl.World) { w.Dirty = nil },
		"spans turned round":         func(w *impl.World) { w.Spans[1], w.Spans[2] = w.Spans[2], w.Spans[1] },
		"page below 0":               func(w *impl.World) { w.Spans[0].Page = -1 },
		"class below 0":              func(w *impl.World) { w.Spans[0].Class = -1 },
		"class one more":             func(w *impl.World) { w.Spans[1].Class = impl.Classes },
		"class another one":          func(w *impl.World) { w.Spans[1].Class = 2 },
		"lens one less":              func(w *impl.World) { w.Spans[0].Lens = w.Spans[0].Lens[:7] },
		"lens one more":              func(w *impl.World) { w.Spans[0].Lens = append(w.Spans[0].Lens, 0) },
		"lens none":                  func(w *impl.World) { w.Spans[2].Lens = nil },
		"ptrs one less":              func(w *impl.World) { w.Spans[0].Ptrs = w.Spans[0].Ptrs[:7] },
		"ptrs one more":              func(w *impl.World) { w.Spans[0].Ptrs = append(w.Spans[0].Ptrs, 0) },
		"ptrs none":                  func(w *impl.World) { w.Spans[2].Ptrs = nil },
		"len below 0":                func(w *impl.World) { w.Spans[0].Lens[7] = -1 },
		"len more than the slot":     func(w *impl.World) { w.Spans[0].Lens[2] = 5 },
		"len far more":               func(w *impl.World) { w.Spans[1].Lens[1] = math.MaxInt },
		"ptrs below 0":               func(w *impl.World) { w.Spans[0].Ptrs[0] = -1 },
		"ptrs more than len":         func(w *impl.World) { w.Spans[0].Ptrs[0] = 4 },
		"ptrs of a free slot":        func(w *impl.World) { w.Spans[0].Ptrs[1] = 1 },
		"mark of a free slot":        func(w *impl.World) { w.Spans[0].Mark = 7 },
		"mark of slot 16":            func(w *impl.World) { w.Spans[2].Mark = 1 << 16 },
		"mark of slot 2 of 2":        func(w *impl.World) { w.Spans[1].Mark = 4 },
		"mark below 0":               func(w *impl.World) { w.Spans[0].Mark = -1 },
		"mark least":                 func(w *impl.World) { w.Spans[0].Mark = math.MinInt },
		"word of a free page":        func(w *impl.World) { w.Words[32] = 1 },
		"last word of a free page":   func(w *impl.World) { w.Words[63] = -1 },
		"word of the last page":      func(w *impl.World) { w.Words[159] = 1 },
		"word of a free slot":        func(w *impl.World) { w.Words[4] = 1 },
		"last word of a free slot":   func(w *impl.World) { w.Words[31] = 1 },
		"word behind the object":     func(w *impl.World) { w.Words[3] = 1 },
		"word behind nine":           func(w *impl.World) { w.Words[73] = 1 },
		"last word behind one":       func(w *impl.World) { w.Words[97] = 1 },
		"muts none":                  func(w *impl.World) { w.Muts = nil },
		"muts one more":              func(w *impl.World) { w.Muts = append(w.Muts, w.Muts...) },
		"roots one less":             func(w *impl.World) { w.Muts[1].Roots = w.Muts[1].Roots[:5] },
		"roots one more":             func(w *impl.World) { w.Muts[0].Roots = append(w.Muts[0].Roots, 0) },
		"roots none":                 func(w *impl.World) { w.Muts[1].Roots = nil },
		"phase below the first":      func(w *impl.World) { w.Gc.Phase = impl.PhOff - 1 },
		"phase behind the last":      func(w *impl.World) { w.Gc.Phase = impl.PhSweep + 1 },
		"phase greatest":             func(w *impl.World) { w.Gc.Phase = math.MaxInt },
		"two spans of one page":      func(w *impl.World) { w.Spans[2].Page, w.Words[96] = 2, 0 },
		"page behind the last":       func(w *impl.World) { w.Spans[2].Page, w.Words[96] = 5, 0 },
		"a page more than there are": func(w *impl.World) { w.Spans[2].Page, w.Words[96] = math.MaxInt, 0 },
	}
	list := map[string]impl.World{"nothing at all": {}}
	for name, damage := range breaks {
		w := mixedWorld()
		damage(&w)
		list[name] = w
	}
	// what asks about spans and words is asked at both ends of Pages too
	none := mixedWorld()
	none.Pages, none.Words, none.Dirty, none.Spans = 0, nil, nil, nil
	list["pages 0"] = none
	many := mixedWorld()
	many.Pages, many.Words, many.Dirty, many.Spans = 13, make([]int, 416), make([]bool, 52), nil
	list["pages one more than may be"] = many
	return list
}

func TestHeapConstants(t *testing.T) {
	got := []int{impl.MaxPages, impl.MaxMuts, impl.MaxRoots, impl.MaxBase, impl.PhOff, impl.PhSetup, impl.PhMark, impl.PhTerm, impl.PhSweep}
	if want := []int{12, 3, 6, 1048576, 0, 1, 2, 3, 4}; !slices.Equal(got, want) {
		t.Errorf("constants of the heap %v, want %v", got, want)
	}
}

func TestFormOkAccepts(t *testing.T) {
	changes := map[string]func(w *impl.World){
		"as it is":                  func(w *impl.World) {},
		"least base":                func(w *impl.World) { w.Base = impl.PageWords },
		"greatest base":             func(w *impl.World) { w.Base = impl.MaxBase },
		"dirty of any kind":         func(w *impl.World) { w.Dirty[0], w.Dirty[19] = true, true },
		"span on the last page":     func(w *impl.World) { w.Spans[2].Page, w.Words[96] = 4, 0 },
		"span without a used slot":  func(w *impl.World) { w.Spans[2].Lens[0], w.Words[96] = 0, 0 },
		"no pointers":               func(w *impl.World) { w.Spans[0].Ptrs[0] = 0 },
		"pointers alone":            func(w *impl.World) { w.Spans[0].Ptrs[0] = 3 },
		"a pointer to nowhere":      func(w *impl.World) { w.Words[0] = -12345 },
		"nothing marked":            func(w *impl.World) { w.Spans[0].Mark, w.Spans[1].Mark = 0, 0 },
		"all swept":                 func(w *impl.World) { w.Spans[0].Swept, w.Spans[2].Swept = true, true },
		"roots of any kind":         func(w *impl.World) { copy(w.Muts[0].Roots, []int{-1, math.MinInt, math.MaxInt, 5}) },
		"one mut":                   func(w *impl.World) { w.Muts = w.Muts[:1] },
		"three muts":                func(w *impl.World) { w.Muts = append(w.Muts, impl.Mut{Roots: make([]int, 6)}) },
		"next of any kind":          func(w *impl.World) { w.Gc.Next = -9 },
		"grey of any kind":          func(w *impl.World) { w.Gc.Grey = []int{1, 1, -1, 0} },
		"no grey":                   func(w *impl.World) { w.Gc.Grey = nil },
		"phase off":                 func(w *impl.World) { w.Gc.Phase = impl.PhOff },
		"phase setup":               func(w *impl.World) { w.Gc.Phase = impl.PhSetup },
		"phase term":                func(w *impl.World) { w.Gc.Phase = impl.PhTerm },
		"phase sweep":               func(w *impl.World) { w.Gc.Phase = impl.PhSweep },
		"no spans":                  func(w *impl.World) { w.Spans = nil; clear(w.Words) },
		"one page":                  func(w *impl.World) { w.Pages, w.Words, w.Dirty, w.Spans = 1, make([]int, 32), make([]bool, 4), nil },
		"twelve pages":              func(w *impl.World) { w.Pages, w.Words, w.Dirty, w.Spans = 12, make([]int, 384), make([]bool, 48), nil },
		"word 0 of an object":       func(w *impl.World) { w.Words[8] = 0 },
		"last word of a whole slot": func(w *impl.World) { w.Words[95] = 3 },
	}
	for name, change := range changes {
		w := mixedWorld()
		change(&w)
		if !impl.FormOk(w) {
			t.Errorf("%s: not FormOk", name)
		}
	}
}

func TestWhatIsBrokenIsRefused(t *testing.T) {
	for name, w := range brokenWorlds() {
		t.Run(name, func(t *testing.T) {
			if impl.FormOk(w) {
				t.Error("FormOk")
			}
			if got := impl.AddrOf(w, 0, 0); got != 0 {
				t.Errorf("AddrOf = %d, want 0", got)
			}
			for _, addr := range []int{0, 32, 96, 160} {
				wantFind(t, w, addr, -1, -1)
				wantNoGive(t, w, addr)
			}
			wantNoTake(t, w, 1, 0)
			wantNoTake(t, w, 17, 18)
			if used, free := impl.UsedWords(w), impl.FreeWords(w); used != -1 || free != -1 {
				t.Errorf("UsedWords, FreeWords = %d, %d, want -1, -1", used, free)
			}
		})
	}
}

func TestWorldNew(t *testing.T) {
	for _, base := range []int{32, 64, 96, impl.MaxBase - 32, impl.MaxBase} {
		for pages := 1; pages <= impl.MaxPages; pages++ {
			for muts := 1; muts <= impl.MaxMuts; muts++ {
				want := impl.World{Base: base, Pages: pages, Words: make([]int, pages*32), Dirty: make([]bool, pages*4)}
				for range muts {
					want.Muts = append(want.Muts, impl.Mut{Roots: make([]int, 6)})
				}
				w := newWorld(t, base, pages, muts)
				if !same(w, want) || !impl.FormOk(w) {
					t.Errorf("WorldNew(%d, %d, %d) = %+v", base, pages, muts, w)
				}
			}
		}
	}
}

func TestWorldNewRefuses(t *testing.T) {
	refuse := func(base int, pages int, muts int) {
		t.Helper()
		if w, ok := impl.WorldNew(base, pages, muts); ok || !reflect.DeepEqual(w, impl.World{}) {
			t.Errorf("WorldNew(%d, %d, %d) = %v, %v, want nothing", base, pages, muts, w, ok)
		}
	}
	for _, base := range []int{math.MinInt, -64, -32, -1, 0, 1, 16, 31, 33, 48, 65, impl.MaxBase - 1, impl.MaxBase + 1, impl.MaxBase + 32, math.MaxInt - 31} {
		refuse(base, 1, 1)
	}
	for _, pages := range []int{math.MinInt, -1, 0, impl.MaxPages + 1, 1 << 32, 1 << 59, math.MaxInt} {
		refuse(32, pages, 1)
	}
	for _, muts := range []int{math.MinInt, -1, 0, impl.MaxMuts + 1, 1 << 32, math.MaxInt} {
		refuse(32, 1, muts)
	}
	refuse(0, 0, 0)
}

func TestAddrOf(t *testing.T) {
	w := mixedWorld()
	cases := []struct{ k, slot, want int }{
		{0, 0, 96}, {0, 1, 100}, {0, 2, 104}, {0, 7, 124}, {0, 8, 0}, {0, -1, 0},
		{1, 0, 160}, {1, 1, 176}, {1, 2, 0},
		{2, 0, 192}, {2, 1, 194}, {2, 15, 222}, {2, 16, 0},
		{-1, 0, 0}, {3, 0, 0}, {math.MinInt, 0, 0}, {math.MaxInt, 0, 0}, {0, math.MinInt, 0}, {0, math.MaxInt, 0},
	}
	for _, c := range cases {
		if got := impl.AddrOf(w, c.k, c.slot); got != c.want {
			t.Errorf("AddrOf(%d, %d) = %d, want %d", c.k, c.slot, got, c.want)
		}
	}
	if got := impl.AddrOf(newWorld(t, 32, 1, 1), 0, 0); got != 0 {
		t.Errorf("AddrOf without spans = %d, want 0", got)
	}
}

func TestFindTellsJustTheObjects(t *testing.T) {
	w := mixedWorld()
	objects := map[int][2]int{96: {0, 0}, 104: {0, 2}, 160: {1, 0}, 176: {1, 1}, 192: {2, 0}}
	for addr := -10; addr < 96+160+40; addr++ {
		at, is := objects[addr]
		if !is {
			at = [2]int{-1, -1}
		}
		wantFind(t, w, addr, at[0], at[1])
	}
	for _, addr := range []int{math.MinInt, math.MaxInt, 96 + 1<<32, 96 + math.MinInt, -96} {
		wantFind(t, w, addr, -1, -1)
	}
}

func TestTakeGetsTheFirstSlotOfItsClass(t *testing.T) {
	w := newWorld(t, 64, 4, 1)
	sizes := []int{3, 16, 4, 1, 9, 8, 2, 3}
	want := []int{64, 96, 68, 128, 112, 160, 130, 72}
	for i, n := range sizes {
		var addr int
		w, addr = take(t, w, n, 0)
		if addr != want[i] {
			t.Errorf("object number %d, of %d words, is at %d, want %d", i, n, addr, want[i])
		}
	}
	if wantNoTake(t, w, 10, 0); len(w.Spans) != 4 {
		t.Errorf("%d spans, want 4", len(w.Spans))
	}
}

func TestTakePrefersTheFirstSpanWithAFreeSlot(t *testing.T) {
	w := newWorld(t, 32, 3, 1)
	for range 6 {
		w, _ = take(t, w, 16, 0)
	}
	w = give(t, w, 32+80)
	w = give(t, w, 32+48)
	w, first := take(t, w, 9, 0)
	w, second := take(t, w, 9, 0)
	if first != 32+48 || second != 32+80 {
		t.Errorf("taken at %d and %d, want 80 and 112", first, second)
	}
	wantNoTake(t, w, 9, 0)
}

func TestTakeTellsAllOfTheWorld(t *testing.T) {
	w := mixedWorld()
	next, addr := take(t, w, 4, 2)
	want := mixedWorld()
	want.Spans[0].Lens[1], want.Spans[0].Ptrs[1], want.Dirty[0] = 4, 2, true
	if addr != 100 || !same(next, want) {
		t.Errorf("Take(4, 2) = %+v, %d, want %+v, 100", next, addr, want)
	}
}

func TestTakePutsANewSpanAtTheFirstPageThatIsNone(t *testing.T) {
	w := mixedWorld()
	next, addr := take(t, w, 16, 16)
	want := mixedWorld()
	want.Spans = slices.Insert(want.Spans, 1, impl.Span{Page: 1, Class: 3, Lens: []int{16, 0}, Ptrs: []int{16, 0}})
	want.Dirty[4], want.Dirty[5] = true, true
	if addr != 128 || !same(next, want) {
		t.Errorf("Take(16, 16) = %+v, %d, want %+v, 128", next, addr, want)
	}
	next, addr = take(t, next, 8, 0)
	if addr != 224 || len(next.Spans) != 5 || next.Spans[4].Page != 4 || next.Spans[4].Class != 2 {
		t.Errorf("Take(8, 0) at %d, spans %+v", addr, next.Spans)
	}
	next, addr = take(t, next, 9, 0)
	if addr != 144 {
		t.Errorf("Take(9, 0) at %d, want 144, in the span that is new", addr)
	}
	wantNoTake(t, next, 9, 0)
}

func TestTakeInEachPhase(t *testing.T) {
	for phase := impl.PhOff; phase <= impl.PhSweep; phase++ {
		w := newWorld(t, 32, 2, 1)
		w.Gc.Phase = phase
		w, _ = take(t, w, 4, 4)
		if w.Spans[0].Swept != (phase == impl.PhSweep) || w.Spans[0].Mark != 0 {
			t.Errorf("phase %d: a new span is %+v", phase, w.Spans[0])
		}
		w.Spans[0].Swept = !w.Spans[0].Swept
		w, _ = take(t, w, 4, 4)
		if w.Spans[0].Swept == (phase == impl.PhSweep) || w.Gc.Phase != phase || len(w.Gc.Grey) != 0 {
			t.Errorf("phase %d: a span that was there is %+v, with %+v", phase, w.Spans[0], w.Gc)
		}
	}
}

func TestTakeRefusesSizes(t *testing.T) {
	w := newWorld(t, 32, 1, 1)
	for _, n := range []int{math.MinInt, -1, 0, impl.MaxWords + 1, 32, 1 << 32, math.MaxInt} {
		wantNoTake(t, w, n, 0)
		wantNoTake(t, w, n, n)
	}
	for n := 1; n <= impl.MaxWords; n++ {
		for _, p := range []int{math.MinInt, -1, n + 1, math.MaxInt} {
			wantNoTake(t, w, n, p)
		}
		for p := 0; p <= n; p++ {
			next, addr := take(t, w, n, p)
			if addr != 32 || next.Spans[0].Lens[0] != n || next.Spans[0].Ptrs[0] != p || impl.ClassOf(n) != next.Spans[0].Class {
				t.Errorf("Take(%d, %d) at %d: %+v", n, p, addr, next.Spans)
			}
		}
	}
}

func TestTheLastSlotAndTheLastPage(t *testing.T) {
	for n := 1; n <= impl.MaxWords; n++ {
		size := impl.ClassSize(impl.ClassOf(n))
		w := newWorld(t, impl.MaxBase, impl.MaxPages, impl.MaxMuts)
		for i := range impl.MaxPages * impl.PageWords / size {
			var addr int
			if w, addr = take(t, w, n, n); addr != impl.MaxBase+i*size {
				t.Fatalf("object number %d of %d words is at %d", i, n, addr)
			}
		}
		for m := 1; m <= impl.MaxWords; m++ {
			wantNoTake(t, w, m, 0)
		}
		if impl.UsedWords(w) != 384 || impl.FreeWords(w) != 0 || !impl.FormOk(w) {
			t.Errorf("full of %d words: %d used, %d free", n, impl.UsedWords(w), impl.FreeWords(w))
		}
		last := impl.MaxBase + 384 - size
		w = give(t, w, last)
		if _, addr := take(t, w, n, 0); addr != last {
			t.Errorf("the last slot that was given is taken at %d, want %d", addr, last)
		}
	}
}

func TestTakeDirtiesItsCards(t *testing.T) {
	w := newWorld(t, 32, 3, 1)
	w, _ = take(t, w, 7, 0)
	wantDirty(t, w, 0)
	w, _ = take(t, w, 7, 0)
	wantDirty(t, w, 0, 1)
	w, _ = take(t, w, 9, 0)
	wantDirty(t, w, 0, 1, 4, 5)
	w, _ = take(t, w, 1, 0)
	wantDirty(t, w, 0, 1, 4, 5, 8)
	clear(w.Dirty)
	w, _ = take(t, w, 16, 0)
	wantDirty(t, w, 6, 7)
	w, _ = take(t, w, 2, 0)
	wantDirty(t, w, 6, 7, 8)
}

func TestGiveTellsAllOfTheWorld(t *testing.T) {
	w := mixedWorld()
	want := mixedWorld()
	want.Spans[1].Lens[0], want.Spans[1].Ptrs[0] = 0, 0
	clear(want.Words[64:80])
	want.Dirty[8], want.Dirty[9] = true, true
	if next := give(t, w, 160); !same(next, want) {
		t.Errorf("Give(160) = %+v, want %+v", next, want)
	}
	want = mixedWorld()
	want.Spans[0].Lens[2], want.Spans[0].Mark, want.Dirty[1] = 0, 1, true
	clear(want.Words[8:12])
	if next := give(t, w, 104); !same(next, want) {
		t.Errorf("Give(104) = %+v, want %+v", next, want)
	}
}

func TestGiveDirtiesTheWholeSlot(t *testing.T) {
	w := newWorld(t, 32, 1, 1)
	w, _ = take(t, w, 9, 0)
	w, _ = take(t, w, 9, 0)
	w.Spans[0].Lens[1] = 1
	clear(w.Dirty)
	w = give(t, w, 48)
	wantDirty(t, w, 2, 3)
	w = give(t, w, 32)
	wantDirty(t, w, 0, 1, 2, 3)
}

func TestGiveOfTheLastObjectTakesTheSpanAway(t *testing.T) {
	w := mixedWorld()
	want := mixedWorld()
	want.Spans = want.Spans[:2]
	want.Words[96], want.Dirty[12] = 0, true
	if next := give(t, w, 192); !same(next, want) {
		t.Errorf("Give(192) = %+v, want %+v", next, want)
	}
	w = give(t, give(t, w, 160), 176)
	if len(w.Spans) != 2 || w.Spans[0].Page != 0 || w.Spans[1].Page != 3 {
		t.Errorf("spans %+v, want those of pages 0 and 3", w.Spans)
	}
	wantFind(t, w, 192, 1, 0)
	for _, addr := range []int{104, 192, 96} {
		w = give(t, w, addr)
		wantFind(t, w, addr, -1, -1)
	}
	if len(w.Spans) != 0 || impl.UsedWords(w) != 0 || impl.FreeWords(w) != 160 || !impl.FormOk(w) {
		t.Errorf("all given away, and %+v is there", w)
	}
}

func TestGiveLeavesOtherSpansWithoutAUsedSlot(t *testing.T) {
	w := mixedWorld()
	w.Spans[2].Lens[0], w.Words[96] = 0, 0
	w = give(t, w, 160)
	if len(w.Spans) != 3 || w.Spans[2].Page != 3 {
		t.Errorf("spans %+v, want those of pages 0, 2 and 3", w.Spans)
	}
	if _, addr := take(t, w, 2, 0); addr != 192 {
		t.Errorf("taken at %d, want 192", addr)
	}
}

func TestGiveRefuses(t *testing.T) {
	w := mixedWorld()
	objects := []int{96, 104, 160, 176, 192}
	for addr := -3; addr < 96+160+40; addr++ {
		if !slices.Contains(objects, addr) {
			wantNoGive(t, w, addr)
		}
	}
	wantNoGive(t, w, math.MinInt)
	wantNoGive(t, w, math.MaxInt)
	wantNoGive(t, give(t, w, 96), 96)
	wantNoGive(t, newWorld(t, 32, 1, 1), 32)
}

func TestUsedAndFreeWords(t *testing.T) {
	w := mixedWorld()
	if used, free := impl.UsedWords(w), impl.FreeWords(w); used != 8+32+2 || free != 24+0+30+64 {
		t.Errorf("UsedWords, FreeWords = %d, %d, want 42, 118", used, free)
	}
	w = newWorld(t, 32, 12, 1)
	if used, free := impl.UsedWords(w), impl.FreeWords(w); used != 0 || free != 384 {
		t.Errorf("UsedWords, FreeWords = %d, %d, want 0, 384", used, free)
	}
	w.Spans = []impl.Span{{Page: 3, Class: 1, Lens: make([]int, 8), Ptrs: make([]int, 8)}}
	if used, free := impl.UsedWords(w), impl.FreeWords(w); used != 0 || free != 384 {
		t.Errorf("with an empty span UsedWords, FreeWords = %d, %d, want 0, 384", used, free)
	}
}

func TestHeapMemory(t *testing.T) {
	w := mixedWorld()
	for _, size := range [][2]int{{4, 2}, {16, 16}, {2, 0}, {17, 0}} {
		wantUnwritten(t, "Take", w, func(w impl.World) {
			a, _, _ := impl.Take(w, size[0], size[1])
			b, _, _ := impl.Take(w, size[0], size[1])
			wantOwnMemory(t, "Take", w, a, b)
		})
	}
	for _, addr := range []int{96, 104, 160, 176, 192, 0} {
		wantUnwritten(t, "Give", w, func(w impl.World) {
			a, _ := impl.Give(w, addr)
			b, _ := impl.Give(w, addr)
			wantOwnMemory(t, "Give", w, a, b)
		})
	}
	wantUnwritten(t, "those that tell", w, func(w impl.World) {
		impl.FormOk(w)
		impl.AddrOf(w, 1, 1)
		impl.Find(w, 176)
		impl.UsedWords(w)
		impl.FreeWords(w)
	})
	wantOwnMemory(t, "WorldNew", newWorld(t, 32, 12, 3), newWorld(t, 32, 12, 3))
}

// heapModel keeps objects by address and pages by number, as chapter 2 tells of them.
type heapModel struct {
	w     impl.World // without Words and Spans
	class [12]int    // of each page; -1, if it is no span
	swept [12]bool
	words map[int][]int // of the object at each address
	ptrs  map[int]int
	mark  map[int]bool
}

func newHeapModel(w impl.World) *heapModel {
	m := &heapModel{w: w, words: map[int][]int{}, ptrs: map[int]int{}, mark: map[int]bool{}}
	for page := range m.class {
		m.class[page] = -1
	}
	return m
}

// slotsAt are the addresses of all slots of a page of class c.
func (m *heapModel) slotsAt(page int, c int) []int {
	var list []int
	for at := 0; at < 32; at += []int{2, 4, 8, 16}[c] {
		list = append(list, m.w.Base+page*32+at)
	}
	return list
}

// room is where the next object of class c goes; 0, if there is no room.
func (m *heapModel) room(c int) int {
	for page := range m.w.Pages {
		for _, addr := range m.slotsAt(page, c) {
			if m.class[page] == c && m.words[addr] == nil {
				return addr
			}
		}
	}
	for page := range m.w.Pages {
		if m.class[page] < 0 {
			m.class[page], m.swept[page] = c, m.w.Gc.Phase == impl.PhSweep
			return m.w.Base + page*32
		}
	}
	return 0
}

func (m *heapModel) dirty(addr int, n int) {
	for word := addr - m.w.Base; word < addr-m.w.Base+n; word++ {
		m.w.Dirty[word/8] = true
	}
}

func (m *heapModel) take(n int, p int) int {
	c := 0
	for []int{2, 4, 8, 16}[c] < n {
		c++
	}
	addr := m.room(c)
	if addr != 0 {
		m.words[addr], m.ptrs[addr] = make([]int, n), p
		m.dirty(addr, n)
	}
	return addr
}

func (m *heapModel) give(addr int) {
	page := (addr - m.w.Base) / 32
	delete(m.words, addr)
	delete(m.ptrs, addr)
	delete(m.mark, addr)
	m.dirty(addr, []int{2, 4, 8, 16}[m.class[page]])
	for other := range m.words {
		if (other-m.w.Base)/32 == page {
			return
		}
	}
	m.class[page], m.swept[page] = -1, false
}

// world is the World that the model tells of.
func (m *heapModel) world() impl.World {
	w := m.w
	w.Words = make([]int, w.Pages*32)
	w.Spans = nil
	for page := range w.Pages {
		if m.class[page] < 0 {
			continue
		}
		s := impl.Span{Page: page, Class: m.class[page], Swept: m.swept[page]}
		for slot, addr := range m.slotsAt(page, s.Class) {
			s.Lens = append(s.Lens, len(m.words[addr]))
			s.Ptrs = append(s.Ptrs, m.ptrs[addr])
			if m.mark[addr] {
				s.Mark += 1 << slot
			}
			copy(w.Words[addr-w.Base:], m.words[addr])
		}
		w.Spans = append(w.Spans, s)
	}
	return w
}

// used counts the words of all slots that have an object.
func (m *heapModel) used() int {
	n := 0
	for addr := range m.words {
		n += []int{2, 4, 8, 16}[m.class[(addr-m.w.Base)/32]]
	}
	return n
}

// scribble changes what the heap leaves alone: words of objects, marks, roots, the phase, Dirty and Swept.
func (m *heapModel) scribble(rnd *rand.Rand) {
	for _, addr := range addressesOf(m.words) {
		if words := m.words[addr]; rnd.Intn(4) == 0 {
			words[rnd.Intn(len(words))] = rnd.Intn(2000) - 1000
			m.mark[addr] = rnd.Intn(2) == 0
		}
	}
	m.w.Gc = impl.Gc{Phase: rnd.Intn(5), Next: rnd.Intn(3), Grey: []int{rnd.Intn(99), rnd.Intn(99)}}
	m.w.Muts[0].Roots[rnd.Intn(6)] = rnd.Intn(500)
	m.w.Dirty = make([]bool, len(m.w.Dirty))
	for page := range m.class {
		m.swept[page] = m.class[page] >= 0 && rnd.Intn(2) == 0
	}
}

// addressesOf are the keys of list, ascending, so that random choices among them can be made once more.
func addressesOf[V any](list map[int]V) []int { return slices.Sorted(maps.Keys(list)) }

// wantModel holds all that chapter 2 tells of w against the model.
func wantModel(t *testing.T, w impl.World, m *heapModel) {
	t.Helper()
	if want := m.world(); !same(w, want) {
		t.Fatalf("the World is\n%+v, want\n%+v", w, want)
	}
	if used, free := impl.UsedWords(w), impl.FreeWords(w); used != m.used() || used+free != w.Pages*32 || !impl.FormOk(w) {
		t.Fatalf("UsedWords, FreeWords = %d, %d, want %d of %d", used, free, m.used(), w.Pages*32)
	}
	found := 0
	for addr := w.Base - 4; addr < w.Base+w.Pages*32+4; addr++ {
		k, slot := impl.Find(w, addr)
		if m.words[addr] == nil != (k == -1 && slot == -1) {
			t.Fatalf("Find(%d) = %d, %d", addr, k, slot)
		}
		if k < 0 {
			continue
		}
		if found++; impl.AddrOf(w, k, slot) != addr {
			t.Fatalf("AddrOf(%d, %d) = %d, want %d", k, slot, impl.AddrOf(w, k, slot), addr)
		}
	}
	if found != len(m.words) {
		t.Fatalf("%d objects are found, want %d", found, len(m.words))
	}
}

func TestTakeAndGiveAgainstAModel(t *testing.T) {
	for seed := range 24 {
		rnd := rand.New(rand.NewSource(int64(seed)))
		w := newWorld(t, 32*(1+rnd.Intn(9)), 1+rnd.Intn(12), 1+rnd.Intn(3))
		m := newHeapModel(newWorld(t, w.Base, w.Pages, len(w.Muts)))
		largest := []int{2, 16, 8, 16}[seed%4]
		for range 150 {
			objects := addressesOf(m.words)
			switch rest := rnd.Intn(10); {
			case rest == 0:
				m.scribble(rnd)
				w = roomy(m.world())
			case rest < 4 && len(objects) > 0:
				addr := objects[rnd.Intn(len(objects))]
				w = give(t, w, addr)
				m.give(addr)
			default:
				n := 1 + rnd.Intn(largest)
				p := rnd.Intn(n + 1)
				want := m.take(n, p)
				next, addr, ok := impl.Take(w, n, p)
				if addr != want || ok != (want != 0) {
					t.Fatalf("Take(%d, %d) = %d, %v, want %d", n, p, addr, ok, want)
				}
				if ok {
					w = next
				}
			}
			wantModel(t, w, m)
		}
	}
}
