package tests

import (
	"fmt"
	"math"
	"math/rand"
	"slices"
	"strings"
	"testing"

	"loop.example/g00690/impl"
)

// imageTags are the tags of the four sections of an image, in order.
var imageTags = []int{71, 83, 82, 87}

// put is the PutInt of each of list, one behind the other.
func put(list ...int) string {
	var s strings.Builder
	for _, n := range list {
		s.WriteString(putIntByDefinition(n))
	}
	return s.String()
}

// sectionsOf are sections with those bodies, and with the tags of an image.
func sectionsOf(bodies ...string) string {
	s := ""
	for i, body := range bodies {
		s += sectionByDefinition(imageTags[i], body)
	}
	return s
}

// bodiesOf are the bodies of sections with those numbers.
func bodiesOf(lists [4][]int) []string {
	return []string{put(lists[0]...), put(lists[1]...), put(lists[2]...), put(lists[3]...)}
}

// imageOf is an image whose sections have those numbers.
func imageOf(lists [4][]int) string { return "BRM1" + sectionsOf(bodiesOf(lists)...) }

// eachObject goes over the objects of w: the number of the span, the slot, the
// number of the first word, and whether it is Doomed.
func eachObject(w impl.World, visit func(k int, slot int, first int, doomed bool)) {
	for k, s := range w.Spans {
		for slot, n := range s.Lens {
			if n > 0 {
				doomed := w.Gc.Phase == impl.PhSweep && !s.Swept && s.Mark>>slot&1 == 0
				visit(k, slot, 32*s.Page+slot*[]int{2, 4, 8, 16}[s.Class], doomed)
			}
		}
	}
}

// refsByDefinition has the ref of each address that has one.
func refsByDefinition(w impl.World) map[int]int {
	refs := map[int]int{0: 0}
	eachObject(w, func(k int, slot int, first int, _ bool) { refs[w.Base+first] = 1 + 16*k + slot })
	return refs
}

func refByDefinition(w impl.World, addr int) int {
	if ref, is := refsByDefinition(w)[addr]; is {
		return ref
	}
	return -1
}

func addrByDefinition(w impl.World, ref int) int {
	for addr, is := range refsByDefinition(w) {
		if is == ref {
			return addr
		}
	}
	return -1
}

// inRefs is each of list, which are addresses, as a ref.
func inRefs(w impl.World, list []int) []int {
	var refs []int
	for _, addr := range list {
		refs = append(refs, refByDefinition(w, addr))
	}
	return refs
}

// metaNumbers are the numbers of the sections of MetaBytes.
func metaNumbers(w impl.World) ([]int, []int, []int) {
	round := []int{w.Pages, w.Gc.Phase, w.Gc.Next, len(w.Muts)}
	spans := []int{len(w.Spans)}
	for _, s := range w.Spans {
		spans = append(spans, s.Page, s.Class, s.Mark, map[bool]int{true: 1}[s.Swept])
		for slot := range s.Lens {
			spans = append(spans, s.Lens[slot], s.Ptrs[slot])
		}
	}
	var leads []int
	for _, mut := range w.Muts {
		leads = append(leads, inRefs(w, mut.Roots)...)
	}
	leads = append(leads, len(w.Gc.Grey))
	return round, spans, append(leads, inRefs(w, w.Gc.Grey)...)
}

// cardNumbers are the numbers of the section of WordBytes.
func cardNumbers(w impl.World, cards []int) []int {
	words := slices.Clone(w.Words)
	eachObject(w, func(k int, slot int, first int, doomed bool) {
		s := w.Spans[k]
		copy(words[first:], inRefs(w, words[first:first+s.Ptrs[slot]]))
		if doomed {
			clear(words[first : first+s.Lens[slot]])
		}
	})
	var list []int
	for _, card := range cards {
		for _, s := range w.Spans {
			for part := range 4 {
				if card == 4*s.Page+part {
					list = append(append(list, card), words[8*card:8*card+8]...)
				}
			}
		}
	}
	return list
}

func upTo(n int) []int {
	list := make([]int, n)
	for i := range list {
		list[i] = i
	}
	return list
}

// imageNumbers are the numbers of the four sections of Encode.
func imageNumbers(w impl.World) [4][]int {
	round, spans, leads := metaNumbers(w)
	return [4][]int{round, spans, leads, cardNumbers(w, upTo(48))}
}

// movedByDefinition puts the objects of w, one by one, into a World of that Base
// and Pages.
func movedByDefinition(w impl.World, base int, pages int) impl.World {
	next := roomy(w)
	next.Base, next.Pages = base, pages
	next.Words, next.Dirty = make([]int, 32*pages), make([]bool, 4*pages)
	if pages != w.Pages {
		for k := range next.Spans {
			next.Spans[k].Page = k
		}
	}
	goes := map[int]int{}
	for addr, ref := range refsByDefinition(w) {
		goes[addr] = addrByDefinition(next, ref)
	}
	moved := func(list []int) []int {
		var out []int
		for _, addr := range list {
			out = append(out, goes[addr])
		}
		return out
	}
	eachObject(w, func(k int, slot int, first int, doomed bool) {
		words := w.Words[first : first+w.Spans[k].Lens[slot]]
		ptrs := w.Spans[k].Ptrs[slot]
		if !doomed {
			copy(next.Words[goes[w.Base+first]-base:], append(moved(words[:ptrs]), words[ptrs:]...))
		}
	})
	for m := range next.Muts {
		next.Muts[m].Roots = moved(w.Muts[m].Roots)
	}
	next.Gc.Grey = moved(w.Gc.Grey)
	return next
}

// shapeByDefinition is the World of which the first three of all are the numbers, if
// there is one that is FormOk without words: they are taken in order.
func shapeByDefinition(all [4][]int) (impl.World, bool) {
	lists, lacks := all, false
	next := func(k int) int {
		if len(lists[k]) == 0 {
			lacks = true
			return 0
		}
		n := lists[k][0]
		lists[k] = lists[k][1:]
		return n
	}
	w := impl.World{Base: 32, Pages: next(0), Gc: impl.Gc{Phase: next(0), Next: next(0)}}
	muts := next(0)
	if w.Pages < 1 || w.Pages > 12 || muts < 1 || muts > 3 {
		return impl.World{}, false
	}
	w.Words, w.Dirty = make([]int, 32*w.Pages), make([]bool, 4*w.Pages)
	for spans := next(1); len(w.Spans) < spans && !lacks; {
		s := impl.Span{Page: next(1), Class: next(1), Mark: next(1), Swept: next(1) == 1}
		if s.Page < 0 || s.Page >= w.Pages || s.Class < 0 || s.Class > 3 {
			return impl.World{}, false
		}
		for range []int{16, 8, 4, 2}[s.Class] {
			s.Lens, s.Ptrs = append(s.Lens, next(1)), append(s.Ptrs, next(1))
		}
		w.Spans = append(w.Spans, s)
	}
	if lacks || !impl.FormOk(impl.World{Base: 32, Pages: w.Pages, Words: w.Words, Dirty: w.Dirty, Spans: w.Spans, Muts: []impl.Mut{roots6()}}) {
		return impl.World{}, false
	}
	for range muts {
		var mut impl.Mut
		for range 6 {
			mut.Roots = append(mut.Roots, addrByDefinition(w, next(2)))
		}
		w.Muts = append(w.Muts, mut)
	}
	for grey := next(2); len(w.Gc.Grey) < grey && !lacks; {
		w.Gc.Grey = append(w.Gc.Grey, addrByDefinition(w, next(2)))
	}
	return w, !lacks && impl.FormOk(w)
}

// worldByDefinition is the World of which all are the numbers, if there is one: it
// is told by taking the numbers in order, and asking what numbers it has then.
func worldByDefinition(all [4][]int) (impl.World, bool) {
	w, is := shapeByDefinition(all)
	if !is || len(all[3]) != 36*len(w.Spans) {
		return impl.World{}, false
	}
	for k, s := range w.Spans {
		for i := range 32 {
			w.Words[32*s.Page+i] = all[3][36*k+i/8*9+1+i%8]
		}
	}
	eachObject(w, func(k int, slot int, first int, _ bool) {
		for i := range w.Spans[k].Ptrs[slot] {
			w.Words[first+i] = addrByDefinition(w, w.Words[first+i])
		}
	})
	if !impl.FormOk(w) || len(wrongIn(w)) > 0 || imageOf(imageNumbers(w)) != imageOf(all) {
		return impl.World{}, false
	}
	return w, true
}

// imageOfEach has images of ringWorlds in each phase.
func imageOfEach(t *testing.T) map[string]string {
	t.Helper()
	list := map[string]string{}
	for name, w := range ringWorlds(t) {
		list[name] = imageOf(imageNumbers(w))
	}
	return list
}

func wantNoImage(t *testing.T, what string, b string, code int) {
	t.Helper()
	w, got := impl.ReadImage(b)
	if wantZero(t, what+": ReadImage", w); got != code {
		t.Errorf("%s: ReadImage answers %d, want %d", what, got, code)
	}
	for _, to := range [][2]int{{64, 4}, {33, 4}, {32, 0}, {0, 1}} {
		w, got := impl.Load(b, to[0], to[1])
		if wantZero(t, what+": Load", w); got != code {
			t.Errorf("%s: Load at %v answers %d, want %d", what, to, got, code)
		}
	}
}

// wantImage holds what is written of w, and what comes back of it, against chapter 8.
func wantImage(t *testing.T, what string, w impl.World) {
	t.Helper()
	wantWrong(t, what, w)
	lists := imageNumbers(w)
	b := imageOf(lists)
	if got := impl.Encode(w); got != b {
		t.Errorf("%s: Encode is\n%q, want\n%q", what, got, b)
	}
	if got, want := impl.MetaBytes(w), sectionsOf(bodiesOf(lists)[:3]...); got != want {
		t.Errorf("%s: MetaBytes are\n%q, want\n%q", what, got, want)
	}
	wantWordBytes(t, what, w, upTo(50))
	x, code := impl.ReadImage(b)
	if code != impl.ImOk {
		t.Errorf("%s: ReadImage answers %d", what, code)
	}
	wantWorld(t, what+": ReadImage", x, movedByDefinition(w, 32, w.Pages))
	wantWrong(t, what+": ReadImage", x)
	if impl.Encode(x) != b {
		t.Errorf("%s: another image when it is read", what)
	}
}

func wantWordBytes(t *testing.T, what string, w impl.World, cards []int) {
	t.Helper()
	want := sectionByDefinition(87, put(cardNumbers(w, cards)...))
	if got := impl.WordBytes(w, cards); got != want {
		t.Errorf("%s: WordBytes of %v are\n%q, want\n%q", what, cards, got, want)
	}
}

func TestImageConstants(t *testing.T) {
	got := []int{impl.ImOk, impl.ImMagic, impl.ImShort, impl.ImSum, impl.ImForm, impl.ImBase, impl.ImSmall}
	wantList(t, "codes of images", got, 0, 1, 2, 3, 4, 5, 6)
}

// mixedWorld has objects in slots 0 and 2 of span 0, 0 and 1 of span 1, and 0 of span 2.
func TestRefs(t *testing.T) {
	w := mixedWorld()
	refs := map[int]int{0: 0, 96: 1, 104: 3, 160: 17, 176: 18, 192: 33}
	addrs := map[int]int{}
	for addr, ref := range refs {
		addrs[ref] = addr
	}
	far := []int{math.MinInt, math.MinInt + 1, math.MinInt + 16, -96, 96 + 1<<32, 1 << 62, math.MaxInt - 15, math.MaxInt}
	for _, n := range append(far, slices.Concat(upTo(400), []int{-1, -2, -15, -16, -17})...) {
		ref, is := refs[n]
		if !is {
			ref = -1
		}
		if got := impl.RefOf(w, n); got != ref {
			t.Errorf("RefOf(%d) = %d, want %d", n, got, ref)
		}
		addr, is := addrs[n]
		if !is {
			addr = -1
		}
		if got := impl.AddrRef(w, n); got != addr {
			t.Errorf("AddrRef(%d) = %d, want %d", n, got, addr)
		}
	}
}

// The edges: within an object (97), a slot that is not used (100), a page that is
// no span (128), and slots that the classes have and have not.
func TestRefsByHand(t *testing.T) {
	w := mixedWorld()
	for _, addr := range []int{97, 98, 99, 100, 128, 161, 194, 95, 256} {
		if got := impl.RefOf(w, addr); got != -1 {
			t.Errorf("RefOf(%d) = %d, want -1", addr, got)
		}
	}
	// ref 2 is slot 1 of span 0, 9 slot 8 of 8, 19 slot 2 of 2, 32 slot 15 of 2, 48 slot 15 of 16, 49 slot 0 of span 3
	for _, ref := range []int{-1, 2, 9, 16, 19, 32, 34, 48, 49, 50} {
		if got := impl.AddrRef(w, ref); got != -1 {
			t.Errorf("AddrRef(%d) = %d, want -1", ref, got)
		}
	}
	w.Spans[2].Lens[15] = 2
	if impl.RefOf(w, 222) != 48 || impl.AddrRef(w, 48) != 222 || impl.AddrRef(w, 49) != -1 {
		t.Errorf("the last slot: %d, %d, %d", impl.RefOf(w, 222), impl.AddrRef(w, 48), impl.AddrRef(w, 49))
	}
	none := newWorld(t, 32, 1, 1)
	if impl.RefOf(none, 0) != 0 || impl.AddrRef(none, 0) != 0 || impl.RefOf(none, 32) != -1 || impl.AddrRef(none, 1) != -1 {
		t.Error("refs where there is no span")
	}
}

// Refs are told in each phase, of what is Doomed too, and of what is not WorldOk.
func TestRefsInEachPhase(t *testing.T) {
	for name, w := range ringWorlds(t) {
		for addr, ref := range map[int]int{0: 0, ringA: 1, ringB: 2, ringC: 3, twin: 4, leaf: 17, self: 18, alone: 19, big: 33, lost: 34, 80: -1, 102: -1, 160: -1} {
			if got := impl.RefOf(w, addr); got != ref {
				t.Errorf("%s: RefOf(%d) = %d, want %d", name, addr, got, ref)
			}
			if got := impl.AddrRef(w, ref); ref >= 0 && got != addr {
				t.Errorf("%s: AddrRef(%d) = %d, want %d", name, ref, got, addr)
			}
		}
	}
	for name, w := range brokenWorlds() {
		for _, n := range []int{-1, 0, 1, 3, 17, 33, 96, 104, 160, 192} {
			if impl.RefOf(w, n) != -1 || impl.AddrRef(w, n) != -1 {
				t.Errorf("%s: RefOf(%d) = %d, AddrRef = %d", name, n, impl.RefOf(w, n), impl.AddrRef(w, n))
			}
		}
	}
}

// What ringWorld is as numbers; the sweeping ones have 0 for the alone and the lost.
func TestMetaBytesByHand(t *testing.T) {
	spansOf := func(a int, b int, c int, swept int) []int {
		list := []int{3, 0, 1, a, swept, 3, 1, 4, 3, 3, 2, 4, 0, 0, 0, 0, 0, 0, 0, 0, 0, 1, 0, b, 0, 1, 0, 2, 1, 2, 1}
		list = append(list, make([]int, 26)...)
		return append(list, 2, 3, c, 0, 9, 4, 16, 16)
	}
	roots := []int{1, 0, 4, 1, 0, 0, 0, 0, 0, 0, 0, 0, 0, 0, 0, 0, 33, 1}
	for name, want := range map[string][3][]int{
		"off":   {{4, 0, 0, 3}, spansOf(0, 0, 0, 0), {0}},
		"start": {{4, 1, 0, 3}, spansOf(0, 0, 0, 0), {0}},
		"setup": {{4, 1, 1, 3}, spansOf(9, 0, 0, 0), {2, 1, 4}},
		"seen":  {{4, 1, 3, 3}, spansOf(9, 0, 1, 0), {3, 1, 4, 33}},
		"mark":  {{4, 2, 0, 3}, spansOf(11, 1, 1, 0), {3, 2, 17, 33}},
		"term":  {{4, 3, 0, 3}, spansOf(15, 3, 1, 0), {0}},
		"sweep": {{4, 4, 0, 3}, spansOf(15, 3, 1, 0), {0}},
		"swept": {{4, 4, 0, 3}, spansOf(0, 3, 1, 1), {0}},
	} {
		w := ringWorlds(t)[name]
		b := sectionsOf(put(want[0]...), put(want[1]...), put(append(slices.Clone(roots), want[2]...)...))
		if got := impl.MetaBytes(w); got != b {
			t.Errorf("%s: MetaBytes are\n%q, want\n%q", name, got, b)
		}
		cards := []int{0, 2, -5, 6, 0, 3, 0, 17, 3, 1, 0, 1, 68, 0, 64, 98, 1, -1, 2, 0, 0, 0, 0, 0, 0, 0, 0, 3, 0, 0, 0, 0, 0, 0, 0, 0,
			4, 100, 0, 18, 1, 0, 0, 0, 0, 5, 0, 0, 0, 0, 0, 0, 0, 0, 6, 0, 0, 0, 0, 0, 0, 0, 0, 7, 0, 0, 0, 0, 0, 0, 0, 0,
			8, 18, 17, 0, 18, 144, 1, 0, 0, 9, 0, 0, 0, 0, 0, 0, 0, 0, 10, 0, 0, 19, 0, 0, 0, 0, 0, 11, 0, 0, 0, 0, 0, 0, 0, 1}
		if w.Gc.Phase == impl.PhSweep {
			cards[len(cards)-1], cards[len(cards)-15] = 0, 0
		}
		if got, want := impl.Encode(w), "BRM1"+b+sectionByDefinition(87, put(cards...)); got != want {
			t.Errorf("%s: Encode is\n%q, want\n%q", name, got, want)
		}
	}
}

// TestBytesByHand has Worlds byte by byte; the sums were worked out apart from this program.
func TestBytesByHand(t *testing.T) {
	w := newWorld(t, 320, 1, 1)
	none := "BRM1" + "G\x08\x02\x00\x00\x02\x8d\x63\x31\x33" + "S\x02\x00\xb1\xf7\x40\x4b" +
		"R\x0e\x00\x00\x00\x00\x00\x00\x00\x7e\xfb\x36\xb9" + "W\x00\x00\x00\x00\x00"
	if got := impl.Encode(w); got != none {
		t.Errorf("Encode of no spans is\n%q, want\n%q", got, none)
	}
	if got := impl.MetaBytes(w); got != none[4:len(none)-6] {
		t.Errorf("MetaBytes of no spans are\n%q, want\n%q", got, none[4:len(none)-6])
	}
	w, _ = impl.DoAll(w, []impl.Op{{Kind: 1, H: 5, N: 16, V: 2}, {Kind: 3, H: 5, G: 5, I: 1}, {Kind: 4, H: 5, I: 2, V: math.MinInt}, {Kind: 4, H: 5, I: 3, V: -65}})
	w, _ = impl.GcStart(w)
	w = impl.GcStep(w)
	meta := "G\x08\x02\x02\x02\x02\x2e\x20\xf6\x32" + "S\x12\x02\x00\x06\x02\x00\x20\x04\x00\x00\xe9\x01\x5a\xd0" +
		"R\x10\x00\x00\x00\x00\x00\x02\x02\x02\x3c\x3a\xb8\xc9"
	if got := impl.MetaBytes(w); got != meta {
		t.Errorf("MetaBytes of one object are\n%q, want\n%q", got, meta)
	}
	card := "W\x26\x00\x00\x02\xff\xff\xff\xff\xff\xff\xff\xff\xff\x01\x81\x01\x00\x00\x00\x00\x5a\x5d\xee\x5b"
	if got := impl.WordBytes(w, []int{0}); got != card {
		t.Errorf("WordBytes of one card are\n%q, want\n%q", got, card)
	}
}

func TestWordBytesOfCards(t *testing.T) {
	for name, w := range ringWorlds(t) {
		setWords(&w, twin, math.MaxInt, math.MinInt, -1, 1<<40)
		wantWordBytes(t, name, w, nil)
		wantWordBytes(t, name, w, []int{})
		for card := -1; card <= 17; card++ {
			wantWordBytes(t, name, w, []int{card})
			wantWordBytes(t, name, w, []int{card, card})
		}
		wantWordBytes(t, name, w, []int{12, 13, 14, 15, 16, 17, -1, -2, -3, -4, -5, math.MinInt, math.MaxInt, 1 << 61, 1<<61 + 1, 1 << 62, -1 << 61})
		wantWordBytes(t, name, w, []int{11, 3, 12, 3, 0, -1, 10, 16, 0, 1, 8, 8, 1})
		wantWordBytes(t, name, w, []int{2 + 1<<61, 1 - 1<<62, 1<<32 + 1, 4})
	}
	w := ringWorld(t)
	for cards, want := range map[[2]int]string{
		{}:       "\x57\x12\x00\x04\x09\x0c\x00\x06\x00\x22\x06\xcc\xd8\x32\x68",
		{12, -1}: "\x57\x00\x00\x00\x00\x00",
		{16, 99}: "\x57\x00\x00\x00\x00\x00",
	} {
		list := cards[:]
		if cards == [2]int{} {
			list = cards[:1]
		}
		if got := impl.WordBytes(w, list); got != want {
			t.Errorf("WordBytes of %v are %q, want %q", list, got, want)
		}
	}
}

// A thousand cards are taken, of whatever kind they are, and not one more.
func TestWordBytesOfAThousandCards(t *testing.T) {
	w := ringWorlds(t)["sweep"]
	for i := range 16 {
		w.Words[w.Spans[2].Page*32+i] = 0
	}
	w.Spans[2].Ptrs[0], w.Spans[2].Lens[0] = 0, 16
	for i := range 16 {
		w.Words[64+i] = math.MinInt + i
	}
	most := slices.Repeat([]int{8, 9}, 500)
	mixed, none := slices.Repeat([]int{11, 0, -1, 15, 99}, 200), slices.Repeat([]int{12, -1}, 500)
	for _, cards := range [][]int{most, mixed, none, most[:999]} {
		wantWordBytes(t, "a thousand", w, cards)
	}
	for _, cards := range [][]int{most, mixed, none} {
		for _, more := range [][]int{{0}, {-1}, {15}, cards} {
			if got := impl.WordBytes(w, slices.Concat(cards, more)); got != "" {
				t.Errorf("WordBytes of %d cards have %d bytes, want nothing", len(cards)+len(more), len(got))
			}
		}
	}
}

func TestImagesRefuseWhatIsNotRight(t *testing.T) {
	refused := func(t *testing.T, w impl.World) {
		t.Helper()
		meta, words, none, b := impl.MetaBytes(w), impl.WordBytes(w, []int{0, 4}), impl.WordBytes(w, nil), impl.Encode(w)
		if meta != "" || words != "" || none != "" || b != "" {
			t.Errorf("MetaBytes %q, WordBytes %q and %q, Encode %q, want nothing", meta, words, none, b)
		}
		for _, to := range [][2]int{{32, 5}, {64, 4}, {33, 4}, {32, 0}, {0, 13}, {32, 1}} {
			x, code := impl.Move(w, to[0], to[1])
			if wantZero(t, "Move", x); code != impl.ImForm {
				t.Errorf("Move to %v answers %d, want ImForm", to, code)
			}
		}
	}
	refused(t, impl.World{})
	eachNotRight(t, refused)
}

func TestImagesInEachPhase(t *testing.T) {
	for name, w := range ringWorlds(t) {
		for _, base := range []int{32, 64, 96, impl.MaxBase} {
			at := movedByDefinition(w, base, w.Pages)
			wantImage(t, name, at)
			at.Dirty[0], at.Dirty[9], at.Dirty[15] = true, true, true
			setWords(&at, base+12, math.MinInt, math.MaxInt, -64, 64)
			wantImage(t, name+", dirty", at)
		}
		wantImage(t, name, w)
	}
	for _, m := range slices.Concat(rightMoments(), rightMomentsOfMarks()) {
		w := ringWorlds(t)[m.world]
		m.change(&w)
		wantImage(t, m.world+", "+m.what, w)
	}
}

// Worlds without spans, in each phase, of each number of Pages and of Muts.
func TestImagesWithoutSpans(t *testing.T) {
	for pages := 1; pages <= 12; pages++ {
		for muts := 1; muts <= 3; muts++ {
			w := newWorld(t, 64, pages, muts)
			wantImage(t, fmt.Sprintf("%d pages, %d muts", pages, muts), w)
			w, _ = impl.GcStart(w)
			for ; w.Gc.Phase != impl.PhOff; w = impl.GcStep(w) {
				wantImage(t, fmt.Sprintf("%d pages, %d muts, %+v", pages, muts, w.Gc), w)
			}
		}
	}
}

// The World with most objects, all of which come to be in Grey, and with words of
// the longest numbers.
func TestImagesOfTheFullest(t *testing.T) {
	w := newWorld(t, impl.MaxBase, 12, 3)
	for i := range 192 {
		w, _ = take(t, w, 2, 1)
		setWords(&w, impl.MaxBase+2*i, impl.MaxBase+2*(191-i), math.MinInt+i)
	}
	wantImage(t, "the fullest", w)
	w, _ = impl.GcStart(w)
	for i := range 192 {
		w = impl.Shade(w, impl.MaxBase+2*(i*5%192))
	}
	wantImage(t, "all in Grey", w)
	if len(w.Gc.Grey) != 192 {
		t.Errorf("but %d objects are in Grey", len(w.Gc.Grey))
	}
	w = impl.GcRun(w, 3+1+192+1+1+5)
	wantImage(t, "in the midst of sweeping", w)
	if w.Gc.Phase != impl.PhSweep {
		t.Errorf("in phase %d", w.Gc.Phase)
	}
}

// Numbers that look like addresses, or like refs, stay what they are.
func TestNumbersAreNotMoved(t *testing.T) {
	for name, w := range ringWorlds(t) {
		for i := range 16 {
			setWords(&w, big+4, ringA+i, i, 33, w.Base, big)
			setWords(&w, twin, i, 1, ringA, lost)
			wantImage(t, name, w)
			for _, pages := range []int{3, 4, 12} {
				wantMoved(t, name, w, 96, pages)
			}
		}
	}
}

func TestImagesThatBeginOtherwise(t *testing.T) {
	for name, b := range imageOfEach(t) {
		for cut := range 4 {
			wantNoImage(t, name+", cut off in BRM1", b[:cut], impl.ImMagic)
		}
		for _, head := range []string{"", "BRM", "BRM2", "brm1", "BRN1", "BSM1", "CRM1", "\x00BRM1", " BRM1", "1MRB", "BBRM1"} {
			wantNoImage(t, name+", with "+head, head+b[4:], impl.ImMagic)
		}
		wantNoImage(t, name+", its sections alone", b[4:], impl.ImMagic)
	}
	wantNoImage(t, "nothing", "", impl.ImMagic)
	wantNoImage(t, "the four bytes alone", "BRM1", impl.ImShort)
	wantNoImage(t, "a byte behind them", "BRM1G", impl.ImShort)
}

func TestImagesCutOffAndLonger(t *testing.T) {
	for name, b := range imageOfEach(t) {
		for cut := 4; cut < len(b); cut++ {
			wantNoImage(t, fmt.Sprintf("%s, cut off at %d", name, cut), b[:cut], impl.ImShort)
		}
		for _, more := range []string{"\x00", "x", "\x80", "BRM1", b, sectionByDefinition(87, ""), sectionByDefinition(71, "z")} {
			wantNoImage(t, name+", with bytes behind", b+more, impl.ImForm)
		}
		for _, ahead := range []string{"BRM1", "BRM1\x00", "BRM1G", b} {
			wantNoImage(t, name+", with bytes ahead", ahead+b, codeByDefinition(ahead+b))
		}
	}
}

// codeByDefinition is the code of bytes of which no World is the image.
func codeByDefinition(b string) int {
	if !strings.HasPrefix(b, "BRM1") {
		return impl.ImMagic
	}
	at := 4
	for _, tag := range imageTags {
		s := getSectionByDefinition(b, at)
		switch {
		case s.code == impl.ByShort:
			return impl.ImShort
		case s.code == impl.BySum:
			return impl.ImSum
		case s.code == impl.ByForm || s.tag != tag:
			return impl.ImForm
		}
		at = s.next
	}
	return impl.ImForm
}

// No turned bit makes an image of another World; where it is tells the code.
func TestImagesWithATurnedBit(t *testing.T) {
	codes := make([]int, 5)
	for name, b := range imageOfEach(t) {
		for bit := range 8 * len(b) {
			turned := withTurned(b, bit, 1, 1)
			code := codeByDefinition(turned)
			what := fmt.Sprintf("%s, bit %d turned", name, bit)
			w, got := impl.ReadImage(turned)
			if wantZero(t, what, w); got != code || bit < 32 != (code == impl.ImMagic) {
				t.Errorf("%s: ReadImage answers %d, want %d", what, got, code)
			}
			codes[code]++
		}
		for at, k := 4, 0; at < len(b); k++ {
			s := getSectionByDefinition(b, at)
			for bit := range 8 {
				wantNoImage(t, name+", a tag turned", withTurned(b, 8*at+bit, 1, 1), impl.ImForm)
				wantNoImage(t, name+", a sum turned", withTurned(b, 8*(s.next-1)+bit, 1, 1), impl.ImSum)
				if s.body != "" {
					wantNoImage(t, name+", a body turned", withTurned(b, 8*(s.next-5)+bit, 1, 1), impl.ImSum)
				}
			}
			at = s.next
		}
	}
	for code, count := range codes[1:] {
		if count < 20 {
			t.Errorf("code %d came but %d times", code+1, count)
		}
	}
}

func TestImagesWithOtherSections(t *testing.T) {
	for name, w := range ringWorlds(t) {
		bodies := bodiesOf(imageNumbers(w))
		section := func(i int) string { return sectionByDefinition(imageTags[i], bodies[i]) }
		for i := range 4 {
			ahead, behind := "BRM1"+sectionsOf(bodies[:i]...), ""
			for k := i + 1; k < 4; k++ {
				behind += section(k)
			}
			for tag := range 256 {
				if tag != imageTags[i] {
					wantNoImage(t, fmt.Sprintf("%s, tag %d for section %d", name, tag, i), ahead+sectionByDefinition(tag, bodies[i])+behind, impl.ImForm)
				}
			}
			code := impl.ImForm
			if i == 3 {
				code = impl.ImShort
			}
			wantNoImage(t, fmt.Sprintf("%s, without section %d", name, i), ahead+behind, code)
			wantNoImage(t, fmt.Sprintf("%s, section %d twice", name, i), ahead+section(i)+section(i)+behind, impl.ImForm)
			wantNoImage(t, fmt.Sprintf("%s, a section ahead of %d", name, i), ahead+sectionByDefinition(0, "")+section(i)+behind, impl.ImForm)
			for k := range i {
				order := upTo(4)
				order[i], order[k] = k, i
				s := "BRM1"
				for _, n := range order {
					s += section(n)
				}
				wantNoImage(t, fmt.Sprintf("%s, sections %d and %d changed about", name, k, i), s, impl.ImForm)
			}
		}
	}
}

// Each section with bytes that are not as PutInt writes them, under a right sum.
func TestImagesWithOtherNumbers(t *testing.T) {
	for name, w := range ringWorlds(t) {
		lists := imageNumbers(w)
		for i, list := range lists {
			spoil := func(what string, body string) {
				bodies := bodiesOf(lists)
				bodies[i] = body
				wantNoImage(t, fmt.Sprintf("%s: section %d with %s", name, i, what), "BRM1"+sectionsOf(bodies...), impl.ImForm)
			}
			for n := range list {
				s := put(list[n])
				last := len(s) - 1
				long := s[:last] + string([]byte{s[last] + 128}) + "\x00"
				spoil(fmt.Sprintf("a longer number %d", n), put(list[:n]...)+long+put(list[n+1:]...))
				spoil(fmt.Sprintf("no number %d", n), put(list[:n]...)+put(list[n+1:]...))
				spoil(fmt.Sprintf("numbers up to %d", n), put(list[:n]...))
			}
			body := put(list...)
			for _, more := range []string{"\x80", "\x00", "\x80\x00", "\xff\xff\xff\xff\xff\xff\xff\xff\xff\x02", "\x80\x80\x80\x80\x80\x80\x80\x80\x80\x80\x01"} {
				spoil("bytes behind", body+more)
				spoil("bytes ahead", more+body)
			}
			spoil("an open number at the end", body[:len(body)-1]+"\x82")
		}
	}
}

// wantNumbers holds ReadImage of an image with those numbers against the definition,
// and tells whether there is such a World.
func wantNumbers(t *testing.T, what string, lists [4][]int) bool {
	t.Helper()
	want, is := worldByDefinition(lists)
	b := imageOf(lists)
	if !is {
		w, code := impl.ReadImage(b)
		if wantZero(t, what, w); code != impl.ImForm {
			t.Errorf("%s: ReadImage answers %d, want ImForm", what, code)
		}
		return false
	}
	w, code := impl.ReadImage(b)
	if code != impl.ImOk || !impl.WorldOk(w) || impl.Encode(w) != b {
		t.Errorf("%s: ReadImage answers %d, want a World that may go on", what, code)
	}
	wantWorld(t, what, w, want)
	return true
}

// withNumber is lists with n in place of number at of section i.
func withNumber(lists [4][]int, i int, at int, n int) [4][]int {
	lists[i] = slices.Clone(lists[i])
	lists[i][at] = n
	return lists
}

// Each number of each image is changed, under a right sum.
func TestImagesWithEachNumberChanged(t *testing.T) {
	right := 0
	for name, w := range ringWorlds(t) {
		lists := imageNumbers(w)
		for i := range lists {
			for at, n := range lists[i] {
				for _, other := range []int{n + 1, n - 1, -1, 0, 1, 2, 3, 4, 16, 17, 34, 200000, math.MinInt, math.MaxInt} {
					if other != n && wantNumbers(t, fmt.Sprintf("%s: %d for number %d of section %d", name, other, at, i), withNumber(lists, i, at, other)) {
						right++
					}
				}
			}
		}
	}
	if right < 1000 {
		t.Errorf("but %d were images", right)
	}
}

// The counts, one by one: of pages, Muts, spans, slots and addresses in Grey.
func TestImagesWithOtherCounts(t *testing.T) {
	for name, w := range ringWorlds(t) {
		lists := imageNumbers(w)
		for _, count := range []struct{ section, at, is int }{{0, 0, 4}, {0, 3, 3}, {1, 0, 3}, {2, 18, len(w.Gc.Grey)}} {
			for _, n := range []int{math.MinInt, -200000, -2, -1, 0, 1, 2, 3, 4, 5, 12, 13, 63, 64, 200000, 1 << 32, 1<<32 + 3, 1 << 59, math.MaxInt} {
				if n == count.is || count.at == 0 && count.section == 0 && n >= 3 && n <= 12 {
					continue
				}
				what := fmt.Sprintf("%s: %d for number %d of section %d", name, n, count.at, count.section)
				wantNoImage(t, what, imageOf(withNumber(lists, count.section, count.at, n)), impl.ImForm)
			}
		}
		for _, pages := range []int{3, 5, 12} {
			if !wantNumbers(t, fmt.Sprintf("%s: %d pages", name, pages), withNumber(lists, 0, 0, pages)) {
				t.Errorf("%s: not to be read with %d pages", name, pages)
			}
		}
	}
	many := slices.Repeat([]int{1}, 190000)
	for _, first := range []int{1, 3, 190000, math.MaxInt, -1} {
		for i, lists := range [][4][]int{{}, {{4, 0, 0, 3}}, {{4, 0, 0, 3}, {0}}, {{4, 0, 0, 3}, {0}, make([]int, 19)}} {
			lists[i] = append(append(lists[i][:len(lists[i]):len(lists[i])], first), many...)
			wantNoImage(t, fmt.Sprintf("%d and many numbers in section %d", first, i), imageOf(lists), impl.ImForm)
		}
	}
}

// Images of Worlds that are not right, for all reasons that an image can tell.
func TestImagesOfWhatIsNotRight(t *testing.T) {
	for _, m := range slices.Concat(wrongWays(), wrongRounds(), wrongMarks(), wrongInEachPhase()) {
		w := ringWorlds(t)[m.world]
		m.change(&w)
		if impl.FormOk(w) {
			wantNoImage(t, m.world+", "+m.what, imageOf(imageNumbers(w)), impl.ImForm)
		}
	}
	for _, m := range formsThatAreWrong() {
		w := ringWorlds(t)[m.world]
		m.change(&w)
		wantNoImage(t, m.world+", "+m.what, imageOf(imageNumbers(w)), impl.ImForm)
	}
}

func formsThatAreWrong() []moment {
	return []moment{
		{"phase below the first", "off", func(w *impl.World) { w.Gc.Phase = -1 }},
		{"phase behind the last", "off", func(w *impl.World) { w.Gc.Phase = 5 }},
		{"spans turned round", "off", func(w *impl.World) { slices.Reverse(w.Spans) }},
		{"two spans of one page", "off", func(w *impl.World) {
			w.Spans = append(w.Spans, impl.Span{Page: 2, Class: 3, Lens: make([]int, 2), Ptrs: make([]int, 2)})
		}},
		{"mark of a free slot", "mark", func(w *impl.World) { w.Spans[0].Mark |= 16 }},
		{"mark of no slot", "mark", func(w *impl.World) { w.Spans[2].Mark |= 4 }},
		{"mark below 0", "mark", func(w *impl.World) { w.Spans[2].Mark = -1 }},
		{"len below 0", "off", func(w *impl.World) { w.Spans[1].Lens[15] = -1 }},
		{"len more than the slot", "off", func(w *impl.World) { w.Spans[2].Lens[1] = 17 }},
		{"ptrs more than len", "off", func(w *impl.World) { w.Spans[1].Ptrs[0] = 2 }},
		{"ptrs of a free slot", "off", func(w *impl.World) { w.Spans[1].Ptrs[9] = 1 }},
		{"word of a free slot", "off", func(w *impl.World) { w.Words[63] = 1 }},
		{"word behind the object", "off", func(w *impl.World) { w.Words[3] = -1 }},
		{"a root in a free slot", "off", func(w *impl.World) { w.Muts[1].Roots[0] = 102 }},
		{"a root within an object", "sweep", func(w *impl.World) { w.Muts[1].Roots[0] = ringA + 1 }},
	}
}

// Words of what is Doomed are 0 in an image, whether they are numbers or pointers.
func TestImagesWithWordsOfTheDoomed(t *testing.T) {
	lists := imageNumbers(ringWorlds(t)["sweep"])
	for at := range lists[3] {
		card, word := at/9, at%9-1
		doomed := card >= 10 || card == 4 && word >= 4 && word < 6
		if word < 0 || !doomed {
			continue
		}
		for _, n := range []int{-1, 1, 2, 17, 19, 34, math.MaxInt} {
			wantNoImage(t, fmt.Sprintf("%d for number %d", n, at), imageOf(withNumber(lists, 3, at, n)), impl.ImForm)
		}
	}
}

// TestTheFirstCodeOfBytesCounts has bytes that two codes would fit.
func TestTheFirstCodeOfBytesCounts(t *testing.T) {
	bodies := bodiesOf(imageNumbers(ringWorlds(t)["mark"]))
	g, s, r, w := sectionByDefinition(71, bodies[0]), sectionByDefinition(83, bodies[1]), sectionByDefinition(82, bodies[2]), sectionByDefinition(87, bodies[3])
	sum := func(b string) string { return withTurned(b, 8*len(b)-1, 1, 1) }
	other := func(b string) string { return "\x00" + b[1:] }
	length := func(b string) string { return b[:1] + "\x80\x00" + b[1:] }
	less := func(b string) string { return b[:len(b)-1] }
	noWorld := sectionByDefinition(71, put(0, 9, -1, 77))
	noNumber := sectionByDefinition(71, "\x80\x00")
	for _, c := range []struct {
		b    string
		code int
	}{
		{"BRM2", impl.ImMagic},
		{"BRM2" + less(g), impl.ImMagic},
		{"BRM2" + sum(g) + s + r + w, impl.ImMagic},
		{"BRM1" + sum(g) + s + r + less(w), impl.ImSum},
		{"BRM1" + sum(g), impl.ImSum},
		{"BRM1" + sum(g) + other(s) + r + w, impl.ImSum},
		{"BRM1" + other(g), impl.ImForm},
		{"BRM1" + other(g) + sum(s) + r + w, impl.ImForm},
		{"BRM1" + other(g) + s + r + less(w), impl.ImForm},
		{"BRM1" + g + length(s) + sum(r) + less(w), impl.ImForm},
		{"BRM1" + g + s + sum(r) + length(w), impl.ImSum},
		{"BRM1" + g + s + sum(r) + less(w), impl.ImSum},
		{"BRM1" + g + s + r + sum(w) + "behind", impl.ImSum},
		{"BRM1" + other(sum(g)) + s + r + w, impl.ImSum},
		{"BRM1" + other(less(g)), impl.ImShort},
		{"BRM1" + g + s + r + other(less(w)), impl.ImShort},
		{"BRM1" + g + s + r + other(sum(w)), impl.ImSum},
		{"BRM1" + g + s + r + less(sum(w)), impl.ImShort},
		{"BRM1" + g + s + r + other(length(w)), impl.ImForm},
		{"BRM1" + noWorld, impl.ImShort},
		{"BRM1" + noWorld + s + r + less(w), impl.ImShort},
		{"BRM1" + noWorld + s + r + sum(w), impl.ImSum},
		{"BRM1" + noWorld + s + r + other(w), impl.ImForm},
		{"BRM1" + noWorld + s + r + w, impl.ImForm},
		{"BRM1" + noNumber, impl.ImShort},
		{"BRM1" + noNumber + s + r + less(w), impl.ImShort},
		{"BRM1" + noNumber + sum(s) + r + w, impl.ImSum},
		{"BRM1" + noNumber + s + r + w, impl.ImForm},
		{"BRM1" + noWorld + s + r + w + "behind", impl.ImForm},
		{"BRM1\x47\xff", impl.ImShort},
		{"BRM1\x47\xff\xff\xff\xff\xff\xff\xff\xff\xff\x02", impl.ImForm},
		{"BRM1\x00\x01", impl.ImForm},
		{"BRM1\x00\xff", impl.ImShort},
	} {
		if want := codeByDefinition(c.b); want != c.code {
			t.Errorf("of %q the definition tells %d, want %d", c.b, want, c.code)
		}
		wantNoImage(t, fmt.Sprintf("%q", c.b), c.b, c.code)
	}
}

// wantMoved holds Move of w, and Load of its image, against the definition.
func wantMoved(t *testing.T, what string, w impl.World, base int, pages int) impl.World {
	t.Helper()
	what = fmt.Sprintf("%s, to %d, %d", what, base, pages)
	want := movedByDefinition(w, base, pages)
	x, code := impl.Move(w, base, pages)
	y, loaded := impl.Load(impl.Encode(w), base, pages)
	if code != impl.ImOk || loaded != impl.ImOk {
		t.Errorf("%s: Move answers %d, Load %d", what, code, loaded)
	}
	wantWorld(t, what+": Move", x, want)
	wantWorld(t, what+": Load", y, want)
	wantWrong(t, what, x)
	if !impl.SameGraph(impl.GraphOf(x), impl.GraphOf(w)) {
		t.Errorf("%s: another Graph", what)
	}
	if pages == w.Pages && impl.Encode(x) != impl.Encode(w) {
		t.Errorf("%s: another image", what)
	}
	return x
}

func wantNotMoved(t *testing.T, what string, w impl.World, base int, pages int, code int) {
	t.Helper()
	what = fmt.Sprintf("%s, to %d, %d", what, base, pages)
	x, got := impl.Move(w, base, pages)
	y, loaded := impl.Load(impl.Encode(w), base, pages)
	wantZero(t, what+": Move", x)
	if wantZero(t, what+": Load", y); got != code || loaded != code {
		t.Errorf("%s: Move answers %d, Load %d, want %d", what, got, loaded, code)
	}
}

func TestMovesInEachPhase(t *testing.T) {
	for name, w := range ringWorlds(t) {
		w.Dirty[2], w.Dirty[15] = true, true
		for _, base := range []int{32, 64, 96, 1024, impl.MaxBase - 32, impl.MaxBase} {
			for _, pages := range []int{3, 4, 5, 11, 12} {
				wantMoved(t, name, w, base, pages)
			}
			for _, pages := range []int{1, 2} {
				wantNotMoved(t, name, w, base, pages, impl.ImSmall)
			}
		}
		for _, base := range []int{0, -32, 1, 16, 31, 33, 48, 63, 65, impl.MaxBase - 1, impl.MaxBase + 1, impl.MaxBase + 32, 1 << 62, math.MinInt, math.MaxInt, math.MaxInt - 31} {
			for _, pages := range []int{-1, 0, 1, 2, 3, 4, 12, 13} {
				wantNotMoved(t, name, w, base, pages, impl.ImBase)
			}
		}
		for _, pages := range []int{math.MinInt, -4, -1, 0, 13, 14, 1 << 32, 4 + 1<<59, math.MaxInt} {
			for _, base := range []int{32, 64, impl.MaxBase} {
				wantNotMoved(t, name, w, base, pages, impl.ImBase)
			}
		}
	}
	for _, m := range slices.Concat(rightMoments(), rightMomentsOfMarks()) {
		w := ringWorlds(t)[m.world]
		m.change(&w)
		for _, pages := range []int{4, 5, 12} {
			wantMoved(t, m.world+", "+m.what, w, 32, pages)
			wantMoved(t, m.world+", "+m.what, w, 4096, pages)
		}
	}
}

// gapWorld has spans at pages 1 and 3 of 5, one with slots of 8, one of 2. Each
// has an object that leads to the one in the other, and slot 0 of neither is used.
func gapWorld(t *testing.T) impl.World {
	t.Helper()
	w := newWorld(t, 64, 5, 1)
	for _, n := range []int{16, 8, 4, 2} {
		w, _ = take(t, w, n, 1)
	}
	w, a := take(t, w, 7, 3)
	w, b := take(t, w, 2, 1)
	for _, addr := range []int{64, 96, 128, 160} {
		w = give(t, w, addr)
	}
	clear(w.Dirty)
	setWords(&w, a, 0, b, a, -7, a, b, 1)
	setWords(&w, b, a, b)
	copy(w.Muts[0].Roots[2:], []int{b, a, b})
	return w
}

func TestMovesOfSpansApart(t *testing.T) {
	w := gapWorld(t)
	wantList(t, "roots", w.Muts[0].Roots, 0, 0, 162, 104, 162, 0)
	x := wantMoved(t, "apart", w, 320, 5)
	wantList(t, "roots in as many pages", x.Muts[0].Roots, 0, 0, 418, 360, 418, 0)
	wantList(t, "pages", []int{x.Spans[0].Page, x.Spans[1].Page}, 1, 3)
	wantList(t, "words", x.Words[40:48], 0, 418, 360, -7, 104, 162, 1, 0)
	wantList(t, "words", x.Words[98:100], 360, 162)
	for _, pages := range []int{2, 3, 4, 6, 12} {
		x := wantMoved(t, "apart", w, 320, pages)
		wantList(t, "roots in other pages", x.Muts[0].Roots, 0, 0, 354, 328, 354, 0)
		wantList(t, "pages", []int{x.Spans[0].Page, x.Spans[1].Page}, 0, 1)
		wantList(t, "words", x.Words[8:16], 0, 354, 328, -7, 104, 162, 1, 0)
		wantList(t, "words", x.Words[34:36], 328, 162)
		if len(x.Words) != 32*pages || len(x.Dirty) != 4*pages || x.Pages != pages || x.Base != 320 {
			t.Errorf("%d words, %d cards, %d pages, base %d", len(x.Words), len(x.Dirty), x.Pages, x.Base)
		}
	}
	wantNotMoved(t, "apart", w, 320, 1, impl.ImSmall)
	wantImage(t, "apart", w)
}

// Moved to as many pages as there are spans, and to one less, with 0 to 12 of them.
func TestMovesToJustEnoughPages(t *testing.T) {
	for spans := 0; spans <= 12; spans++ {
		w := newWorld(t, 128, 12, 2)
		for range spans {
			w, _ = take(t, w, 16, 16)
			w, _ = take(t, w, 16, 0)
		}
		for pages := 1; pages <= 12; pages++ {
			if pages < spans {
				wantNotMoved(t, fmt.Sprintf("%d spans", spans), w, 32, pages, impl.ImSmall)
				continue
			}
			wantMoved(t, fmt.Sprintf("%d spans", spans), w, 32, pages)
		}
		wantNotMoved(t, fmt.Sprintf("%d spans", spans), w, 32, 0, impl.ImBase)
		wantNotMoved(t, fmt.Sprintf("%d spans", spans), w, 32, 13, impl.ImBase)
	}
}

// A World moved, by way of others, to where it was is what it was, but for what is Doomed.
func TestMovedBack(t *testing.T) {
	for name, w := range ringWorlds(t) {
		want := movedByDefinition(w, w.Base, w.Pages)
		for _, pages := range []int{3, 4, 12} {
			x := wantMoved(t, name, w, 256, pages)
			wantWorld(t, name+": moved back", wantMoved(t, name, x, w.Base, w.Pages), want)
		}
		if same(want, w) == (w.Gc.Phase == impl.PhSweep) {
			t.Errorf("%s: moved to where it is, it is the same: %v", name, same(want, w))
		}
	}
}

func TestImageMemory(t *testing.T) {
	worlds := ringWorlds(t)
	worlds["apart"] = gapWorld(t)
	worlds["no spans"] = newWorld(t, 64, 3, 2)
	for name, w := range worlds {
		b := impl.Encode(w)
		wantUnwritten(t, name, w, func(w impl.World) {
			wantUnwritten(t, name, []int{3, 0, -1, 99, 8, 11}, func(cards []int) {
				impl.WordBytes(w, cards)
			})
			impl.RefOf(w, ringB)
			impl.AddrRef(w, 2)
			impl.MetaBytes(w)
			impl.Encode(w)
			var answers []any
			for _, pages := range []int{3, 4, 5} {
				for range 2 {
					x, _ := impl.Move(w, 64, pages)
					y, _ := impl.Move(w, 32, pages)
					z, _ := impl.Load(b, 64, pages)
					answers = append(answers, x, y, z)
				}
			}
			r, _ := impl.ReadImage(b)
			s, _ := impl.ReadImage(b)
			wantOwnMemory(t, name, append(answers, w, r, s)...)
			impl.Move(w, 33, 4)
			impl.Move(w, 32, 1)
		})
	}
}

// anyMoment is a random World in any moment of a round, one that steps lead to or not.
func anyMoment(t *testing.T, rnd *rand.Rand) impl.World {
	t.Helper()
	w := randomHeap(t, rnd)
	if rnd.Intn(3) == 0 {
		w, _ = impl.GcStart(w)
		return impl.GcRun(w, rnd.Intn(impl.StepsLeft(w)+1))
	}
	goOn(&w, rnd)
	for range rnd.Intn(4) {
		other := roomy(w)
		if disturb(&other, rnd); len(wrongIn(other)) == 0 {
			w = other
		}
	}
	return w
}

func TestImagesFromAnyMoment(t *testing.T) {
	doomed := map[bool]int{}
	for seed := range 1500 {
		rnd := rand.New(rand.NewSource(int64(seed)))
		w, what := anyMoment(t, rnd), fmt.Sprintf("seed %d", seed)
		for range rnd.Intn(5) {
			w.Dirty[rnd.Intn(len(w.Dirty))] = true
		}
		wantImage(t, what, w)
		eachObject(w, func(_ int, _ int, _ int, is bool) { doomed[is]++ })
		base := 32 * (1 + rnd.Intn(40))
		wantMoved(t, what, w, base, w.Pages)
		for pages := 1; pages <= 12; pages += 1 + rnd.Intn(3) {
			if pages < len(w.Spans) {
				wantNotMoved(t, what, w, base, pages, impl.ImSmall)
				continue
			}
			wantMoved(t, what, w, base, pages)
		}
		var cards []int
		for range rnd.Intn(12) {
			cards = append(cards, rnd.Intn(4*w.Pages+6)-3)
		}
		wantWordBytes(t, what, w, cards)
	}
	if doomed[true] < 150 || doomed[false] < 4000 {
		t.Errorf("but %d objects were Doomed, and %d not", doomed[true], doomed[false])
	}
}

// Numbers of images are changed, left out, put in and changed about, under right sums.
func TestImagesOfRandomNumbers(t *testing.T) {
	right, wrong := 0, 0
	for seed := range 3000 {
		rnd := rand.New(rand.NewSource(int64(seed)))
		lists := imageNumbers(anyMoment(t, rnd))
		for range 1 + rnd.Intn(3) {
			i := rnd.Intn(4)
			list := slices.Clone(lists[i])
			if len(list) == 0 {
				continue
			}
			at, other := rnd.Intn(len(list)), rnd.Intn(len(list))
			switch rnd.Intn(6) {
			case 0:
				list = slices.Delete(list, at, at+1)
			case 1:
				list = slices.Insert(list, at, rnd.Intn(3))
			case 2:
				list[at], list[other] = list[other], list[at]
			case 3:
				list[at] = list[other]
			case 4:
				list[at] = int(rnd.Uint64() >> rnd.Intn(64))
			case 5:
				list[at] += rnd.Intn(5) - 2
			}
			lists[i] = list
		}
		if wantNumbers(t, fmt.Sprintf("seed %d", seed), lists) {
			right++
		} else {
			wrong++
		}
	}
	if right < 300 || wrong < 300 {
		t.Errorf("%d were images, %d not", right, wrong)
	}
}

// Whatever bytes come, they are refused by one code, or are the image of a World that may go on.
func TestImagesOfRandomBytes(t *testing.T) {
	codes := make([]int, 5)
	for seed := range 6000 {
		rnd := rand.New(rand.NewSource(int64(seed)))
		b := imageOf(imageNumbers(anyMoment(t, rnd)))
		for range rnd.Intn(3) {
			if b != "" {
				b = spoilt(rnd, b)
			}
		}
		switch rnd.Intn(12) {
		case 0:
			b = "BRM1" + randomBytes(rnd, rnd.Intn(40))
		case 1:
			b = randomBytes(rnd, rnd.Intn(40))
		case 2:
			b = "BRM1" + sectionsOf(randomBytes(rnd, rnd.Intn(9)), randomBytes(rnd, rnd.Intn(40)), randomBytes(rnd, rnd.Intn(20)), randomBytes(rnd, rnd.Intn(90)))
		}
		w, code := impl.ReadImage(b)
		codes[code]++
		switch code {
		case impl.ImOk:
			if wantWrong(t, "what was read", w); impl.Encode(w) != b || w.Base != 32 {
				t.Errorf("seed %d: %q is read as %+v", seed, b, w)
			}
		default:
			if want := codeByDefinition(b); code != want {
				t.Errorf("seed %d: ReadImage answers %d, want %d", seed, code, want)
			}
			wantZero(t, "ReadImage", w)
		}
	}
	for code, count := range codes {
		if count < 50 {
			t.Errorf("code %d came but %d times", code, count)
		}
	}
}

// twins are a World and the same one moved, which go on alike until one lacks room.
type twins struct {
	w impl.World
	x impl.World
}

// do does op to both, and tells whether there was room in both or in none.
func (b *twins) do(t *testing.T, what string, op impl.Op) bool {
	t.Helper()
	w, answer := impl.Do(b.w, op)
	x, is := impl.Do(b.x, op)
	if (answer.Code == impl.AnMemory) != (is.Code == impl.AnMemory) {
		return false
	}
	if answer != is {
		t.Fatalf("%s: %+v answers %+v, moved %+v", what, op, answer, is)
	}
	if answer.Code != impl.AnForm {
		b.w, b.x = w, x
	}
	return true
}

func (b *twins) step(n int) { b.w, b.x = impl.GcRun(b.w, n), impl.GcRun(b.x, n) }

// want fails if the two are not the same as Graphs; alike ones, if they are not the same at all.
func (b *twins) want(t *testing.T, what string, alike bool) {
	t.Helper()
	if !impl.WorldOk(b.x) || !impl.SameGraph(impl.GraphOf(b.w), impl.GraphOf(b.x)) {
		t.Fatalf("%s: moved it is\n%+v, want\n%+v", what, b.x, b.w)
	}
	if alike && impl.Encode(b.w) != impl.Encode(b.x) {
		t.Fatalf("%s: moved it has another image", what)
	}
}

// What is moved goes on as it would have: to as many pages, all is the same at
// each step; to others, what can be got at is, and each answer.
func TestWhatIsMovedGoesOn(t *testing.T) {
	lacked, whole := 0, 0
	for seed := range 700 {
		rnd := rand.New(rand.NewSource(int64(seed)))
		w, what := anyMoment(t, rnd), fmt.Sprintf("seed %d", seed)
		pages := []int{w.Pages, max(1, len(w.Spans)), len(w.Spans) + 1, 12}[rnd.Intn(4)]
		pages = min(pages, 12)
		x, code := impl.Load(impl.Encode(w), 32*(1+rnd.Intn(30)), pages)
		if code != impl.ImOk {
			t.Fatalf("%s: Load answers %d", what, code)
		}
		b, room, alike := twins{w, x}, true, pages == w.Pages
		for range 40 {
			switch rest := rnd.Intn(10); {
			case rest < 2 && b.w.Gc.Phase == impl.PhOff && b.x.Gc.Phase == impl.PhOff:
				b.w, _ = impl.GcStart(b.w)
				b.x, _ = impl.GcStart(b.x)
			case rest < 4:
				b.step(1)
			default:
				room = b.do(t, what, randomOp(rnd, b.w, 9))
			}
			b.want(t, what, alike)
			if !room && alike {
				t.Fatalf("%s: one lacks room in as many pages", what)
			}
			if !room {
				lacked++
				break
			}
		}
		if room {
			b.step(1000)
			b.want(t, what+": behind the round", alike)
			whole++
		}
	}
	if lacked < 30 || whole < 400 {
		t.Errorf("%d lacked room, %d went on to the end", lacked, whole)
	}
}
