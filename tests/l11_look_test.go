package tests

import (
	"fmt"
	"maps"
	"math"
	long "math/big"
	"math/rand"
	"reflect"
	"regexp"
	"runtime"
	"slices"
	"strconv"
	"strings"
	"sync"
	"testing"
	"time"

	"loop.example/g00690/impl"
)

// colourByDefinition is Colour as chapter 11 is written.
func colourByDefinition(w impl.World, addr int) int {
	if !impl.FormOk(w) {
		return impl.CoNone
	}
	switch o, is := thingsOf(w)[addr]; {
	case !is:
		return impl.CoNone
	case slices.Contains(w.Gc.Grey, addr):
		return impl.CoGrey
	case o.marked:
		return impl.CoBlack
	}
	return impl.CoWhite
}

// wantColours holds Colour of each address in and around w against those of want,
// and of all others against CoNone.
func wantColours(t *testing.T, what string, w impl.World, want map[int]int) {
	t.Helper()
	addresses := []int{math.MinInt, math.MinInt + w.Base, -w.Base, math.MaxInt, w.Base + 1<<32, w.Base + 1<<62}
	for addr := -3; addr < w.Base+len(w.Words)+40; addr++ {
		addresses = append(addresses, addr)
	}
	for _, addr := range addresses {
		if got := impl.Colour(w, addr); got != want[addr] {
			t.Errorf("%s: Colour(%d) = %d, want %d", what, addr, got, want[addr])
		}
	}
}

// coloured are the colours of the objects of ringWorld, of which all others are white.
func coloured(grey []int, black ...int) map[int]int {
	list := map[int]int{}
	for _, addr := range []int{ringA, ringB, ringC, twin, leaf, self, alone, big, lost} {
		list[addr] = impl.CoWhite
	}
	for _, addr := range grey {
		list[addr] = impl.CoGrey
	}
	for _, addr := range black {
		list[addr] = impl.CoBlack
	}
	return list
}

func TestLookConstants(t *testing.T) {
	wantList(t, "colours", []int{impl.CoNone, impl.CoWhite, impl.CoGrey, impl.CoBlack}, 0, 1, 2, 3)
}

func TestColourInEachPhase(t *testing.T) {
	all := []int{ringA, ringB, ringC, twin, leaf, self, big}
	want := map[string]map[int]int{
		"off":   coloured(nil),
		"start": coloured(nil),
		"setup": coloured([]int{ringA, twin}),
		"seen":  coloured([]int{ringA, twin, big}),
		"mark":  coloured([]int{ringB, leaf, big}, ringA, twin),
		"term":  coloured(nil, all...),
		"sweep": coloured(nil, all...),
		"swept": coloured(nil, leaf, self, big),
	}
	for name, w := range ringWorlds(t) {
		wantColours(t, name, w, want[name])
	}
}

// mixedWorld has a page that is no span, and Grey and marks that are not right.
func TestColourByHand(t *testing.T) {
	cases := []struct {
		what string
		grey []int
		want map[int]int
	}{
		{"as it is", []int{104, 96}, map[int]int{96: impl.CoGrey, 104: impl.CoGrey, 160: impl.CoWhite, 176: impl.CoBlack, 192: impl.CoWhite}},
		{"no Grey", nil, map[int]int{96: impl.CoBlack, 104: impl.CoBlack, 160: impl.CoWhite, 176: impl.CoBlack, 192: impl.CoWhite}},
		{"in Grey and not marked", []int{192, 160}, map[int]int{96: impl.CoBlack, 104: impl.CoBlack, 160: impl.CoGrey, 176: impl.CoBlack, 192: impl.CoGrey}},
		{"in Grey twice", []int{176, 176, 160, 176}, map[int]int{96: impl.CoBlack, 104: impl.CoBlack, 160: impl.CoGrey, 176: impl.CoGrey, 192: impl.CoWhite}},
		{"no objects in Grey", []int{0, 97, 100, 128, 194, 224, 32, -1, 1 << 40, math.MinInt}, map[int]int{96: impl.CoBlack, 104: impl.CoBlack, 160: impl.CoWhite, 176: impl.CoBlack, 192: impl.CoWhite}},
	}
	for _, c := range cases {
		for phase := impl.PhOff; phase <= impl.PhSweep; phase++ {
			w := mixedWorld()
			w.Gc.Phase, w.Gc.Grey = phase, c.grey
			wantColours(t, fmt.Sprintf("%s, phase %d", c.what, phase), w, c.want)
		}
	}
	wantColours(t, "nothing there", newWorld(t, 64, 2, 1), nil)
}

// censusByDefinition is Census as chapter 11 is written.
func censusByDefinition(w impl.World) []int {
	if !impl.FormOk(w) {
		return nil
	}
	list := make([]int, 16)
	for _, s := range w.Spans {
		list[4*s.Class]++
		for slot, n := range s.Lens {
			if n == 0 {
				list[4*s.Class+3]++
				continue
			}
			list[4*s.Class+1]++
			list[4*s.Class+2] += s.Mark >> slot & 1
		}
	}
	return list
}

func wantCensus(t *testing.T, what string, w impl.World, want ...int) {
	t.Helper()
	wantList(t, what+": the definition", censusByDefinition(w), want...)
	wantList(t, what+": Census", impl.Census(w), want...)
}

func TestCensusByHand(t *testing.T) {
	for pages := 1; pages <= 12; pages++ {
		wantCensus(t, "no spans", newWorld(t, 64, pages, 1), make([]int, 16)...)
	}
	wantCensus(t, "mixed", mixedWorld(), 1, 1, 0, 15, 1, 2, 2, 6, 0, 0, 0, 0, 1, 2, 1, 0)
	w := newWorld(t, 64, 9, 1)
	for _, n := range []int{16, 1, 5, 3, 9, 6, 7, 8, 8, 12} {
		w, _ = take(t, w, n, n)
	}
	wantCensus(t, "each class", w, 1, 1, 0, 15, 1, 1, 0, 7, 2, 5, 0, 3, 2, 3, 0, 1)
	w.Spans = append(w.Spans, impl.Span{Page: 8, Class: 1, Swept: true, Lens: make([]int, 8), Ptrs: make([]int, 8)})
	wantCensus(t, "a span without a used slot", w, 1, 1, 0, 15, 2, 1, 0, 15, 2, 5, 0, 3, 2, 3, 0, 1)
}

func TestCensusInEachPhase(t *testing.T) {
	marked := map[string][3]int{"setup": {0, 2, 0}, "seen": {0, 2, 1}, "mark": {1, 3, 1}, "term": {2, 4, 1}, "sweep": {2, 4, 1}, "swept": {2, 0, 1}}
	for name, w := range ringWorlds(t) {
		m := marked[name]
		wantCensus(t, name, w, 1, 3, m[0], 13, 1, 4, m[1], 4, 0, 0, 0, 0, 1, 2, m[2], 0)
	}
}

// The fullest World of each class, and the same with one slot left, at each place and marked or not.
func TestCensusOfTheFullest(t *testing.T) {
	for class, slots := range []int{16, 8, 4, 2} {
		w := newWorld(t, impl.MaxBase, 12, 3)
		for range 12 * slots {
			w, _ = take(t, w, impl.ClassSize(class), 0)
		}
		counts := func(marked int, given int) []int {
			list := make([]int, 16)
			copy(list[4*class:], []int{12, 12*slots - given, marked, given})
			return list
		}
		wantCensus(t, "full", w, counts(0, 0)...)
		for slot := range slots {
			less := give(t, w, impl.AddrOf(w, 11-slot%12, slot))
			wantCensus(t, "one left", less, counts(0, 1)...)
			for k := range less.Spans {
				less.Spans[k].Mark = 1<<slots - 1
			}
			less.Spans[11-slot%12].Mark &^= 1 << slot
			wantCensus(t, "one left, all marked", less, counts(12*slots-1, 1)...)
		}
		for k := range w.Spans {
			w.Spans[k].Mark = 1<<slots - 1
			wantCensus(t, "marked one after the other", w, counts((k+1)*slots, 0)...)
		}
	}
}

// ledWorld has 8 objects of 4 words at 64, 68 and so on, and 8 more at 96, 100 and
// so on, with just those pointers that leads has of each one.
func ledWorld(t *testing.T, leads map[int][]int, muts ...impl.Mut) impl.World {
	t.Helper()
	w := newWorld(t, 64, 2, len(muts))
	for range 16 {
		w, _ = take(t, w, 4, 4)
	}
	for addr, list := range leads {
		setWords(&w, addr, list...)
	}
	w.Muts = muts
	return w
}

// pathByDefinition is Path as chapter 11 is written: the least row to each object
// gets less until no pointer makes one less.
func pathByDefinition(w impl.World, addr int) []int {
	if !impl.FormOk(w) {
		return nil
	}
	list, rows := thingsOf(w), map[int][]int{}
	tell := func(row []int) bool {
		last := row[len(row)-1]
		before, is := rows[last]
		if _, object := list[last]; !object || is && !rowIsLess(row, before) {
			return false
		}
		rows[last] = row
		return true
	}
	for _, mut := range w.Muts {
		for _, root := range mut.Roots {
			tell([]int{root})
		}
	}
	for less := true; less; {
		less = false
		for _, from := range addressesOf(rows) {
			for _, p := range list[from].ptrs {
				less = tell(append(slices.Clone(rows[from]), p)) || less
			}
		}
	}
	return rows[addr]
}

// rowIsLess tells whether a is shorter than b, or of one length and less at the first address that differs.
func rowIsLess(a []int, b []int) bool {
	if len(a) != len(b) {
		return len(a) < len(b)
	}
	return slices.Compare(a, b) < 0
}

func wantPath(t *testing.T, what string, w impl.World, addr int, want ...int) {
	t.Helper()
	if row := pathByDefinition(w, addr); !slices.Equal(row, want) {
		t.Errorf("%s: the definition tells %v to %d, want %v", what, row, addr, want)
	}
	wantList(t, fmt.Sprintf("%s: Path(%d)", what, addr), impl.Path(w, addr), want...)
}

// leading is a World of ledWorld, and the Path that it has to an object.
type leading struct {
	what  string
	leads map[int][]int
	roots []int
	to    int
	want  []int
}

func leadings() []leading {
	return []leading{
		{"a root", nil, []int{68}, 68, []int{68}},
		{"a root that is led to", map[int][]int{64: {68}}, []int{64, 68}, 68, []int{68}},
		{"a root that leads to one that is less", map[int][]int{68: {64}}, []int{68}, 64, []int{68, 64}},
		{"nobody leads to it", map[int][]int{64: {68}, 76: {72}}, []int{64}, 72, nil},
		{"only what is lost leads to it", map[int][]int{72: {76}, 76: {72}}, []int{64}, 76, nil},
		{"no roots", map[int][]int{64: {68}}, nil, 68, nil},
		{"from the last pointer on", map[int][]int{64: {0, 0, 0, 68}, 68: {0, 0, 72}}, []int{0, 0, 0, 0, 0, 64}, 72, []int{64, 68, 72}},
		{"apart at the first address", map[int][]int{64: {72}, 68: {72}}, []int{68, 64}, 72, []int{64, 72}},
		{"apart at the first address, the greater behind it less", map[int][]int{64: {92}, 92: {96}, 68: {72}, 72: {96}}, []int{68, 64}, 96, []int{64, 92, 96}},
		{"apart at the second address", map[int][]int{64: {76, 72}, 76: {80}, 72: {80}}, []int{64}, 80, []int{64, 72, 80}},
		{"apart at the second address, the greater behind it less", map[int][]int{64: {76, 72}, 76: {68}, 72: {92}, 68: {96}, 92: {96}}, []int{64}, 96, []int{64, 72, 92, 96}},
		{"apart at the last address ahead of it", map[int][]int{124: {120}, 120: {72, 116, 68}, 68: {64}, 116: {64}, 72: {64}}, []int{124}, 64, []int{124, 120, 68, 64}},
		{"apart at the first and at the last address ahead of it", map[int][]int{64: {120}, 68: {116}, 120: {112, 108}, 116: {72}, 112: {124}, 108: {124}, 72: {124}}, []int{68, 64}, 124, []int{64, 120, 108, 124}},
		{"longer and less, shorter and greater", map[int][]int{64: {68}, 68: {72}, 72: {76}, 92: {76}}, []int{64, 92}, 76, []int{92, 76}},
		{"longer and less behind the first one", map[int][]int{64: {68, 92}, 68: {72}, 72: {76}, 92: {76}}, []int{64}, 76, []int{64, 92, 76}},
		{"the least leads nowhere", map[int][]int{64: {68, 92}, 92: {96}}, []int{64}, 96, []int{64, 92, 96}},
		{"in a circle", map[int][]int{64: {68}, 68: {72}, 72: {64, 76}}, []int{68}, 64, []int{68, 72, 64}},
		{"behind a circle", map[int][]int{64: {68}, 68: {72}, 72: {64, 76}}, []int{64}, 76, []int{64, 68, 72, 76}},
		{"in a circle that nobody holds", map[int][]int{68: {72}, 72: {68}}, []int{64}, 72, nil},
		{"leads to itself", map[int][]int{64: {68}, 68: {68, 0, 68, 72}}, []int{64}, 68, []int{64, 68}},
		{"behind one that leads to itself", map[int][]int{64: {64, 68}, 68: {68, 72}}, []int{64}, 72, []int{64, 68, 72}},
		{"a root that leads to itself", map[int][]int{68: {68, 68}}, []int{68}, 68, []int{68}},
		{"itself alone leads to it", map[int][]int{68: {68}}, []int{64}, 68, nil},
		{"roots that are alike", map[int][]int{68: {64}}, []int{68, 68, 0, 68, 68, 68}, 64, []int{68, 64}},
		{"pointers that are alike", map[int][]int{68: {64, 64, 72, 64}, 64: {72}}, []int{68}, 72, []int{68, 72}},
	}
}

// Where the roots are, and in what order roots and pointers stand, is nothing to Path.
func TestPath(t *testing.T) {
	for _, l := range leadings() {
		row := append(slices.Clone(l.roots), make([]int, 6-len(l.roots))...)
		back := slices.Clone(row)
		slices.Reverse(back)
		apart := []impl.Mut{roots6(), roots6(), roots6()}
		for i, root := range row {
			apart[2-i%3].Roots[i] = root
		}
		turned := map[int][]int{}
		for addr, list := range l.leads {
			turned[addr] = slices.Clone(list)
			slices.Reverse(turned[addr])
		}
		for _, muts := range [][]impl.Mut{{{Roots: row}}, {{Roots: back}}, {roots6(), {Roots: row}}, apart} {
			for _, leads := range []map[int][]int{l.leads, turned} {
				w := ledWorld(t, leads, muts...)
				wantWrong(t, l.what, w)
				wantPath(t, l.what, w, l.to, l.want...)
			}
		}
	}
}

// To 0, and to an address at which there is no object, there is no row.
func TestPathToWhatIsNoObject(t *testing.T) {
	for name, w := range ringWorlds(t) {
		setWords(&w, ringA, ringB, ringC)
		for addr := -3; addr < 64+128+40; addr++ {
			if _, is := thingsOf(w)[addr]; !is {
				wantPath(t, name, w, addr)
			}
		}
		for _, addr := range []int{math.MinInt, math.MaxInt, ringA + 1<<32, -ringA} {
			wantPath(t, name, w, addr)
		}
	}
	for _, muts := range [][]impl.Mut{{roots6()}, {roots6(), roots6(64)}} {
		w := ledWorld(t, map[int][]int{64: {0, 68, 0, 0}}, muts...)
		wantPath(t, "0 in roots and pointers", w, 0)
	}
	wantPath(t, "nothing there", newWorld(t, 64, 2, 1), 64)
}

// FormOk lets roots and pointers be numbers of any kind; there is no row through them.
func TestPathWhereRootsAndPointersLeadNowhere(t *testing.T) {
	nowhere := []int{65, 66, 67, 71, 32, 60, 128, 63, 1, -1, -64, 64 + 1<<32, math.MinInt, math.MaxInt}
	for _, n := range nowhere {
		leads := map[int][]int{64: {n, 72}, 72: {n, n, 68, n}}
		w := ledWorld(t, leads, roots6(n, 0, 64, n), roots6(n))
		for _, other := range nowhere {
			wantPath(t, "nowhere", w, other)
		}
		wantPath(t, "nowhere", w, 64, 64)
		wantPath(t, "nowhere", w, 68, 64, 72, 68)
		clear(w.Muts[0].Roots)
		wantPath(t, "just nowhere", w, 64)
	}
}

// Phases, marks, and what is Doomed are nothing to Path.
func TestPathInEachPhase(t *testing.T) {
	want := map[int][]int{
		ringA: {ringA}, ringB: {ringA, ringB}, ringC: {ringA, ringB, ringC}, twin: {twin},
		leaf: {big, leaf}, self: {big, self}, alone: nil, big: {big}, lost: nil,
	}
	for name, w := range ringWorlds(t) {
		for addr, row := range want {
			wantPath(t, name, w, addr, row...)
		}
		setMarks(&w)
		w.Gc.Grey = nil
		w.Muts[1].Roots[3] = lost
		wantPath(t, name+", all white", w, alone, lost, alone)
		w.Muts[0].Roots[0], w.Muts[0].Roots[3], w.Muts[2].Roots[5] = 0, 0, 0
		wantPath(t, name+", all white", w, leaf, big, leaf)
		wantPath(t, name+", all white", w, ringC, lost, ringA, ringB, ringC)
	}
}

// As many objects as go into a World, each of which leads to the next one, whichever that is.
func TestPathOfALongRow(t *testing.T) {
	orders := map[string][]int{"upwards": upTo(192), "downwards": upTo(192), "any": rand.New(rand.NewSource(11)).Perm(192)}
	slices.Reverse(orders["downwards"])
	for name, order := range orders {
		w := newWorld(t, impl.MaxBase, 12, 3)
		var row []int
		for _, i := range order {
			w, _ = take(t, w, 2, 2)
			row = append(row, impl.MaxBase+2*i)
		}
		for i, addr := range row {
			setWords(&w, addr, row[(i+1)%192], row[i/2])
		}
		w.Muts[1].Roots[2] = row[0]
		wantWrong(t, name, w)
		for i := 0; i < 192; i += 19 {
			wantPath(t, name, w, row[i], row[:i+1]...)
		}
		wantPath(t, name, w, row[191], row...)
	}
}

// leastRow is the least row to addr out of all rows, made one length after the other.
func leastRow(w impl.World, addr int) []int {
	list := thingsOf(w)
	var rows [][]int
	for _, mut := range w.Muts {
		for _, root := range mut.Roots {
			rows = append(rows, []int{root})
		}
	}
	for range len(list) {
		var least []int
		var longer [][]int
		for _, row := range rows {
			o, is := list[row[len(row)-1]]
			if is && row[len(row)-1] == addr && (least == nil || slices.Compare(row, least) < 0) {
				least = row
			}
			for _, p := range o.ptrs {
				longer = append(longer, append(slices.Clone(row), p))
			}
		}
		if least != nil {
			return least
		}
		rows = longer
	}
	return nil
}

// Four objects, of which the first two have two pointers and the others one, that lead in each way there is.
func TestPathInAllSmallWorlds(t *testing.T) {
	empty := newWorld(t, 64, 1, 1)
	for _, p := range []int{2, 2, 1, 1} {
		empty, _ = take(t, empty, 2, p)
	}
	ends := []int{0, 64, 66, 68, 70}
	words := []int{0, 1, 2, 3, 4, 6}
	for n := range 5 * 5 * 5 * 5 * 5 * 5 {
		w := empty
		w.Words = slices.Clone(w.Words)
		for i, rest := 0, n; i < len(words); i, rest = i+1, rest/5 {
			w.Words[words[i]] = ends[rest%5]
		}
		w.Muts = []impl.Mut{roots6(ends[n%3*2], ends[n%4])}
		for _, addr := range []int{64 + 2*(n%4), 70} {
			want := leastRow(w, addr)
			if got := impl.Path(w, addr); !slices.Equal(got, want) {
				t.Fatalf("words %v, roots %v: Path(%d) = %v, want %v", w.Words[:8], w.Muts[0].Roots, addr, got, want)
			}
		}
	}
}

// manyLeads is a World of objects that lead to each other in layers, so that there are many rows of one length.
func manyLeads(t *testing.T, rnd *rand.Rand) impl.World {
	t.Helper()
	w := newWorld(t, 64, 5, 2)
	var objects []int
	for range 14 + rnd.Intn(14) {
		var addr int
		w, addr = take(t, w, 4, 2+rnd.Intn(3))
		objects = append(objects, addr)
	}
	rnd.Shuffle(len(objects), func(i, j int) { objects[i], objects[j] = objects[j], objects[i] })
	size := 3 + rnd.Intn(3)
	layer := func(k int) []int { return objects[min(k*size, len(objects)):min((k+1)*size, len(objects))] }
	list := thingsOf(w)
	for i, addr := range objects {
		for p := range list[addr].ptrs {
			list[addr].ptrs[p] = someOf(rnd, layer(i/size+1))
		}
	}
	for range 5 {
		w.Muts[rnd.Intn(2)].Roots[rnd.Intn(6)] = someOf(rnd, layer(0))
	}
	return w
}

// wantLooks holds what tells colours, counts and paths against the definitions, and against each other.
func wantLooks(t *testing.T, what string, w impl.World) int {
	t.Helper()
	wantCensus(t, what, w, censusByDefinition(w)...)
	colours, longest := map[int]int{}, 0
	got := impl.Reach(w, impl.RootsOf(w))
	for addr := range thingsOf(w) {
		colours[addr] = colourByDefinition(w, addr)
		row := pathByDefinition(w, addr)
		wantPath(t, what, w, addr, row...)
		if longest = max(longest, len(row)); len(row) > 0 != slices.Contains(got, addr) {
			t.Errorf("%s: the row to %d is %v, but Reach tells %v", what, addr, row, got)
		}
	}
	wantColours(t, what, w, colours)
	c := impl.Census(w)
	free, marked := 32*(w.Pages-len(w.Spans)), 0
	for class, size := range []int{2, 4, 8, 16} {
		free += size * c[4*class+3]
		marked += c[4*class+2]
	}
	for _, colour := range colours {
		if colour != impl.CoWhite {
			marked--
		}
	}
	if right := len(wrongIn(w)) == 0; free != impl.FreeWords(w) || right && marked != 0 {
		t.Errorf("%s: Census = %v, but %d words are free, and %d too many are marked", what, c, impl.FreeWords(w), marked)
	}
	return longest
}

func TestLooksFromAnyMoment(t *testing.T) {
	lengths := map[int]int{}
	for seed := range 600 {
		rnd := rand.New(rand.NewSource(int64(seed)))
		what := fmt.Sprintf("seed %d", seed)
		w := anyMoment(t, rnd)
		lengths[wantLooks(t, what, w)]++
		for range 3 {
			disturb(&w, rnd)
			wantLooks(t, what+", disturbed", w)
		}
		lengths[wantLooks(t, what+", in layers", manyLeads(t, rnd))]++
	}
	for n := 1; n <= 6; n++ {
		if lengths[n] < 20 {
			t.Errorf("the longest row was of %d but %d times", n, lengths[n])
		}
	}
}

func TestLooksRefuseWhatIsNotFormOk(t *testing.T) {
	for name, w := range brokenWorlds() {
		t.Run(name, func(t *testing.T) {
			for _, addr := range []int{0, 32, 96, 104, 160, 176, 192, -1, math.MinInt, math.MaxInt} {
				if got := impl.Colour(w, addr); got != impl.CoNone {
					t.Errorf("Colour(%d) = %d, want CoNone", addr, got)
				}
				wantList(t, "Path", impl.Path(w, addr))
			}
			wantList(t, "Census", impl.Census(w))
		})
	}
}

// What is FormOk need not be right.
func TestLooksAcceptWhatIsNotRight(t *testing.T) {
	eachNotRight(t, func(t *testing.T, w impl.World) {
		if impl.FormOk(w) {
			wantLooks(t, "not right", w)
		}
	})
}

func TestLookMemory(t *testing.T) {
	for name, w := range ringWorlds(t) {
		setWords(&w, ringB, ringC, ringA, leaf)
		copy(w.Muts[1].Roots, []int{lost, 0, big, ringC, 0, alone})
		wantUnwritten(t, name, w, func(w impl.World) {
			for _, addr := range []int{ringA, ringB, leaf, self, alone, big, 0} {
				impl.Colour(w, addr)
				wantOwnMemory(t, name, w, impl.Path(w, addr), impl.Path(w, addr), impl.Census(w), impl.Census(w))
			}
		})
	}
	list := allEvents()
	wantUnwritten(t, "events", list, func(l []impl.Ev) {
		script := impl.ScriptText(l)
		a, _ := impl.ReadScript(script)
		b, _ := impl.ReadScript(script)
		wantOwnMemory(t, "ReadScript", l, a, b)
		for _, e := range l {
			impl.EvText(e)
		}
	})
}

// form is how an event is written, as chapter 11 tells it: each letter of places is
// a number, n that of the event itself.
type form struct {
	kind   int
	op     int
	word   string
	places string
}

func forms() []form {
	return []form{
		{impl.EvOp, impl.OpAlloc, "alloc", "MHNV"},
		{impl.EvOp, impl.OpLoad, "load", "MHIG"},
		{impl.EvOp, impl.OpStore, "store", "MHIG"},
		{impl.EvOp, impl.OpSet, "set", "MHIV"},
		{impl.EvOp, impl.OpGet, "get", "MHI"},
		{impl.EvOp, impl.OpDrop, "drop", "MH"},
		{impl.EvOp, impl.OpSame, "same", "MHG"},
		{impl.EvOp, impl.OpCopy, "copy", "MHG"},
		{impl.EvOp, impl.OpLen, "len", "MH"},
		{impl.EvStart, 0, "start", ""},
		{impl.EvSteps, 0, "steps", "n"},
		{impl.EvMove, 0, "move", "BP"},
		{impl.EvFull, 0, "full", ""},
		{impl.EvDelta, 0, "delta", ""},
		{impl.EvCrash, 0, "crash", "n"},
	}
}

// allPlaces are all numbers that an event has beside its Kinds.
const allPlaces = "MHGINVnBP"

// edges are numbers at which lines are written in another way.
var edges = []int{0, -1, 1, 9, 10, -9, -10, 99, 100, -99, -100, 20000, -20001, 999999999999999999, 1000000000000000000, -1000000000000000000, math.MaxInt - 1, math.MaxInt, math.MinInt + 1, math.MinInt}

func placeOf(e *impl.Ev, letter rune) *int {
	return map[rune]*int{'M': &e.Op.M, 'H': &e.Op.H, 'G': &e.Op.G, 'I': &e.Op.I, 'N': &e.Op.N, 'V': &e.Op.V, 'n': &e.N, 'B': &e.Base, 'P': &e.Pages}[letter]
}

// event has the Kinds of f, and those numbers at places, one after the other.
func (f form) event(places string, numbers ...int) impl.Ev {
	e := impl.Ev{Kind: f.kind, Op: impl.Op{Kind: f.op}}
	for i, letter := range places {
		*placeOf(&e, letter) = numbers[i]
	}
	return e
}

func (f form) text(numbers ...int) string {
	line := f.word
	for _, n := range numbers {
		line += fmt.Sprintf(" %d", n)
	}
	return line
}

// allEvents has an event of each form, all of whose numbers are different ones.
func allEvents() []impl.Ev {
	var list []impl.Ev
	for _, f := range forms() {
		list = append(list, f.event(f.places, []int{3, -14, 159, -2653}[:len(f.places)]...))
	}
	return list
}

// allLines are the lines of allEvents.
func allLines() []string {
	return []string{
		"alloc 3 -14 159 -2653", "load 3 -14 159 -2653", "store 3 -14 159 -2653", "set 3 -14 159 -2653", "get 3 -14 159",
		"drop 3 -14", "same 3 -14 159", "copy 3 -14 159", "len 3 -14", "start", "steps 3", "move 3 -14", "full", "delta", "crash 3",
	}
}

// wantLine wants that e is written as line, which is read as back.
func wantLine(t *testing.T, e impl.Ev, line string, back impl.Ev) {
	t.Helper()
	if got := impl.EvText(e); got != line {
		t.Errorf("EvText(%+v) = %q, want %q", e, got, line)
	}
	if got, ok := impl.ReadEv(line); !ok || got != back {
		t.Errorf("ReadEv(%q) = %+v, %v, want %+v", line, got, ok, back)
	}
	if got, ok := readEvByDefinition(line); !ok || got != back {
		t.Errorf("the definition reads %q as %+v, %v, want %+v", line, got, ok, back)
	}
}

func wantNoEvent(t *testing.T, line string) {
	t.Helper()
	if got, ok := impl.ReadEv(line); ok || got != (impl.Ev{}) {
		t.Errorf("ReadEv(%q) = %+v, %v, want nothing", line, got, ok)
	}
	if _, ok := readEvByDefinition(line); ok {
		t.Errorf("the definition reads %q", line)
	}
}

func TestLinesByHand(t *testing.T) {
	lines := allLines()
	for i, e := range allEvents() {
		wantLine(t, e, lines[i], e)
	}
	wantLine(t, impl.Ev{Kind: impl.EvOp, Op: impl.Op{Kind: 2, M: 1, H: 2, G: 3, I: 4, N: 5, V: 6}}, "load 1 2 4 3", impl.Ev{Kind: 1, Op: impl.Op{Kind: 2, M: 1, H: 2, G: 3, I: 4}})
	wantLine(t, impl.Ev{Kind: impl.EvOp, Op: impl.Op{Kind: 1, M: 1, H: 2, G: 3, I: 4, N: 5, V: 6}}, "alloc 1 2 5 6", impl.Ev{Kind: 1, Op: impl.Op{Kind: 1, M: 1, H: 2, N: 5, V: 6}})
	wantLine(t, impl.Ev{Kind: impl.EvOp, Op: impl.Op{Kind: 4, M: 1, H: 2, G: 3, I: 4, N: 5, V: 6}}, "set 1 2 4 6", impl.Ev{Kind: 1, Op: impl.Op{Kind: 4, M: 1, H: 2, I: 4, V: 6}})
	wantLine(t, impl.Ev{Kind: impl.EvMove, N: 7, Base: 8, Pages: 9}, "move 8 9", impl.Ev{Kind: 4, Base: 8, Pages: 9})
}

func TestLinesWithEachNumber(t *testing.T) {
	for _, f := range forms() {
		for place := range f.places {
			for _, n := range edges {
				numbers := []int{1, 2, 3, 4}[:len(f.places)]
				numbers[place] = n
				e := f.event(f.places, numbers...)
				wantLine(t, e, f.text(numbers...), e)
			}
		}
		for _, n := range edges {
			numbers := []int{n, n, n, n}[:len(f.places)]
			e := f.event(f.places, numbers...)
			wantLine(t, e, f.text(numbers...), e)
		}
	}
}

// Numbers that are not written do not show, and are 0 when the line is read.
func TestLinesOfNumbersThatAreNotWritten(t *testing.T) {
	for _, f := range forms() {
		back := f.event(f.places, []int{1, 2, 3, 4}[:len(f.places)]...)
		line := f.text([]int{1, 2, 3, 4}[:len(f.places)]...)
		all := back
		for _, letter := range allPlaces {
			if strings.ContainsRune(f.places, letter) {
				continue
			}
			for _, n := range edges {
				e := back
				*placeOf(&e, letter) = n
				wantLine(t, e, line, back)
			}
			*placeOf(&all, letter) = 77
		}
		wantLine(t, all, line, back)
		if f.kind == impl.EvOp {
			continue
		}
		for kind := -1; kind <= 10; kind++ {
			all.Op.Kind = kind
			wantLine(t, all, line, back)
		}
	}
}

func TestEventsThatAreNotWritten(t *testing.T) {
	full := impl.Ev{Op: impl.Op{Kind: 2, M: 1, H: 2, G: 3, I: 4, N: 5, V: 6}, N: 7, Base: 8, Pages: 9}
	for _, kind := range []int{0, 8, -1, 9, 257, 1<<32 + 1, math.MinInt, math.MaxInt} {
		full.Kind = kind
		for _, e := range []impl.Ev{{Kind: kind}, full} {
			if got := impl.EvText(e); got != "" {
				t.Errorf("EvText(%+v) = %q, want nothing", e, got)
			}
		}
	}
	full.Kind = impl.EvOp
	for _, kind := range unlisted {
		full.Op.Kind = kind
		for _, e := range []impl.Ev{{Kind: impl.EvOp, Op: impl.Op{Kind: kind}}, full} {
			if got := impl.EvText(e); got != "" {
				t.Errorf("EvText(%+v) = %q, want nothing", e, got)
			}
		}
	}
}

// lineForm is a word, and numbers of at most 19 digits behind it.
var lineForm = regexp.MustCompile(`\A[a-z]+( (0|-?[1-9][0-9]{0,18}))*\z`)

// readEvByDefinition is ReadEv as chapter 11 is written.
func readEvByDefinition(s string) (impl.Ev, bool) {
	if !lineForm.MatchString(s) {
		return impl.Ev{}, false
	}
	parts := strings.Split(s, " ")
	var numbers []int
	for _, part := range parts[1:] {
		n, _ := new(long.Int).SetString(part, 10)
		if !n.IsInt64() {
			return impl.Ev{}, false
		}
		numbers = append(numbers, int(n.Int64()))
	}
	for _, f := range forms() {
		if f.word == parts[0] && len(f.places) == len(numbers) {
			return f.event(f.places, numbers...), true
		}
	}
	return impl.Ev{}, false
}

// wantRead holds ReadEv against the definition, and tells whether s is a line.
func wantRead(t *testing.T, s string) bool {
	t.Helper()
	want, line := readEvByDefinition(s)
	got, ok := impl.ReadEv(s)
	if ok != line || got != want {
		t.Errorf("ReadEv(%q) = %+v, %v, want %+v, %v", s, got, ok, want, line)
	}
	if ok && impl.EvText(got) != s {
		t.Errorf("ReadEv takes %q, but it is written %q", s, impl.EvText(got))
	}
	return ok
}

func TestLinesThatAreNone(t *testing.T) {
	for _, s := range []string{"", " ", "  ", "\n", "0", "1 2", "-", "alloc", "op 1 2 3 4", "none", "len\x00 1 2", "\xff", "get\xff 1 2 3", "größe 1 2"} {
		wantNoEvent(t, s)
	}
	for _, line := range allLines() {
		word, rest, _ := strings.Cut(line, " ")
		if rest != "" {
			rest = " " + rest
		}
		for _, s := range []string{" " + line, line + " ", "  " + line, line + "  ", line + " 0", line + " -1", line + " x", line + "\n", "\n" + line, line + "\r", line + "\t", line + "\x00", "\x00" + line, line + "\x80", line + "\u00a0", "\ufeff" + line, line + "0 0", line + "\n" + line} {
			wantNoEvent(t, s)
		}
		for _, other := range []string{word[1:], word[:len(word)-1], word + word[:1], "a" + word, word + "s", strings.ToUpper(word), strings.ToUpper(word[:1]) + word[1:], word[:len(word)-1] + strings.ToUpper(word[len(word)-1:]), word + "\x00", "", word + ":"} {
			wantNoEvent(t, other+rest)
		}
		if rest == "" {
			continue
		}
		for _, s := range []string{word, word + " ", word + " " + rest, word + rest[1:], word + "\t" + rest[1:], word + "\u00a0" + rest[1:], word + "," + rest[1:], line[:strings.LastIndex(line, " ")], line[:strings.LastIndex(line, " ")+1]} {
			wantNoEvent(t, s)
		}
		for i := range len(line) {
			if line[i] == ' ' {
				for _, parted := range []string{"  ", "\t", "\n", "\r", "\v", "\f", "\x00", "\x1f", "!", "\xa0", "\u00a0", "\u2003", "\u3000", " \t", ", ", ""} {
					wantRead(t, line[:i]+parted+line[i+1:])
				}
				wantNoEvent(t, line[:i]+"  "+line[i+1:])
				wantNoEvent(t, line[:i]+"\t"+line[i+1:])
				wantNoEvent(t, line[:i]+"\u00a0"+line[i+1:])
			}
		}
	}
}

// Each of these in the place of each number of each line is none.
func TestNumbersThatAreNone(t *testing.T) {
	none := []string{
		"", "-", "+", "--1", "-+1", "+1", "+0", "-0", "00", "01", "-01", "007", "0000000000000000000", "1-", "1-1", "-1-", "1.", "1.0", "1e3", "0x1", "1_000", "1,000", "a", "1a", "a1", "NaN",
		"9223372036854775808", "-9223372036854775809", "9999999999999999999", "-9999999999999999999", "9300000000000000000",
		"10000000000000000000", "-10000000000000000000", "18446744073709551615", "18446744073709551616", "18446744073709551617", "-18446744073709551616", "-18446744073709551617", "92233720368547758070", "09223372036854775807", "00000000000000000001", "-09223372036854775808",
		"36893488147419103233", "340282366920938463463374607431768211457", strings.Repeat("1", 100), "1" + strings.Repeat("0", 100), "1" + strings.Repeat("0", 63) + "1", strings.Repeat("0", 100) + "1",
		"١", "٣", "１", "0１", "１0", "२", "𝟏", "²", "½", "\u0661\u0662", "1\u0660", "−1", "‐1", "–1", "－1",
		"\xb1", "1\xb1", "\x801", "1\x80", "\xff", "\x00", "1\x00", "\x001", "1\x7f", "1/", "1:", "/", ":", "\x30\x00", "\t1", "1\t", "1\n",
	}
	for _, f := range forms() {
		for place := range f.places {
			for _, s := range none {
				parts := slices.Repeat([]string{"1"}, len(f.places))
				parts[place] = s
				wantNoEvent(t, f.word+" "+strings.Join(parts, " "))
			}
		}
	}
}

// Each byte of each line is made each other byte, left out, and put ahead of.
func TestLinesWithEachByteChanged(t *testing.T) {
	taken := map[string]int{}
	for _, line := range append(allLines(), "steps 0", "steps 9223372036854775807", "crash -9223372036854775808", "len 10 -10") {
		for i := range len(line) {
			wantRead(t, line[:i])
			wantRead(t, line[:i]+line[i+1:])
			for b := range 256 {
				if s := line[:i] + string([]byte{byte(b)}) + line[i+1:]; wantRead(t, s) {
					taken["changed"]++
				}
				if s := line[:i] + string([]byte{byte(b)}) + line[i:]; wantRead(t, s) {
					taken["put ahead"]++
				}
			}
		}
		for b := range 256 {
			if wantRead(t, line+string([]byte{byte(b)})) {
				taken["behind"]++
			}
		}
	}
	for _, what := range []string{"changed", "put ahead", "behind"} {
		if taken[what] < 50 {
			t.Errorf("%s: but %d are lines", what, taken[what])
		}
	}
}

// randomLine is put together of parts of lines, mostly so that it is one.
func randomLine(rnd *rand.Rand) string {
	f := forms()[rnd.Intn(15)]
	numbers := len(f.places)
	if rnd.Intn(8) == 0 {
		numbers = rnd.Intn(7)
	}
	line := f.word
	for range numbers {
		n := new(long.Int).Rand(rnd, new(long.Int).Lsh(long.NewInt(1), uint(1+rnd.Intn(66))))
		if line += " "; rnd.Intn(3) == 0 {
			n.Neg(n)
		}
		if line += n.String(); rnd.Intn(40) == 0 {
			line += []string{" ", "\n", "-", "0", "\xff"}[rnd.Intn(5)]
		}
	}
	return line
}

func TestRandomLines(t *testing.T) {
	rnd := rand.New(rand.NewSource(11))
	lines := 0
	for range 40000 {
		s := randomLine(rnd)
		if wantRead(t, s) {
			lines++
		}
		wantRead(t, spoilt(rnd, s))
		wantRead(t, randomBytes(rnd, rnd.Intn(12)))
	}
	if lines < 10000 || lines > 38000 {
		t.Errorf("%d of 40000 are lines", lines)
	}
}

// A line of any length is answered.
func TestLongLines(t *testing.T) {
	for _, s := range []string{" ", "1", "1 ", "-", "0", "\xff", "\n", "len 1 1 "} {
		for _, ahead := range []string{"", "len 1 1", "len 1 ", "steps ", "start"} {
			wantNoEvent(t, ahead+strings.Repeat(s, 500000))
		}
	}
}

// readScriptByDefinition is ReadScript as chapter 11 is written.
func readScriptByDefinition(s string) ([]impl.Ev, bool) {
	if len(s) > 20000 {
		return nil, false
	}
	var list []impl.Ev
	for s != "" {
		end := strings.IndexByte(s, 10)
		if end < 0 {
			return nil, false
		}
		e, ok := readEvByDefinition(s[:end])
		if !ok {
			return nil, false
		}
		list, s = append(list, e), s[end+1:]
	}
	return list, true
}

func wantScript(t *testing.T, what string, s string) bool {
	t.Helper()
	want, line := readScriptByDefinition(s)
	got, ok := impl.ReadScript(s)
	if ok != line || !slices.Equal(got, want) {
		t.Errorf("%s: ReadScript of %d bytes gives %d events, %v, want %d, %v", what, len(s), len(got), ok, len(want), line)
	}
	if ok && impl.ScriptText(got) != s {
		t.Errorf("%s: a script of %d bytes does not come back", what, len(s))
	}
	return ok
}

func wantNoScript(t *testing.T, what string, s string) {
	t.Helper()
	if wantScript(t, what, s) {
		t.Errorf("%s: ReadScript takes %q", what, s[:min(len(s), 50)])
	}
	if got, _ := impl.ReadScript(s); len(got) != 0 {
		t.Errorf("%s: but %d events come with false", what, len(got))
	}
}

func TestScripts(t *testing.T) {
	all := strings.Join(allLines(), "\n") + "\n"
	if got := impl.ScriptText(allEvents()); got != all {
		t.Errorf("ScriptText = %q, want %q", got, all)
	}
	if got, ok := impl.ReadScript(all); !ok || !slices.Equal(got, allEvents()) {
		t.Errorf("ReadScript = %+v, %v", got, ok)
	}
	wantScript(t, "all", all)
	for _, list := range [][]impl.Ev{nil, {}} {
		if got := impl.ScriptText(list); got != "" {
			t.Errorf("ScriptText of none = %q", got)
		}
	}
	if got, ok := impl.ReadScript(""); !ok || len(got) != 0 {
		t.Errorf("ReadScript of the empty text = %v, %v", got, ok)
	}
	for i, e := range allEvents() {
		if wantScript(t, "one", allLines()[i]+"\n"); impl.ScriptText([]impl.Ev{e}) != allLines()[i]+"\n" {
			t.Errorf("ScriptText of %+v alone", e)
		}
	}
}

// An event that is not written is an empty line, which is not read.
func TestScriptsOfOtherKinds(t *testing.T) {
	cases := []struct {
		list []impl.Ev
		want string
	}{
		{[]impl.Ev{{}}, "\n"},
		{[]impl.Ev{{Kind: 8}, {Kind: -1}, {Kind: impl.EvOp}}, "\n\n\n"},
		{[]impl.Ev{{Kind: impl.EvFull}, {N: 5}, {Kind: impl.EvDelta}}, "full\n\ndelta\n"},
		{[]impl.Ev{{Kind: impl.EvOp, Op: impl.Op{Kind: 10}}, {Kind: impl.EvSteps, N: -3}}, "\nsteps -3\n"},
		{[]impl.Ev{{Kind: impl.EvStart}, {Kind: impl.EvOp, Op: impl.Op{Kind: -1}}}, "start\n\n"},
	}
	for _, c := range cases {
		if got := impl.ScriptText(c.list); got != c.want {
			t.Errorf("ScriptText(%+v) = %q, want %q", c.list, got, c.want)
		}
		wantNoScript(t, "other kinds", c.want)
	}
}

func TestScriptsThatAreNone(t *testing.T) {
	all := strings.Join(allLines(), "\n") + "\n"
	wrong := map[string]string{
		"no end of line": "start", "no end of the last line": all[:len(all)-1], "an end of line alone": "\n", "a blank": " ", "a blank and an end": " \n",
		"an empty line ahead": "\n" + all, "an empty line behind": all + "\n", "an empty line between": "start\n\nfull\n", "two empty lines": "\n\n",
		"13 and 10": "start\r\nfull\r\n", "13 alone": "start\rfull\r", "13 ahead of the last end": "start\nfull\r\n", "10 and 13": "start\n\rfull\n\r", "13 behind": "start\n\r",
		"a blank behind all": all + " ", "a blank ahead": " " + all, "a byte 0": "start\x00", "a byte 0 behind": all + "\x00", "another end of line": "start\u2028", "another end of line, 133": "start\x85",
		"a wrong line first": "stop\n" + all, "a wrong line last": all + "stop\n", "a wrong line and no end": all + "stop", "a line and no end": all + "start",
		"two in a line": "start full\n", "a line in two": "len 1\n2\n", "a number too large": "start\nsteps 9223372036854775808\n",
	}
	for what, s := range wrong {
		wantNoScript(t, what, s)
	}
	for i := range len(all) {
		wantScript(t, "cut off", all[:i])
		wantScript(t, "cut off ahead", all[i:])
		wantScript(t, "an end of line more", all[:i]+"\n"+all[i:])
		wantScript(t, "a byte less", all[:i]+all[i+1:])
		for _, b := range []string{"\n", "\r", " ", "\x00", "0", "-", "\xff"} {
			wantScript(t, "another byte", all[:i]+b+all[i+1:])
		}
	}
}

func TestScriptsOfMaxBytes(t *testing.T) {
	full := strings.Repeat("full\n", 3998)
	cases := []struct {
		script string
		size   int
		ok     bool
	}{
		{full + "full\nfull\n", 20000, true},
		{full + "steps 1\nlen", 20001, false},
		{full + "full\ndelta\n", 20001, false},
		{full + "steps 12\n", 19999, true},
		{full + "steps 123\n", 20000, true},
		{full + "steps 1234\n", 20001, false},
		{full + "len 1 12\n", 19999, true},
		{full + "full\nfull ", 20000, false},
		{full + "\nfull\nlen", 19999, false},
		{strings.Repeat("\n", 20000), 20000, false},
		{strings.Repeat("\n", 20001), 20001, false},
		{strings.Repeat("x", 20000), 20000, false},
		{full + full, 39980, false},
		{strings.Repeat(full, 30), 599700, false},
	}
	for _, c := range cases {
		if what := fmt.Sprintf("%d bytes", c.size); len(c.script) != c.size || wantScript(t, what, c.script) != c.ok {
			t.Errorf("%s: they are %d, and taken is not %v", what, len(c.script), c.ok)
		}
	}
	list, ok := impl.ReadScript(full + "full\nfull\n")
	if !ok || len(list) != 4000 {
		t.Errorf("of 4000 lines %d are read, %v", len(list), ok)
	}
	for _, e := range list {
		if e != (impl.Ev{Kind: impl.EvFull}) {
			t.Fatalf("a line is read as %+v", e)
		}
	}
}

// ScriptText has no limit, ReadScript has.
func TestLongScripts(t *testing.T) {
	list := slices.Repeat([]impl.Ev{{Kind: impl.EvOp, Op: impl.Op{Kind: impl.OpDrop, M: -1, H: math.MinInt}}}, 100000)
	script := impl.ScriptText(list)
	if want := strings.Repeat("drop -1 -9223372036854775808\n", 100000); script != want {
		t.Errorf("ScriptText of 100000 events has %d bytes, want %d", len(script), len(want))
	}
	wantNoScript(t, "long", script)
}

// When ReadScript answers, nobody goes on sending lines, also where a line ahead of others is wrong.
func TestScriptsLeaveNobodyBehind(t *testing.T) {
	before := runtime.NumGoroutine()
	for i := range 400 {
		for _, s := range []string{"start\n" + strings.Repeat("stop\n", i), "\n" + strings.Repeat("full\n", 10*i), strings.Repeat("full\n", i) + "full"} {
			impl.ReadScript(s)
		}
	}
	for range 200 {
		if runtime.NumGoroutine() <= before {
			return
		}
		time.Sleep(10 * time.Millisecond)
	}
	t.Errorf("%d goroutines are left behind", runtime.NumGoroutine()-before)
}

// Scripts that are read at one time do not mix their lines.
func TestScriptsAtOneTime(t *testing.T) {
	var group sync.WaitGroup
	for n := range 40 {
		group.Go(func() {
			var list []impl.Ev
			for i := range 300 {
				list = append(list, impl.Ev{Kind: impl.EvSteps, N: 1000*n + i})
			}
			script := impl.ScriptText(list)
			for range 10 {
				if got, ok := impl.ReadScript(script); !ok || !slices.Equal(got, list) {
					t.Errorf("script %d is read as another one", n)
				}
			}
		})
	}
	group.Wait()
}

func TestRandomScripts(t *testing.T) {
	rnd := rand.New(rand.NewSource(12))
	scripts := map[bool]int{}
	for range 3000 {
		var list []string
		for len(list) < rnd.Intn(12) {
			if s := randomLine(rnd); wantRead(t, s) || rnd.Intn(20) == 0 {
				list = append(list, s)
			}
		}
		s := strings.Join(append(list, ""), "\n")
		scripts[wantScript(t, "random", s)]++
		if s != "" {
			wantScript(t, "spoilt", spoilt(rnd, s))
		}
		wantScript(t, "bytes", randomBytes(rnd, rnd.Intn(6)))
	}
	if scripts[true] < 500 || scripts[false] < 100 {
		t.Errorf("but %v are scripts", scripts)
	}
}

// What is done by a script that was written down is what was done: numbers that are not written do nothing.
func TestScriptsDoTheSame(t *testing.T) {
	kinds := map[string]int{}
	for seed := range 150 {
		rnd := rand.New(rand.NewSource(int64(seed)))
		w := newWitness(t, rnd)
		first := w.s
		for len(w.events) < 150 {
			e := randomEvent(rnd, w.s)
			if word, _, _ := strings.Cut(impl.EvText(e), " "); word != "" {
				kinds[word]++
				w.act(t, fmt.Sprintf("seed %d", seed), e)
			}
		}
		script := impl.ScriptText(w.events)
		list, ok := impl.ReadScript(script)
		if !ok || impl.ScriptText(list) != script {
			t.Fatalf("seed %d: the script does not come back", seed)
		}
		got, answers := impl.ActAll(first, list)
		if wantSession(t, fmt.Sprintf("seed %d", seed), got, w.s); !slices.Equal(answers, w.all) {
			t.Fatalf("seed %d: the script answers\n%v, want\n%v", seed, answers, w.all)
		}
	}
	for _, f := range forms() {
		if kinds[f.word] < 50 {
			t.Errorf("%s was done but %d times", f.word, kinds[f.word])
		}
	}
	if len(kinds) != 15 {
		t.Errorf("words %v", slices.Sorted(maps.Keys(kinds)))
	}
}

// The forms above name each field of an event.
func TestFormsNameEachNumber(t *testing.T) {
	e := impl.Ev{Kind: 1, Op: impl.Op{Kind: 1}}
	for i, letter := range allPlaces {
		*placeOf(&e, letter) = i + 1
	}
	seen := map[string]bool{}
	for _, v := range []reflect.Value{reflect.ValueOf(e), reflect.ValueOf(e.Op)} {
		for i := range v.NumField() {
			if f := v.Field(i); f.Kind() == reflect.Int {
				seen[strconv.Itoa(int(f.Int()))] = true
			}
			if v.Field(i).IsZero() {
				t.Errorf("%s is in no form", v.Type().Field(i).Name)
			}
		}
	}
	if len(seen) != len(allPlaces) {
		t.Errorf("two letters are one number: %v", seen)
	}
}
