package tests

import (
	"fmt"
	"math"
	"math/rand"
	"reflect"
	"slices"
	"testing"

	"loop.example/g00690/impl"
)

// sample is a Graph of nine objects and two Muts. 1 and 3 lead to each other, 2
// leads to itself, 4 is led to by two; 7 and 8 lead to each other, and nothing
// that is held leads to them. From the roots the objects are met in the order 5,
// 4, 6, 3, 1, 9, 2.
func sample() impl.Graph {
	return impl.Graph{
		Objs: []impl.Obj{
			{P: []int{3, 0}, V: []int{7}},
			{P: []int{2}},
			{P: []int{1}, V: []int{-5, 8}},
			{V: []int{9}},
			{P: []int{4, 4, 6}},
			{P: []int{0, 4}, V: []int{1}},
			{P: []int{8, 4}},
			{P: []int{7}, V: []int{3, 5}},
			{P: []int{5, 2, 0, 9, 0, 0, 0, 1}, V: []int{0, 2, 0, 9, math.MinInt, math.MaxInt, 0, -1}},
		},
		Muts: []impl.Mut{{Roots: []int{5, 0, 3, 5, 0, 9}}, {Roots: []int{0, 3, 0, 0, 2, 0}}},
	}
}

// bare has so many objects of one number each, and one Mut whose roots are 0.
func bare(objs int) impl.Graph {
	g := impl.Graph{Muts: []impl.Mut{{Roots: make([]int, 6)}}}
	for k := range objs {
		g.Objs = append(g.Objs, impl.Obj{V: []int{k}})
	}
	return g
}

// brokenGraphs are Graphs that are not GraphOk, each for one reason.
func brokenGraphs() map[string]impl.Graph {
	changed := func(change func(g *impl.Graph)) impl.Graph {
		g := sample()
		change(&g)
		return g
	}
	list := map[string]impl.Graph{
		"nothing":       {},
		"no muts":       changed(func(g *impl.Graph) { g.Muts = nil }),
		"objects alone": {Objs: sample().Objs[3:4]},
		"four muts":     changed(func(g *impl.Graph) { g.Muts = slices.Concat(g.Muts, g.Muts) }),
		"a mut without roots": changed(func(g *impl.Graph) {
			g.Muts = []impl.Mut{g.Muts[0], {}}
		}),
		"five roots":         changed(func(g *impl.Graph) { g.Muts[0].Roots = g.Muts[0].Roots[:5] }),
		"five roots, last":   changed(func(g *impl.Graph) { g.Muts[1].Roots = g.Muts[1].Roots[:5] }),
		"seven roots":        changed(func(g *impl.Graph) { g.Muts[0].Roots = append(g.Muts[0].Roots, 0) }),
		"seven roots, last":  changed(func(g *impl.Graph) { g.Muts[1].Roots = append(g.Muts[1].Roots, 0) }),
		"2001 objects":       bare(2001),
		"5000 objects":       bare(5000),
		"no word":            changed(func(g *impl.Graph) { g.Objs[0] = impl.Obj{} }),
		"no word, empty":     changed(func(g *impl.Graph) { g.Objs[8] = impl.Obj{P: []int{}, V: []int{}} }),
		"no word, not held":  changed(func(g *impl.Graph) { g.Objs[6] = impl.Obj{} }),
		"17 pointers":        changed(func(g *impl.Graph) { g.Objs[4] = impl.Obj{P: make([]int, 17)} }),
		"17 numbers":         changed(func(g *impl.Graph) { g.Objs[4] = impl.Obj{V: make([]int, 17)} }),
		"17 words of both":   changed(func(g *impl.Graph) { g.Objs[8].V = make([]int, 9) }),
		"17 words, not held": changed(func(g *impl.Graph) { g.Objs[7].P = make([]int, 15) }),
		"a lot of words":     changed(func(g *impl.Graph) { g.Objs[7].V = make([]int, 1000) }),
		"root 1 of none":     {Muts: []impl.Mut{{Roots: []int{1, 0, 0, 0, 0, 0}}}},
	}
	for _, ref := range []int{-1, 10, 11, math.MinInt, math.MaxInt, 1 << 32, -9} {
		list[fmt.Sprint("first pointer ", ref)] = changed(func(g *impl.Graph) { g.Objs[0].P[0] = ref })
		list[fmt.Sprint("pointer not held ", ref)] = changed(func(g *impl.Graph) { g.Objs[7].P[0] = ref })
		list[fmt.Sprint("last pointer ", ref)] = changed(func(g *impl.Graph) { g.Objs[8].P[7] = ref })
		list[fmt.Sprint("first root ", ref)] = changed(func(g *impl.Graph) { g.Muts[0].Roots[0] = ref })
		list[fmt.Sprint("last root ", ref)] = changed(func(g *impl.Graph) { g.Muts[1].Roots[5] = ref })
	}
	return list
}

func wantGraph(t *testing.T, what string, got impl.Graph, want impl.Graph) {
	t.Helper()
	if !same(got, want) {
		t.Errorf("%s: the Graph is\n%+v, want\n%+v", what, got, want)
	}
}

func wantZeroGraph(t *testing.T, what string, got impl.Graph) {
	t.Helper()
	if !reflect.DeepEqual(got, impl.Graph{}) {
		t.Errorf("%s = %+v, want the zero value", what, got)
	}
}

// wantGraphDo does op to g, holds the answer against want, and the Graph behind it
// against g with change (nil: as it was).
func wantGraphDo(t *testing.T, g impl.Graph, op impl.Op, want impl.Ans, change func(g *impl.Graph)) impl.Graph {
	t.Helper()
	behind := roomy(g)
	if change != nil {
		change(&behind)
	}
	got, answer := impl.GraphDo(g, op)
	if answer != want {
		t.Errorf("%+v: the answer is %+v, want %+v", op, answer, want)
	}
	wantGraph(t, fmt.Sprintf("%+v", op), got, behind)
	if !impl.GraphOk(got) {
		t.Errorf("%+v: behind it %+v is not GraphOk", op, got)
	}
	return got
}

func TestGraphConstants(t *testing.T) { wantList(t, "MaxObjs", []int{impl.MaxObjs}, 2000) }

func TestGraphOkAccepts(t *testing.T) {
	three := impl.Graph{Muts: slices.Concat(bare(0).Muts, bare(0).Muts, bare(0).Muts)}
	onlyPointers, onlyNumbers, ends := bare(1), bare(1), sample()
	onlyPointers.Objs[0] = impl.Obj{P: []int{1, 1, 0, 1, 1, 1, 1, 1, 1, 1, 1, 1, 1, 1, 1, 1}}
	onlyNumbers.Objs[0] = impl.Obj{V: make([]int, 16)}
	copy(ends.Objs[8].P, []int{9, 0, 9, 1})
	copy(ends.Muts[1].Roots, []int{9, 1, 0, 9, 9, 9})
	most := bare(2000)
	most.Objs[1999].V, most.Objs[1999].P = nil, []int{2000, 0}
	copy(most.Muts[0].Roots, []int{2000, 1})
	for name, g := range map[string]impl.Graph{
		"no objects": bare(0), "one object": bare(1), "three muts": three, "sample": sample(), "2000 objects": most,
		"one pointer": {Objs: []impl.Obj{{P: []int{0}}}, Muts: bare(0).Muts},
		"16 pointers": onlyPointers, "16 numbers": onlyNumbers, "the last object": ends,
		"a root that nobody has": {Objs: bare(1).Objs, Muts: []impl.Mut{{Roots: []int{0, 0, 0, 0, 0, 1}}}},
	} {
		if !impl.GraphOk(g) || !impl.SameGraph(g, g) || !impl.SameGraph(roomy(g), g) {
			t.Errorf("%s is not GraphOk, or not the same as itself", name)
		}
	}
}

func TestWhatIsNotGraphOkIsRefused(t *testing.T) {
	for name, g := range brokenGraphs() {
		if impl.GraphOk(g) || impl.SameGraph(g, g) || impl.SameGraph(g, sample()) || impl.SameGraph(sample(), g) {
			t.Errorf("%s is GraphOk, or the same as something", name)
		}
		wantZeroGraph(t, name+": Trim", impl.Trim(g))
		all := ofEachKind([]impl.Op{{H: 2, N: 1}})
		for _, op := range all {
			next, answer := impl.GraphDo(g, op)
			if wantZeroGraph(t, name+": GraphDo", next); answer != code(impl.AnForm) {
				t.Errorf("%s: %+v answers %+v", name, op, answer)
			}
		}
		for _, list := range [][]impl.Op{nil, all[:1], all[6:7], all, make([]impl.Op, 1001)} {
			next, answers := impl.GraphAll(g, list)
			if wantZeroGraph(t, name+": GraphAll", next); len(answers) != 0 {
				t.Errorf("%s: GraphAll answers %v", name, answers)
			}
		}
	}
}

func TestGraphNew(t *testing.T) {
	for n := 1; n <= impl.MaxMuts; n++ {
		g, ok := impl.GraphNew(n)
		want := impl.Graph{}
		for range n {
			want.Muts = append(want.Muts, impl.Mut{Roots: make([]int, 6)})
		}
		if wantGraph(t, fmt.Sprintf("GraphNew(%d)", n), g, want); !ok || !impl.GraphOk(g) {
			t.Errorf("GraphNew(%d) is refused, or not GraphOk", n)
		}
		other, _ := impl.GraphNew(n)
		wantOwnMemory(t, "GraphNew", g, other)
	}
	for _, n := range []int{0, -1, 4, 100, math.MinInt, math.MaxInt, 1<<32 + 1} {
		g, ok := impl.GraphNew(n)
		if wantZeroGraph(t, fmt.Sprintf("GraphNew(%d)", n), g); ok {
			t.Errorf("GraphNew(%d) = true", n)
		}
	}
}

func TestGraphKindsThatAreNone(t *testing.T) {
	for _, kind := range unlisted {
		for _, op := range []impl.Op{{Kind: kind}, {Kind: kind, H: 2, N: 1}, {Kind: kind, M: -1, H: 9, G: -9, I: 99, N: 99, V: 99}} {
			next, answer := impl.GraphDo(sample(), op)
			if wantZeroGraph(t, fmt.Sprintf("%+v", op), next); answer != code(impl.AnForm) {
				t.Errorf("%+v answers %+v", op, answer)
			}
			next, answers := impl.GraphAll(sample(), []impl.Op{op})
			wantGraph(t, fmt.Sprintf("GraphAll %+v", op), next, sample())
			if !slices.Equal(answers, []impl.Ans{code(impl.AnForm)}) {
				t.Errorf("GraphAll %+v answers %v", op, answers)
			}
		}
	}
}

func TestGraphAlloc(t *testing.T) {
	for n := 1; n <= impl.MaxWords; n++ {
		for v := 0; v <= n; v++ {
			for h := range impl.MaxRoots {
				op := impl.Op{Kind: impl.OpAlloc, M: 1, H: h, G: -1, I: -1, N: n, V: v}
				wantGraphDo(t, sample(), op, impl.Ans{}, func(g *impl.Graph) {
					g.Objs = append(g.Objs, impl.Obj{P: make([]int, v), V: make([]int, n-v)})
					g.Muts[1].Roots[h] = 10
				})
			}
		}
	}
	for _, n := range []int{math.MinInt, -1, 0, 17, 1<<32 + 1, math.MaxInt} {
		for _, v := range []int{-1, 0, 1, 17, n} {
			wantGraphDo(t, sample(), impl.Op{Kind: impl.OpAlloc, N: n, V: v}, code(impl.AnSize), nil)
		}
	}
	for _, n := range []int{1, 2, 15, 16} {
		for _, v := range []int{math.MinInt, -1, n + 1, 1 << 32, math.MaxInt} {
			wantGraphDo(t, sample(), impl.Op{Kind: impl.OpAlloc, N: n, V: v}, code(impl.AnSize), nil)
		}
	}
}

// With one object less than MaxObjs there is room for one more, held or not.
func TestGraphMemory(t *testing.T) {
	for n := 1; n <= impl.MaxWords; n += 5 {
		g := wantGraphDo(t, bare(1999), impl.Op{Kind: impl.OpAlloc, H: 3, N: n, V: n}, impl.Ans{}, func(g *impl.Graph) {
			g.Objs = append(g.Objs, impl.Obj{P: make([]int, n)})
			g.Muts[0].Roots[3] = 2000
		})
		for m := 1; m <= impl.MaxWords; m += 3 {
			wantGraphDo(t, g, impl.Op{Kind: impl.OpAlloc, H: 4, N: m}, code(impl.AnMemory), nil)
		}
		wantGraphDo(t, g, impl.Op{Kind: impl.OpAlloc, H: 6, N: 1}, code(impl.AnHandle), nil)
		wantGraphDo(t, g, impl.Op{Kind: impl.OpAlloc, N: 1, V: 2}, code(impl.AnSize), nil)
		wantGraphDo(t, g, impl.Op{Kind: impl.OpStore, H: 3, I: n - 1, G: 3}, impl.Ans{}, func(g *impl.Graph) {
			g.Objs[1999].P[n-1] = 2000
		})
	}
	g, answers := impl.GraphAll(bare(1990), slices.Repeat([]impl.Op{{Kind: impl.OpAlloc, N: 2, V: 1}}, 12))
	want := append(make([]impl.Ans, 10), code(impl.AnMemory), code(impl.AnMemory))
	if !slices.Equal(answers, want) || len(g.Objs) != 2000 || g.Muts[0].Roots[0] != 2000 {
		t.Errorf("twelve objects behind 1990: %v, and %d objects", answers, len(g.Objs))
	}
}

func TestGraphLoadAndStore(t *testing.T) {
	for _, x := range []struct{ m, h, i, obj, is int }{
		{0, 0, 0, 5, 4}, {0, 0, 2, 5, 6}, {0, 3, 1, 5, 4}, {0, 2, 0, 3, 1}, {1, 1, 0, 3, 1}, {1, 4, 0, 2, 2},
		{0, 5, 0, 9, 5}, {0, 5, 2, 9, 0}, {0, 5, 3, 9, 9}, {0, 5, 7, 9, 1},
	} {
		for to := range impl.MaxRoots {
			op := impl.Op{Kind: impl.OpLoad, M: x.m, H: x.h, I: x.i, G: to, N: -1, V: -1}
			wantGraphDo(t, sample(), op, impl.Ans{}, func(g *impl.Graph) { g.Muts[x.m].Roots[to] = x.is })
			op.Kind = impl.OpStore
			wantGraphDo(t, sample(), op, impl.Ans{}, func(g *impl.Graph) { g.Objs[x.obj-1].P[x.i] = g.Muts[x.m].Roots[to] })
		}
	}
}

func TestGraphSetGetAndLen(t *testing.T) {
	for _, x := range []struct{ m, h, i, obj, at, is int }{
		{0, 2, 1, 3, 0, -5}, {1, 1, 2, 3, 1, 8}, {0, 5, 8, 9, 0, 0}, {0, 5, 9, 9, 1, 2}, {0, 5, 11, 9, 3, 9},
		{0, 5, 12, 9, 4, math.MinInt}, {0, 5, 13, 9, 5, math.MaxInt}, {0, 5, 15, 9, 7, -1},
	} {
		get := impl.Op{Kind: impl.OpGet, M: x.m, H: x.h, I: x.i, G: 9, N: -1, V: 7}
		wantGraphDo(t, sample(), get, impl.Ans{Val: x.is}, nil)
		for _, v := range []int{0, 4, 10, x.is, -1, math.MinInt, math.MaxInt} {
			set := impl.Op{Kind: impl.OpSet, M: x.m, H: x.h, I: x.i, V: v, G: -1, N: 99}
			next := wantGraphDo(t, sample(), set, impl.Ans{}, func(g *impl.Graph) { g.Objs[x.obj-1].V[x.at] = v })
			wantGraphDo(t, next, get, impl.Ans{Val: v}, nil)
		}
	}
	for _, x := range [][3]int{{0, 0, 3}, {0, 2, 3}, {0, 5, 16}, {1, 1, 3}, {1, 4, 1}} {
		wantGraphDo(t, sample(), impl.Op{Kind: impl.OpLen, M: x[0], H: x[1], I: 99, G: -1, N: 99, V: 99}, impl.Ans{Val: x[2]}, nil)
	}
}

func TestGraphDropSameAndCopy(t *testing.T) {
	for m, mut := range sample().Muts {
		for h, root := range mut.Roots {
			op := impl.Op{Kind: impl.OpDrop, M: m, H: h, G: 6, I: -1, N: 99, V: 99}
			wantGraphDo(t, sample(), op, impl.Ans{}, func(g *impl.Graph) { g.Muts[m].Roots[h] = 0 })
			for other, is := range mut.Roots {
				val := 0
				if root == is {
					val = 1
				}
				op.G, op.Kind = other, impl.OpSame
				wantGraphDo(t, sample(), op, impl.Ans{Val: val}, nil)
				op.Kind = impl.OpCopy
				wantGraphDo(t, sample(), op, impl.Ans{}, func(g *impl.Graph) { g.Muts[m].Roots[other] = root })
			}
		}
	}
	for _, x := range [][4]int{{0, 0, 3, 1}, {0, 0, 2, 0}, {0, 1, 4, 1}, {0, 1, 0, 0}, {0, 5, 5, 1}, {1, 1, 4, 0}, {1, 0, 5, 1}} {
		wantGraphDo(t, sample(), impl.Op{Kind: impl.OpSame, M: x[0], H: x[1], G: x[2]}, impl.Ans{Val: x[3]}, nil)
	}
}

func TestGraphHandles(t *testing.T) {
	asksG := []int{impl.OpLoad, impl.OpStore, impl.OpSame, impl.OpCopy}
	asksObject := []int{impl.OpLoad, impl.OpStore, impl.OpSet, impl.OpGet, impl.OpLen}
	for kind := impl.OpAlloc; kind <= impl.OpLen; kind++ {
		// what is done to 3, which has pointer 0 and number 1
		right := impl.Op{Kind: kind, M: 1, H: 1, G: 5, N: 1}
		if kind == impl.OpSet || kind == impl.OpGet {
			right.I = 1
		}
		if _, answer := impl.GraphDo(sample(), right); answer.Code != impl.AnOk {
			t.Errorf("%+v answers %+v", right, answer)
		}
		for _, off := range []int{-1, 6, math.MinInt, math.MaxInt, 1<<32 + 1} {
			op := right
			op.H = off
			wantGraphDo(t, sample(), op, code(impl.AnHandle), nil)
			op = right
			op.M = min(off, 2)
			wantGraphDo(t, sample(), op, code(impl.AnHandle), nil)
			op = right
			op.G = off
			if slices.Contains(asksG, kind) {
				wantGraphDo(t, sample(), op, code(impl.AnHandle), nil)
			} else if _, answer := impl.GraphDo(sample(), op); answer.Code != impl.AnOk {
				t.Errorf("%+v answers %+v", op, answer)
			}
		}
		for _, empty := range []int{0, 2, 5} {
			op := right
			op.H = empty
			if slices.Contains(asksObject, kind) {
				wantGraphDo(t, sample(), op, code(impl.AnHandle), nil)
			} else if _, answer := impl.GraphDo(sample(), op); answer.Code != impl.AnOk {
				t.Errorf("%+v answers %+v", op, answer)
			}
		}
	}
}

// Each object has its pointers first, then its numbers, and nothing before or behind.
func TestGraphIndexes(t *testing.T) {
	for _, size := range [][2]int{{1, 0}, {1, 1}, {2, 1}, {3, 2}, {9, 4}, {16, 0}, {16, 1}, {16, 15}, {16, 16}} {
		n, p := size[0], size[1]
		g, _ := impl.GraphDo(sample(), impl.Op{Kind: impl.OpAlloc, H: 2, N: n, V: p})
		for i := -2; i < 20; i++ {
			for _, i := range []int{i, i + 1<<32, i + math.MinInt + 2, i + math.MaxInt - 30} {
				for kind, is := range map[int]bool{
					impl.OpLoad:  i >= 0 && i < p,
					impl.OpStore: i >= 0 && i < p,
					impl.OpSet:   i >= p && i < n,
					impl.OpGet:   i >= p && i < n,
				} {
					op := impl.Op{Kind: kind, H: 2, G: 5, I: i, V: -9}
					if !is {
						wantGraphDo(t, g, op, code(impl.AnIndex), nil)
					} else if _, answer := impl.GraphDo(g, op); answer != (impl.Ans{}) {
						t.Errorf("%v: %+v answers %+v", size, op, answer)
					}
				}
			}
		}
	}
}

func TestTheFirstCodeCountsInGraphs(t *testing.T) {
	g := bare(2000)
	g.Objs[1] = impl.Obj{P: make([]int, 8), V: make([]int, 8)}
	g.Muts = []impl.Mut{roots6(2, 1), roots6()}
	for _, x := range refusals() {
		wantGraphDo(t, g, x.op, code(x.want), nil)
	}
}

func TestGraphAll(t *testing.T) {
	for _, none := range [][]impl.Op{nil, {}} {
		next, answers := impl.GraphAll(sample(), none)
		if wantGraph(t, "GraphAll of none", next, sample()); len(answers) != 0 {
			t.Errorf("GraphAll of none answers %v", answers)
		}
	}
	ops := []impl.Op{
		{Kind: impl.OpGet, H: 2, I: 1}, {Kind: impl.OpAlloc, M: 1, N: 4, V: 2}, {Kind: 10, M: 1}, {Kind: impl.OpSet, M: 1, I: 3, V: 5},
		{Kind: impl.OpLoad, M: 1, I: 2}, {Kind: impl.OpDrop, M: 3}, {Kind: impl.OpStore, M: 1, I: 1}, {}, {Kind: impl.OpGet, M: 1, I: 3},
		{Kind: impl.OpAlloc, N: 17}, {Kind: -1}, {Kind: impl.OpLen, M: 1}, {Kind: impl.OpAlloc, H: 1, N: 16},
	}
	next, answers := impl.GraphAll(sample(), ops)
	if want := []impl.Ans{{Val: -5}, {}, code(impl.AnForm), {}, code(impl.AnIndex), code(impl.AnHandle), {}, code(impl.AnForm), {Val: 5},
		code(impl.AnSize), code(impl.AnForm), {Val: 4}, {}}; !slices.Equal(answers, want) {
		t.Errorf("GraphAll answers %v, want %v", answers, want)
	}
	want := sample()
	want.Objs = append(want.Objs, impl.Obj{P: []int{0, 10}, V: []int{0, 5}}, impl.Obj{V: make([]int, 16)})
	want.Muts[1].Roots[0], want.Muts[0].Roots[1] = 10, 11
	wantGraph(t, "GraphAll", next, want)
}

func TestGraphAllOfAThousand(t *testing.T) {
	ops, want := aThousand(2)
	next, answers := impl.GraphAll(sample(), ops)
	if !slices.Equal(answers, want) || next.Objs[2].V[0] != 998 {
		t.Errorf("a thousand: %v, and %d", answers, next.Objs[2].V[0])
	}
	for _, many := range [][]impl.Op{append(ops, impl.Op{Kind: impl.OpSame}), make([]impl.Op, 1001), make([]impl.Op, 5000)} {
		next, answers := impl.GraphAll(sample(), many)
		if wantZeroGraph(t, "GraphAll of too many", next); len(answers) != 0 {
			t.Errorf("GraphAll of %d answers %v", len(many), answers)
		}
	}
	next, answers = impl.GraphAll(sample(), make([]impl.Op, 1000))
	if wantGraph(t, "a thousand of none", next, sample()); !slices.Equal(answers, slices.Repeat([]impl.Ans{code(impl.AnForm)}, 1000)) {
		t.Errorf("a thousand of none: %v", answers)
	}
}

// roots6 are six roots, the first of which are list.
func roots6(list ...int) impl.Mut { return impl.Mut{Roots: append(list, make([]int, 6-len(list))...)} }

// obj is one of these pointers, and of the number n.
func obj(n int, ptrs ...int) impl.Obj { return impl.Obj{P: ptrs, V: []int{n}} }

func TestTrimOfTheSample(t *testing.T) {
	got := impl.Trim(sample())
	wantGraph(t, "Trim", got, impl.Graph{
		Objs: []impl.Obj{
			{P: []int{2, 2, 3}},
			{V: []int{9}},
			{P: []int{0, 2}, V: []int{1}},
			{P: []int{5}, V: []int{-5, 8}},
			{P: []int{4, 0}, V: []int{7}},
			{P: []int{1, 7, 0, 6, 0, 0, 0, 5}, V: []int{0, 2, 0, 9, math.MinInt, math.MaxInt, 0, -1}},
			{P: []int{7}},
		},
		Muts: []impl.Mut{{Roots: []int{1, 0, 4, 1, 0, 6}}, {Roots: []int{0, 4, 0, 0, 7, 0}}},
	})
	wantGraph(t, "Trim once more", impl.Trim(got), got)
}

// trimming is a Graph, and what Trim makes of it.
type trimming struct {
	name string
	objs []impl.Obj
	muts []impl.Mut
	want []impl.Obj
	refs []impl.Mut
}

func trimmings() []trimming {
	return []trimming{
		{"nothing", nil, []impl.Mut{roots6()}, nil, []impl.Mut{roots6()}},
		{"nothing is held", []impl.Obj{obj(1, 2), obj(2, 1), obj(3, 3)}, []impl.Mut{roots6(), roots6()}, nil, []impl.Mut{roots6(), roots6()}},
		{"one", []impl.Obj{obj(1), obj(2), obj(3)}, []impl.Mut{roots6(0, 0, 0, 0, 0, 2)}, []impl.Obj{obj(2)}, []impl.Mut{roots6(0, 0, 0, 0, 0, 1)}},
		{"itself", []impl.Obj{obj(1, 1), obj(2, 2, 0, 2)}, []impl.Mut{roots6(2)}, []impl.Obj{obj(2, 1, 0, 1)}, []impl.Mut{roots6(1)}},
		{"a circle, from its mids", []impl.Obj{obj(1, 2), obj(2, 3), obj(3, 1)}, []impl.Mut{roots6(0, 2)}, []impl.Obj{obj(2, 2), obj(3, 3), obj(1, 1)}, []impl.Mut{roots6(0, 1)}},
		{"a circle that is lost", []impl.Obj{obj(1, 2), obj(2, 1, 3), obj(3)}, []impl.Mut{roots6(3)}, []impl.Obj{obj(3)}, []impl.Mut{roots6(1)}},
		// right behind 1 comes all that its first pointer leads to, and just then its second one
		{"in the depth first", []impl.Obj{obj(1, 3, 2), obj(2, 5), obj(3, 4, 5), obj(4), obj(5)}, []impl.Mut{roots6(1)},
			[]impl.Obj{obj(1, 2, 5), obj(3, 3, 4), obj(4), obj(5), obj(2, 4)}, []impl.Mut{roots6(1)}},
		{"root by root", []impl.Obj{obj(1), obj(2), obj(3), obj(4)}, []impl.Mut{roots6(3, 0, 1, 3), roots6(4, 1)},
			[]impl.Obj{obj(3), obj(1), obj(4)}, []impl.Mut{roots6(1, 0, 2, 1), roots6(3, 2)}},
		{"what root 0 leads to ahead of root 1", []impl.Obj{obj(1), obj(2, 4), obj(3), obj(4, 0, 3)}, []impl.Mut{roots6(2, 1)},
			[]impl.Obj{obj(2, 2), obj(4, 0, 3), obj(3), obj(1)}, []impl.Mut{roots6(1, 4)}},
		{"shared", []impl.Obj{obj(1, 3), obj(2, 3), obj(3)}, []impl.Mut{roots6(2, 1)},
			[]impl.Obj{obj(2, 2), obj(3), obj(1, 2)}, []impl.Mut{roots6(1, 3)}},
		{"a root that is met ahead of it", []impl.Obj{obj(1), obj(2, 1)}, []impl.Mut{roots6(0, 2, 1), roots6(1)},
			[]impl.Obj{obj(2, 2), obj(1)}, []impl.Mut{roots6(0, 1, 2), roots6(2)}},
		{"two muts with the same roots", []impl.Obj{obj(1), obj(2, 1), obj(3)}, []impl.Mut{roots6(2, 0, 1), roots6(2, 0, 1)},
			[]impl.Obj{obj(2, 2), obj(1)}, []impl.Mut{roots6(1, 0, 2), roots6(1, 0, 2)}},
		{"the first mut has nothing", []impl.Obj{obj(1), obj(2)}, []impl.Mut{roots6(), roots6(0, 2), roots6(2, 1)},
			[]impl.Obj{obj(2), obj(1)}, []impl.Mut{roots6(), roots6(0, 1), roots6(1, 2)}},
		{"numbers are no pointers", []impl.Obj{obj(2), obj(3), obj(1)}, []impl.Mut{roots6(1)}, []impl.Obj{obj(2)}, []impl.Mut{roots6(1)}},
		{"objects that look alike", []impl.Obj{obj(5), obj(5), obj(5, 1), obj(5, 2)}, []impl.Mut{roots6(4, 3)},
			[]impl.Obj{obj(5, 2), obj(5), obj(5, 4), obj(5)}, []impl.Mut{roots6(1, 3)}},
	}
}

func TestTrim(t *testing.T) {
	for _, x := range trimmings() {
		g, want := impl.Graph{Objs: x.objs, Muts: x.muts}, impl.Graph{Objs: x.want, Muts: x.refs}
		got := impl.Trim(g)
		wantGraph(t, x.name, got, want)
		wantGraph(t, x.name+", once more", impl.Trim(got), want)
		if !impl.GraphOk(got) || !impl.SameGraph(got, want) || impl.SameGraph(got, g) != same(g, want) {
			t.Errorf("%s: %+v is not GraphOk, or not the same", x.name, got)
		}
	}
}

// 2000 objects, each one of which leads to the one ahead of it, by its first or its last pointer.
func TestTrimOfALongRow(t *testing.T) {
	for _, back := range []bool{false, true} {
		g, want := bare(2000), bare(2000)
		for k := range g.Objs {
			o, ref := &g.Objs[k], &want.Objs[1999-k]
			o.P, o.V, ref.P, ref.V = make([]int, 8), []int{-k}, make([]int, 8), []int{-k}
			last := 0
			if back {
				last = 7
			}
			o.P[last], ref.P[last] = k, (1999-k+2)%2001
		}
		g.Muts[0].Roots[4], want.Muts[0].Roots[4] = 2000, 1
		wantGraph(t, "a row", impl.Trim(g), want)
		wantGraph(t, "a row that is trimmed", impl.Trim(want), want)
		g.Muts[0].Roots[4] = 1
		wantGraph(t, "its end", impl.Trim(g), impl.Graph{Objs: []impl.Obj{{P: make([]int, 8), V: []int{0}}}, Muts: []impl.Mut{roots6(0, 0, 0, 0, 1)}})
	}
}

// modelTrim goes with a stack of its own, from which what comes first is taken first.
func modelTrim(g impl.Graph) impl.Graph {
	var open []int
	push := func(refs []int) {
		for _, ref := range slices.Backward(refs) {
			open = append(open, ref)
		}
	}
	for _, mut := range slices.Backward(g.Muts) {
		push(mut.Roots)
	}
	order := []int{0}
	for len(open) > 0 {
		ref := open[len(open)-1]
		open = open[:len(open)-1]
		if !slices.Contains(order, ref) {
			order = append(order, ref)
			push(g.Objs[ref-1].P)
		}
	}
	renamed := func(refs []int) []int {
		var list []int
		for _, ref := range refs {
			list = append(list, slices.Index(order, ref))
		}
		return list
	}
	var x impl.Graph
	for _, ref := range order[1:] {
		x.Objs = append(x.Objs, impl.Obj{P: renamed(g.Objs[ref-1].P), V: g.Objs[ref-1].V})
	}
	for _, mut := range g.Muts {
		x.Muts = append(x.Muts, impl.Mut{Roots: renamed(mut.Roots)})
	}
	return x
}

// All Graphs of three objects with two pointers each, one number, and one root in each of two Muts.
func TestTrimOfAllSmallGraphs(t *testing.T) {
	for n := range 1 << 16 {
		at := func(i int) int { return n >> (2 * i) & 3 }
		g := impl.Graph{
			Objs: []impl.Obj{obj(7, at(0), at(1)), obj(8, at(2), at(3)), obj(9, at(4), at(5))},
			Muts: []impl.Mut{roots6(0, at(6)), roots6(at(7))},
		}
		got := impl.Trim(g)
		if want := modelTrim(g); !reflect.DeepEqual(got, want) && !same(got, want) {
			t.Fatalf("Trim of\n%+v is\n%+v, want\n%+v", g, got, want)
		}
		if !impl.SameGraph(impl.Trim(got), got) {
			t.Fatalf("Trim of\n%+v is not Trim of what is trimmed", g)
		}
	}
}

// graphOfTheRing is what each of ringWorlds is as a Graph.
func graphOfTheRing() impl.Graph {
	return impl.Graph{
		Objs: []impl.Obj{
			{P: []int{2}, V: []int{-5, 6}},
			{P: []int{3, 0, 4}, V: []int{3}},
			{P: []int{0, 1}, V: []int{ringB}},
			{V: []int{alone}},
			{V: []int{ringA, 98, 1, -1}},
			{P: []int{7, 4, 0, 7}, V: []int{lost, 1, 0, 0, 0}},
			{P: []int{7}, V: []int{1}},
		},
		Muts: []impl.Mut{roots6(1, 0, 5, 1), roots6(), roots6(0, 0, 0, 0, 6, 1)},
	}
}

func TestGraphOfInEachPhase(t *testing.T) {
	for name, w := range ringWorlds(t) {
		wantGraph(t, name, impl.GraphOf(w), graphOfTheRing())
	}
}

// What is Doomed may lead to nothing, or to what is not there, and is not in the Graph.
func TestGraphOfWhatIsDoomed(t *testing.T) {
	for _, name := range []string{"sweep", "swept"} {
		w := ringWorlds(t)[name]
		setWords(&w, lost, 70, -1, 102, lost)
		setWords(&w, alone, 7)
		if !impl.Doomed(w, lost) || !impl.Doomed(w, alone) {
			t.Errorf("%s: nothing is Doomed", name)
		}
		wantWrong(t, name, w)
		wantGraph(t, name, impl.GraphOf(w), graphOfTheRing())
	}
}

// Where objects lie, and what numbers the pages have, tells nothing of the order.
func TestGraphOfTellsNoPlaces(t *testing.T) {
	w := newWorld(t, 96, 5, 2)
	for _, size := range [][2]int{{16, 0}, {2, 2}, {2, 0}, {8, 3}, {4, 1}} {
		w, _ = take(t, w, size[0], size[1])
	}
	// at 96, 128, 130, 160 and 192
	w = give(t, w, 96)
	setWords(&w, 160, 192, 160, 128, 128)
	setWords(&w, 192, 130, 160)
	setWords(&w, 128, 0, 192)
	setWords(&w, 130, 192, 0)
	copy(w.Muts[1].Roots, []int{0, 0, 160, 130})
	wantGraph(t, "from the big one on", impl.GraphOf(w), impl.Graph{
		Objs: []impl.Obj{{P: []int{2, 1, 4}, V: []int{128, 0, 0, 0, 0}}, {P: []int{3}, V: []int{160, 0, 0}}, {V: []int{192, 0}}, {P: []int{0, 2}}},
		Muts: []impl.Mut{roots6(), roots6(0, 0, 1, 3)},
	})
	w.Muts[0].Roots[5] = 128
	wantGraph(t, "from the pair on", impl.GraphOf(w), impl.Graph{
		Objs: []impl.Obj{{P: []int{0, 2}}, {P: []int{3}, V: []int{160, 0, 0}}, {V: []int{192, 0}}, {P: []int{2, 4, 1}, V: []int{128, 0, 0, 0, 0}}},
		Muts: []impl.Mut{roots6(0, 0, 0, 0, 0, 1), roots6(0, 0, 4, 3)},
	})
}

func TestGraphOfTheFullest(t *testing.T) {
	w, want := newWorld(t, impl.MaxBase, 12, 3), bare(192)
	for i := range 192 {
		w, _ = take(t, w, 2, 1)
		setWords(&w, impl.MaxBase+2*i, impl.MaxBase+2*((i+191)%192), -i)
		want.Objs[i] = obj(i-191, (i+1)%192+1)
	}
	want.Muts = []impl.Mut{roots6(), roots6(1), roots6(1)}
	w.Muts[1].Roots[0], w.Muts[2].Roots[0] = impl.MaxBase+382, impl.MaxBase+382
	wantGraph(t, "a circle of 192", impl.GraphOf(w), want)
	for muts := 1; muts <= impl.MaxMuts; muts++ {
		g, _ := impl.GraphNew(muts)
		wantGraph(t, "nothing", impl.GraphOf(newWorld(t, 32, 1, muts)), g)
	}
}

func TestGraphOfRefusesWhatIsNotRight(t *testing.T) {
	refuse := func(t *testing.T, w impl.World) {
		t.Helper()
		wantZeroGraph(t, "GraphOf", impl.GraphOf(w))
	}
	refuse(t, impl.World{})
	eachNotRight(t, refuse)
}

func TestSameGraph(t *testing.T) {
	ways := map[string]func(g *impl.Graph){
		"a pointer":                 func(g *impl.Graph) { g.Objs[0].P[0] = 4 },
		"a pointer that is 0":       func(g *impl.Graph) { g.Objs[8].P[7] = 0 },
		"a pointer that nobody has": func(g *impl.Graph) { g.Objs[6].P[1] = 3 },
		"the order of pointers":     func(g *impl.Graph) { g.Objs[4].P[1], g.Objs[4].P[2] = 6, 4 },
		"a number":                  func(g *impl.Graph) { g.Objs[3].V[0]++ },
		"the last number":           func(g *impl.Graph) { g.Objs[8].V[7] = 0 },
		"the order of numbers":      func(g *impl.Graph) { slices.Reverse(g.Objs[2].V) },
		"a word less":               func(g *impl.Graph) { g.Objs[2].V = g.Objs[2].V[:1] },
		"a pointer less":            func(g *impl.Graph) { g.Objs[0].P = g.Objs[0].P[:1] },
		"a word more":               func(g *impl.Graph) { g.Objs[5].V = append(g.Objs[5].V, 0) },
		"a pointer for a number":    func(g *impl.Graph) { g.Objs[3] = impl.Obj{P: []int{9}} },
		"a number for a pointer":    func(g *impl.Graph) { g.Objs[1] = impl.Obj{V: []int{2}} },
		"a root":                    func(g *impl.Graph) { g.Muts[0].Roots[0] = 6 },
		"the last root":             func(g *impl.Graph) { g.Muts[1].Roots[5] = 1 },
		"the order of roots":        func(g *impl.Graph) { slices.Reverse(g.Muts[0].Roots) },
		"the order of muts":         func(g *impl.Graph) { slices.Reverse(g.Muts) },
		"a mut less":                func(g *impl.Graph) { g.Muts = g.Muts[:1] },
		"a mut more":                func(g *impl.Graph) { g.Muts = append(g.Muts, roots6()) },
		"an object more":            func(g *impl.Graph) { g.Objs = append(g.Objs, obj(1)) },
		// the same objects, held alike, as 3 and 1 change their numbers
		"the order of objects alone": func(g *impl.Graph) {
			g.Objs[0], g.Objs[2] = g.Objs[2], g.Objs[0]
			g.Objs[0].P[0], g.Objs[2].P[0], g.Objs[8].P[7] = 3, 1, 3
			g.Muts[0].Roots[2], g.Muts[1].Roots[1] = 1, 1
		},
	}
	for name, change := range ways {
		other := roomy(sample())
		change(&other)
		if !impl.GraphOk(other) || impl.SameGraph(sample(), other) || impl.SameGraph(other, sample()) || !impl.SameGraph(other, roomy(other)) {
			t.Errorf("%s: the same, or not GraphOk", name)
		}
		if name == "the order of objects alone" && !impl.SameGraph(impl.Trim(other), impl.Trim(sample())) {
			t.Errorf("%s: not the same when trimmed", name)
		}
	}
	if impl.SameGraph(impl.Trim(sample()), sample()) || !impl.SameGraph(sample(), roomy(sample())) {
		t.Error("SameGraph of the sample, or of what is trimmed of it")
	}
}

// An empty list and nil are the same value.
func TestSameGraphOfEmptyLists(t *testing.T) {
	a := impl.Graph{Objs: []impl.Obj{{P: []int{1}}, {V: []int{1}}}, Muts: []impl.Mut{roots6(2)}}
	b := impl.Graph{Objs: []impl.Obj{{P: []int{1}, V: []int{}}, {P: []int{}, V: []int{1}}}, Muts: a.Muts}
	none := impl.Graph{Objs: []impl.Obj{}, Muts: a.Muts[:1:1]}
	none.Muts = []impl.Mut{roots6()}
	if !impl.SameGraph(a, b) || !impl.SameGraph(b, a) || !impl.SameGraph(none, bare(0)) || !impl.SameGraph(bare(0), none) {
		t.Error("nil and an empty list differ")
	}
}

func TestGraphMemoryIsNew(t *testing.T) {
	ops := ofEachKind([]impl.Op{{N: 3, V: 1}, {M: 1, H: 3, N: 16}, {M: 1, H: 1, I: 1, G: 2}, {H: 5, G: 4}, {I: 99, H: 5, N: 99}, {M: -1}})
	for _, g := range []impl.Graph{sample(), impl.Trim(sample()), bare(0), {}} {
		wantUnwritten(t, "GraphDo", g, func(g impl.Graph) {
			for _, op := range ops {
				a, _ := impl.GraphDo(g, op)
				b, _ := impl.GraphDo(g, op)
				wantOwnMemory(t, fmt.Sprintf("%+v", op), g, a, b)
			}
		})
		for _, list := range [][]impl.Op{nil, ops[:1], ops} {
			wantUnwritten(t, "GraphAll", g, func(g impl.Graph) {
				wantUnwritten(t, "GraphAll", list, func(list []impl.Op) {
					a, answersA := impl.GraphAll(g, list)
					b, answersB := impl.GraphAll(g, list)
					wantOwnMemory(t, "GraphAll", g, list, a, answersA, b, answersB)
				})
			})
		}
		wantUnwritten(t, "Trim", g, func(g impl.Graph) {
			wantOwnMemory(t, "Trim", g, impl.Trim(g), impl.Trim(g))
			impl.GraphOk(g)
			wantUnwritten(t, "SameGraph", sample(), func(other impl.Graph) { impl.SameGraph(g, other) })
		})
	}
	for name, w := range ringWorlds(t) {
		wantUnwritten(t, name, w, func(w impl.World) {
			wantOwnMemory(t, name+": GraphOf", w, impl.GraphOf(w), impl.GraphOf(w))
		})
	}
}

// modelGraphDo does op to g, which is GraphOk, as chapter 6 is written.
func modelGraphDo(g *impl.Graph, op impl.Op) impl.Ans {
	in := func(n, from, below int) bool { return n >= from && n < below }
	if !in(op.Kind, 1, 10) {
		return code(impl.AnForm)
	}
	asks := map[int]string{1: "n", 2: "ogp", 3: "ogp", 4: "ov", 5: "ov", 6: "", 7: "g", 8: "g", 9: "o"}[op.Kind]
	is := func(what rune) bool { return slices.Contains([]rune(asks), what) }
	if !in(op.M, 0, len(g.Muts)) || !in(op.H, 0, 6) || is('g') && !in(op.G, 0, 6) || is('o') && g.Muts[op.M].Roots[op.H] == 0 {
		return code(impl.AnHandle)
	}
	if is('n') && (!in(op.N, 1, 17) || !in(op.V, 0, op.N+1)) {
		return code(impl.AnSize)
	}
	roots := g.Muts[op.M].Roots
	var o impl.Obj
	if roots[op.H] > 0 {
		o = g.Objs[roots[op.H]-1]
	}
	if is('p') && !in(op.I, 0, len(o.P)) || is('v') && !in(op.I, len(o.P), len(o.P)+len(o.V)) {
		return code(impl.AnIndex)
	}
	val := 0
	switch op.Kind {
	case impl.OpAlloc:
		if len(g.Objs) >= 2000 {
			return code(impl.AnMemory)
		}
		g.Objs = append(slices.Clip(g.Objs), impl.Obj{P: make([]int, op.V), V: make([]int, op.N-op.V)})
		roots[op.H] = len(g.Objs)
	case impl.OpLoad:
		roots[op.G] = o.P[op.I]
	case impl.OpStore:
		o.P[op.I] = roots[op.G]
	case impl.OpSet:
		o.V[op.I-len(o.P)] = op.V
	case impl.OpGet:
		val = o.V[op.I-len(o.P)]
	case impl.OpDrop:
		roots[op.H] = 0
	case impl.OpSame:
		if roots[op.H] == roots[op.G] {
			val = 1
		}
	case impl.OpCopy:
		roots[op.G] = roots[op.H]
	case impl.OpLen:
		val = len(o.P) + len(o.V)
	}
	return impl.Ans{Val: val}
}

// randomGraph has some objects that are held, and some that are not.
func randomGraph(rnd *rand.Rand) impl.Graph {
	objs := rnd.Intn(14)
	refs := func(n int, none int) []int {
		list := make([]int, n)
		for i := range list {
			if rnd.Intn(none) > 0 {
				list[i] = rnd.Intn(objs + 1)
			}
		}
		return list
	}
	var g impl.Graph
	for range objs {
		n := 1 + rnd.Intn(1+rnd.Intn(16))
		p := rnd.Intn(min(n, 4) + 1)
		o := impl.Obj{P: refs(p, 4), V: make([]int, n-p)}
		for i := range o.V {
			o.V[i] = rnd.Intn(20) - 5
		}
		g.Objs = append(g.Objs, o)
	}
	for range 1 + rnd.Intn(3) {
		g.Muts = append(g.Muts, impl.Mut{Roots: refs(6, 2)})
	}
	return g
}

// randomGraphOp is mostly one that is not refused.
func randomGraphOp(rnd *rand.Rand, g impl.Graph) impl.Op {
	op := impl.Op{Kind: 1 + rnd.Intn(9), M: rnd.Intn(len(g.Muts)), H: rnd.Intn(6), G: rnd.Intn(6), N: 1 + rnd.Intn(6), I: rnd.Intn(4)}
	if op.V = rnd.Intn(9) - 2; op.Kind == impl.OpAlloc && rnd.Intn(20) > 0 {
		op.V = rnd.Intn(op.N + 1)
	}
	if slices.Max(g.Muts[op.M].Roots) > 0 && op.Kind != impl.OpAlloc && rnd.Intn(10) > 0 {
		roots := g.Muts[op.M].Roots
		for op.H = rnd.Intn(6); roots[op.H] == 0; op.H = rnd.Intn(6) {
		}
		switch o := g.Objs[roots[op.H]-1]; op.Kind {
		case impl.OpLoad, impl.OpStore:
			op.I = rnd.Intn(len(o.P) + 1)
		case impl.OpSet, impl.OpGet:
			op.I = len(o.P) + rnd.Intn(len(o.V)+1)
		}
	}
	off := []int{-1, 6, 17, 3}[rnd.Intn(4)]
	if field := []*int{&op.M, &op.H, &op.G, &op.I, &op.N}; rnd.Intn(30) == 0 {
		*field[rnd.Intn(5)] = off
	}
	if rnd.Intn(100) == 0 {
		op.Kind = unlisted[rnd.Intn(len(unlisted))]
	}
	return op
}

func TestGraphsAgainstAModel(t *testing.T) {
	done, codes := map[int]int{}, map[int]int{}
	for seed := range 500 {
		rnd := rand.New(rand.NewSource(int64(seed)))
		first := randomGraph(rnd)
		g, want := roomy(first), roomy(first)
		var ops []impl.Op
		var answers []impl.Ans
		for range 60 {
			op := randomGraphOp(rnd, g)
			answer := modelGraphDo(&want, op)
			next, is := impl.GraphDo(g, op)
			if is != answer {
				t.Fatalf("seed %d: %+v answers %+v, want %+v", seed, op, is, answer)
			}
			if is.Code != impl.AnForm {
				g = next
			}
			if codes[is.Code]++; is.Code == impl.AnOk {
				done[op.Kind]++
			}
			if wantGraph(t, fmt.Sprintf("seed %d: %+v", seed, op), g, want); t.Failed() {
				t.FailNow()
			}
			ops, answers = append(ops, op), append(answers, answer)
		}
		all, is := impl.GraphAll(first, ops)
		if wantGraph(t, fmt.Sprintf("seed %d: GraphAll", seed), all, want); !slices.Equal(is, answers) {
			t.Errorf("seed %d: GraphAll answers %v, want %v", seed, is, answers)
		}
		wantGraph(t, fmt.Sprintf("seed %d: Trim", seed), impl.Trim(g), modelTrim(g))
	}
	for kind := impl.OpAlloc; kind <= impl.OpLen; kind++ {
		if done[kind] < 500 {
			t.Errorf("kind %d was done but %d times", kind, done[kind])
		}
	}
	for answer := impl.AnOk; answer < impl.AnMemory; answer++ {
		if codes[answer] < 100 {
			t.Errorf("code %d came but %d times", answer, codes[answer])
		}
	}
}

// shuffled is g with its objects under other numbers.
func shuffled(g impl.Graph, rnd *rand.Rand) impl.Graph {
	at := rnd.Perm(len(g.Objs))
	renamed := func(refs []int) []int {
		list := slices.Clone(refs)
		for i, ref := range list {
			if ref > 0 {
				list[i] = at[ref-1] + 1
			}
		}
		return list
	}
	x := impl.Graph{Objs: make([]impl.Obj, len(g.Objs))}
	for k, o := range g.Objs {
		x.Objs[at[k]] = impl.Obj{P: renamed(o.P), V: o.V}
	}
	for _, mut := range g.Muts {
		x.Muts = append(x.Muts, impl.Mut{Roots: renamed(mut.Roots)})
	}
	return x
}

// What is trimmed, and what has other numbers, answers as the whole, and is the same behind it when trimmed.
func TestWhatIsTrimmedAnswersAsTheWhole(t *testing.T) {
	lostObjs := 0
	for seed := range 1500 {
		rnd := rand.New(rand.NewSource(int64(seed)))
		g := randomGraph(rnd)
		less, other := impl.Trim(g), shuffled(g, rnd)
		lostObjs += len(g.Objs) - len(less.Objs)
		if !impl.SameGraph(impl.Trim(other), less) || !impl.SameGraph(impl.Trim(less), less) {
			t.Fatalf("seed %d: %+v is trimmed once so, once so", seed, g)
		}
		var ops []impl.Op
		for now := g; len(ops) < 30; {
			ops = append(ops, randomGraphOp(rnd, now))
			now, _ = impl.GraphAll(now, ops[len(ops)-1:])
		}
		whole, answers := impl.GraphAll(g, ops)
		for _, x := range []impl.Graph{less, other} {
			next, is := impl.GraphAll(x, ops)
			if !slices.Equal(is, answers) || !impl.SameGraph(impl.Trim(next), impl.Trim(whole)) {
				t.Fatalf("seed %d: %+v answers\n%v, the whole\n%v", seed, ops, is, answers)
			}
		}
	}
	if lostObjs < 1000 {
		t.Errorf("but %d objects were not held", lostObjs)
	}
}

// both holds a World and a Graph to which the same is done.
type both struct {
	w impl.World
	g impl.Graph
}

func (b *both) want(t *testing.T, what string) {
	t.Helper()
	if is, want := impl.GraphOf(b.w), impl.Trim(b.g); !impl.SameGraph(is, want) {
		t.Fatalf("%s: the World is\n%+v, the Graph\n%+v", what, is, want)
	}
}

// do does op to both, but to the Graph just if there is room in the World.
func (b *both) do(t *testing.T, what string, op impl.Op) impl.Ans {
	t.Helper()
	w, answer := impl.Do(b.w, op)
	if answer.Code == impl.AnMemory {
		wantWorld(t, what+": no room", w, b.w)
		return answer
	}
	g, is := impl.GraphDo(b.g, op)
	if is != answer {
		t.Fatalf("%s: %+v answers %+v in the World, %+v in the Graph", what, op, answer, is)
	}
	if answer.Code != impl.AnForm {
		b.w, b.g = w, g
	}
	b.want(t, fmt.Sprintf("%s: %+v", what, op))
	return answer
}

// use goes on with both for n moves, with steps of rounds between operations, and counts what was done.
func (b *both) use(t *testing.T, what string, rnd *rand.Rand, n int, done map[[2]int]int) {
	t.Helper()
	for range n {
		switch rest := rnd.Intn(10); {
		case rest < 2 && b.w.Gc.Phase == impl.PhOff:
			b.w, _ = impl.GcStart(b.w)
		case rest < 4:
			b.w = impl.GcStep(b.w)
		default:
			op, phase := randomOp(rnd, b.w, 9), b.w.Gc.Phase
			if b.do(t, what, op).Code == impl.AnOk {
				done[[2]int{op.Kind, phase}]++
			}
		}
		b.want(t, what)
	}
}

func TestWorldsAndGraphsFromNothingOn(t *testing.T) {
	done := map[[2]int]int{}
	for seed := range 300 {
		rnd := rand.New(rand.NewSource(int64(seed)))
		muts := 1 + rnd.Intn(3)
		b := both{w: newWorld(t, 32*(1+rnd.Intn(9)), 1+rnd.Intn(5), muts)}
		b.g, _ = impl.GraphNew(muts)
		what := fmt.Sprintf("seed %d", seed)
		b.use(t, what, rnd, 120, done)
		b.w = impl.GcRun(b.w, impl.StepsLeft(b.w))
		b.want(t, what+": behind the round")
		b.use(t, what, rnd, 10, done)
	}
	wantAllDone(t, done, 30)
}

// From any moment of a round on a World and what it is as a Graph go on alike.
func TestWorldsAndGraphsFromAnyMoment(t *testing.T) {
	done := map[[2]int]int{}
	for seed := range 1500 {
		rnd := rand.New(rand.NewSource(int64(seed)))
		w := randomHeap(t, rnd)
		goOn(&w, rnd)
		b := both{w, impl.GraphOf(w)}
		wantGraph(t, "GraphOf, trimmed", impl.Trim(b.g), b.g)
		b.use(t, fmt.Sprintf("seed %d", seed), rnd, 20, done)
	}
	wantAllDone(t, done, 15)
}
