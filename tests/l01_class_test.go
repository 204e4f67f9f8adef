package tests

import (
	"math"
	"slices"
	"testing"

	"loop.example/g00690/impl"
)

// cardsByDefinition asks card by card whether it has one of the words, as chapter 1 defines it.
func cardsByDefinition(from int, n int) []int {
	var list []int
	for card := from/8 - 2; card <= from/8+6; card++ {
		for word := card * 8; word < card*8+8; word++ {
			if word >= from && word < from+n {
				list = append(list, card)
				break
			}
		}
	}
	return list
}

func wantCards(t *testing.T, from int, n int, want ...int) {
	t.Helper()
	if got := impl.CardsOf(from, n); !slices.Equal(got, want) {
		t.Errorf("CardsOf(%d, %d) = %v, want %v", from, n, got, want)
	}
}

func TestSizeConstants(t *testing.T) {
	got := []int{impl.PageWords, impl.CardWords, impl.Classes, impl.MaxWords}
	if want := []int{32, 8, 4, 16}; !slices.Equal(got, want) {
		t.Errorf("PageWords, CardWords, Classes, MaxWords = %v, want %v", got, want)
	}
}

func TestClassSizesAndSlots(t *testing.T) {
	cases := []struct{ class, size, slots int }{
		{0, 2, 16}, {1, 4, 8}, {2, 8, 4}, {3, 16, 2},
	}
	for _, c := range cases {
		if got := impl.ClassSize(c.class); got != c.size {
			t.Errorf("ClassSize(%d) = %d, want %d", c.class, got, c.size)
		}
		if got := impl.SlotsOf(c.class); got != c.slots {
			t.Errorf("SlotsOf(%d) = %d, want %d", c.class, got, c.slots)
		}
	}
}

func TestNoClassHasNoSlots(t *testing.T) {
	for _, c := range []int{math.MinInt, -64, -2, -1, impl.Classes, impl.Classes + 1, 63, 64, 1 << 32, 1<<32 + 1, math.MaxInt} {
		if got := impl.ClassSize(c); got != 0 {
			t.Errorf("ClassSize(%d) = %d, want 0", c, got)
		}
		if got := impl.SlotsOf(c); got != 0 {
			t.Errorf("SlotsOf(%d) = %d, want 0", c, got)
		}
	}
}

func TestSlotsFillAPage(t *testing.T) {
	for c := range impl.Classes {
		if got := impl.ClassSize(c) * impl.SlotsOf(c); got != impl.PageWords {
			t.Errorf("the slots of class %d have %d words together, want %d", c, got, impl.PageWords)
		}
	}
}

func TestClassOfIsTheLeastWithRoom(t *testing.T) {
	want := []int{-1, 0, 0, 1, 1, 2, 2, 2, 2, 3, 3, 3, 3, 3, 3, 3, 3, -1, -1}
	for n, c := range want {
		if got := impl.ClassOf(n); got != c {
			t.Errorf("ClassOf(%d) = %d, want %d", n, got, c)
		}
	}
	for n := 1; n <= impl.MaxWords; n++ {
		c := impl.ClassOf(n)
		if impl.ClassSize(c) < n {
			t.Errorf("class %d has no room for %d words", c, n)
		}
		if c > 0 && impl.ClassSize(c-1) >= n {
			t.Errorf("class %d is not the least one with room for %d words", c, n)
		}
	}
}

func TestClassOfRefuses(t *testing.T) {
	for _, n := range []int{math.MinInt, -16, -1, 0, impl.MaxWords + 1, 32, 64, 1 << 32, 1<<32 + 2, math.MaxInt} {
		if got := impl.ClassOf(n); got != -1 {
			t.Errorf("ClassOf(%d) = %d, want -1", n, got)
		}
	}
}

func TestCardsAtTheirEdges(t *testing.T) {
	wantCards(t, 0, 1, 0)
	wantCards(t, 7, 1, 0)
	wantCards(t, 8, 1, 1)
	wantCards(t, 0, 8, 0)
	wantCards(t, 0, 9, 0, 1)
	wantCards(t, 7, 2, 0, 1)
	wantCards(t, 8, 8, 1)
	wantCards(t, 8, 9, 1, 2)
	wantCards(t, 7, 9, 0, 1)
	wantCards(t, 7, 10, 0, 1, 2)
	wantCards(t, 30, 4, 3, 4)
	wantCards(t, 0, impl.PageWords, 0, 1, 2, 3)
	wantCards(t, 1, impl.PageWords, 0, 1, 2, 3, 4)
	wantCards(t, 7, impl.PageWords, 0, 1, 2, 3, 4)
	wantCards(t, 8, impl.PageWords, 1, 2, 3, 4)
}

func TestCardsAtTheLastBeginning(t *testing.T) {
	wantCards(t, 999999, 1, 124999)
	wantCards(t, 999999, 2, 124999, 125000)
	wantCards(t, 1000000, 1, 125000)
	wantCards(t, 1000000, 8, 125000)
	wantCards(t, 1000000, 9, 125000, 125001)
	wantCards(t, 1000000, impl.PageWords, 125000, 125001, 125002, 125003)
}

func TestCardsAreJustThoseWithTheWords(t *testing.T) {
	for _, start := range []int{0, 384, 500000, 999900} {
		for from := start; from <= start+100; from++ {
			for n := 1; n <= impl.PageWords; n++ {
				wantCards(t, from, n, cardsByDefinition(from, n)...)
			}
		}
	}
}

func TestCardsRefuse(t *testing.T) {
	for _, from := range []int{math.MinInt, -1000000, -33, -8, -1, 1000001, 1000008, 1 << 32, math.MaxInt} {
		for _, n := range []int{1, 2, 8, 9, impl.PageWords} {
			wantCards(t, from, n)
		}
	}
	for _, n := range []int{math.MinInt, -8, -1, 0, impl.PageWords + 1, 64, 1 << 32, 1<<32 + 1, math.MaxInt} {
		for _, from := range []int{0, 1, 7, 8, 999999, 1000000} {
			wantCards(t, from, n)
		}
	}
	wantCards(t, -1, 0)
	wantCards(t, 1000001, impl.PageWords+1)
	wantCards(t, math.MaxInt, math.MaxInt)
	wantCards(t, math.MinInt, math.MinInt)
}

func TestCardsAreNewMemory(t *testing.T) {
	first := impl.CardsOf(4, 20)
	second := impl.CardsOf(4, 20)
	first = first[:cap(first)]
	for i := range first {
		first[i] = -7
	}
	if !slices.Equal(second, []int{0, 1, 2}) {
		t.Errorf("an answer changed with another one: %v", second)
	}
	wantCards(t, 4, 20, 0, 1, 2)
}
