package impl

import "iter"

const PageWords = 32
const CardWords = 8
const Classes = 4
const MaxWords = 16

// maxFrom is the last word number that CardsOf accepts as a beginning.
const maxFrom = 1000000

type class int

const (
	class2 class = iota
	class4
	class8
	class16
)

// words is the size of a slot in words; 0 tells that c is no class.
func (c class) words() int {
	switch c {
	case class2:
		return 2
	case class4:
		return 4
	case class8:
		return 8
	case class16:
		return 16
	}
	return 0
}

func (c class) slots() int {
	size := c.words()
	if size == 0 {
		return 0
	}
	return PageWords / size
}

func ClassSize(c int) int { return class(c).words() }

func SlotsOf(c int) int { return class(c).slots() }

func ClassOf(n int) int {
	if n < 1 || n > MaxWords {
		return -1
	}
	for c := class2; c <= class16; c++ {
		if c.words() >= n {
			return int(c)
		}
	}
	return -1
}

func CardsOf(from int, n int) []int {
	if from < 0 || from > maxFrom || n < 1 || n > PageWords {
		return nil
	}
	var list []int
	for card := range cards(from, n) {
		list = append(list, card)
	}
	return list
}

// cards gives the cards of n words from word number from on, ascending; from
// is not below 0 and n is at least 1, so that the first card is not behind the last.
func cards(from int, n int) iter.Seq[int] {
	return func(yield func(int) bool) {
		last := (from + n - 1) / CardWords
		for card := from / CardWords; card <= last; card++ {
			if !yield(card) {
				return
			}
		}
	}
}
