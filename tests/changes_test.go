package tests

import (
	"math"
	"slices"
	"strconv"
	"testing"

	"loop.example/homeconsole/impl"
)

// changesAt makes changes in the given columns, with shifts that are all different.
func changesAt(columns ...int) []impl.Change {
	var list []impl.Change
	for k, column := range columns {
		list = append(list, impl.Change{Column: column, ShiftX: 30*k + 7, ShiftY: 240 - 29*k})
	}
	return list
}

func textOfChanges(list []impl.Change) string {
	text := "changes"
	for _, c := range list {
		text += " " + strconv.Itoa(c.Column) + ":" + strconv.Itoa(c.ShiftX) + "," + strconv.Itoa(c.ShiftY)
	}
	return text
}

// mixedChanges has n changes in a few columns, or in any, to a few shifts, so that some are those that hold already, or to any.
func mixedChanges(seed int, n int) []impl.Change {
	next := mixed(seed)
	few := []int{0, 1, 8, 64, 255}
	columns, first := []int{32, 4, 2, 6}[next(4)], []int{0, 0, 0, 26}[next(4)]
	onlyX, onlyY, anyShift := next(4) == 0, next(4) == 0, next(2) == 0
	shift := func() int {
		if anyShift {
			return next(256)
		}
		return few[next(len(few))]
	}
	list := make([]impl.Change, n)
	for k := range list {
		list[k].Column = min(first+next(columns), 31)
		if !onlyY {
			list[k].ShiftX = shift()
		}
		if !onlyX {
			list[k].ShiftY = shift()
		}
	}
	slices.SortStableFunc(list, func(a impl.Change, b impl.Change) int { return a.Column - b.Column })
	return list
}

// handChanges are the edge cases of the document.
func handChanges() [][]impl.Change {
	lists := [][]impl.Change{
		nil,
		{},
		{{}},
		{{Column: 31}},
		{{Column: 0, ShiftX: 255, ShiftY: 255}, {Column: 31, ShiftX: 255, ShiftY: 255}},
		{{Column: 0, ShiftX: 3}, {Column: 0, ShiftX: 5}, {Column: 0}},
		{{Column: 31, ShiftY: 3}, {Column: 31, ShiftY: 5}, {Column: 31}},
		{{Column: 9, ShiftX: 4}, {Column: 9, ShiftX: 0}, {Column: 20, ShiftY: 4}, {Column: 20, ShiftX: 4}},
		{{Column: 4, ShiftX: 64, ShiftY: 64}, {Column: 8, ShiftX: 128, ShiftY: 64}, {Column: 12, ShiftX: 128, ShiftY: 128}},
		{{Column: 1, ShiftX: 5, ShiftY: 9}, {Column: 2, ShiftX: 9, ShiftY: 5}, {Column: 3, ShiftX: 5, ShiftY: 9}},
		changesAt(0, 1, 2, 3, 4, 5, 6, 7),
		changesAt(24, 25, 26, 27, 28, 29, 30, 31),
		changesAt(0, 0, 0, 0, 31, 31, 31, 31),
		changesAt(0, 4, 8, 12, 16, 20, 24, 28),
	}
	for column := range 32 {
		lists = append(lists, changesAt(column), changesAt(slices.Repeat([]int{column}, 8)...))
	}
	return lists
}

// changeLists are the edge cases and mixed lists of every length.
func changeLists() [][]impl.Change {
	lists := handChanges()
	for n := 1; n <= 8; n++ {
		for seed := range 60 {
			lists = append(lists, mixedChanges(100*n+seed, n))
		}
	}
	return lists
}

// forChanges calls a check for valid changes, none of which may be changed, not even where they have spare capacity.
func forChanges(t *testing.T, check func(list []impl.Change)) {
	t.Helper()
	for _, some := range changeLists() {
		all := append(slices.Clone(some), changesAt(3, 31, 0)...)
		before := slices.Clone(all)
		check(all[:len(some)])
		if !slices.Equal(all, before) {
			t.Fatal("changed", textOfChanges(before), textOfChanges(all))
		}
	}
}

// goodChanges are those that are spoiled in one part to find out whether it is checked.
func goodChanges() [][]impl.Change {
	return [][]impl.Change{changesAt(0), changesAt(31), changesAt(5, 5), changesAt(3, 8, 20), changesAt(2, 2, 3, 9, 9, 9, 30, 31), mixedChanges(77, 8)}
}

// brokenChanges has lists with a column or a shift that is not one, in every place, with descending columns, and with too many changes.
func brokenChanges() map[string][]impl.Change {
	broken := map[string][]impl.Change{}
	put := func(name string, list []impl.Change) {
		broken[name+" of "+textOfChanges(list)] = list
	}
	for _, good := range goodChanges() {
		for place, c := range good {
			change := func(name string, other impl.Change) {
				list := slices.Clone(good)
				list[place] = other
				put(name+" at "+strconv.Itoa(place), list)
			}
			for _, bad := range notColumns {
				change("column", impl.Change{Column: bad, ShiftX: c.ShiftX, ShiftY: c.ShiftY})
			}
			for _, bad := range notShifts {
				change("across", impl.Change{Column: c.Column, ShiftX: bad, ShiftY: c.ShiftY})
				change("down", impl.Change{Column: c.Column, ShiftX: c.ShiftX, ShiftY: bad})
				change("both", impl.Change{Column: c.Column, ShiftX: bad, ShiftY: bad})
			}
		}
	}
	for _, columns := range [][]int{{1, 0}, {31, 30}, {31, 0}, {5, 4, 6}, {0, 31, 16}, {2, 9, 9, 8}, {7, 6, 5, 4, 3, 2, 1, 0}, {0, 1, 2, 3, 4, 5, 7, 6}, {1, 0, 2, 3, 4, 5, 6, 7}, {0, 1, 2, 4, 3, 5, 6, 7}} {
		put("descending", changesAt(columns...))
		put("descending without shifts", plainChanges(columns...))
	}
	for _, n := range []int{9, 10, 11, 16, 17, 24, 32, 255, 256, 257, 264, 1000} {
		put("same", slices.Repeat([]impl.Change{{Column: 7, ShiftX: 8, ShiftY: 9}}, n))
		put("zeros", make([]impl.Change, n))
	}
	put("nine columns", plainChanges(0, 1, 2, 3, 4, 5, 6, 7, 8))
	put("nine columns with the last one", plainChanges(0, 1, 2, 3, 4, 5, 6, 7, 31))
	return broken
}

// plainChanges are changes to no shift.
func plainChanges(columns ...int) []impl.Change {
	list := changesAt(columns...)
	for k := range list {
		list[k].ShiftX, list[k].ShiftY = 0, 0
	}
	return list
}

func checkChanges(t *testing.T, list []impl.Change, want bool) {
	t.Helper()
	if impl.ChangesValid(list) != want {
		t.Fatal("wanted", want, textOfChanges(list))
	}
}

func TestP71ListsInOrderAreValid(t *testing.T) {
	forChanges(t, func(list []impl.Change) {
		checkChanges(t, list, true)
	})
}

func TestP71OtherListsAreNot(t *testing.T) {
	for _, list := range brokenChanges() {
		before := slices.Clone(list)
		checkChanges(t, list, false)
		if !slices.Equal(list, before) {
			t.Fatal("changed", textOfChanges(before), textOfChanges(list))
		}
	}
}

// TestP71PartsOfValidChanges has every part between two places, and every choice of some of the changes.
func TestP71PartsOfValidChanges(t *testing.T) {
	forChanges(t, func(list []impl.Change) {
		for end := range len(list) + 1 {
			for start := range end + 1 {
				checkChanges(t, list[start:end], true)
			}
		}
		for chosen := range 1 << len(list) {
			var some []impl.Change
			for place, c := range list {
				if chosen>>place&1 == 1 {
					some = append(some, c)
				}
			}
			checkChanges(t, some, true)
		}
	})
}

// TestP71AChangeBehindTheLastOne is valid in the last column and in those to the right of it, and not before it, as long as there is room for it.
func TestP71AChangeBehindTheLastOne(t *testing.T) {
	forChanges(t, func(list []impl.Change) {
		if len(list) == 0 {
			return
		}
		last := list[len(list)-1]
		for column := range 32 {
			longer := append(slices.Clone(list), impl.Change{Column: column, ShiftX: last.ShiftX, ShiftY: last.ShiftY})
			checkChanges(t, longer, column >= last.Column && len(list) < 8)
		}
	})
}

// TestP71EveryThreeColumns has all columns in all orders, and all pairs of them at the end of a list of eight.
func TestP71EveryThreeColumns(t *testing.T) {
	for a := range 32 {
		for b := range 32 {
			checkChanges(t, changesAt(a, b), a <= b)
			checkChanges(t, append(changesAt(0, 0, 0, 0, 0, 0), changesAt(a, b)...), a <= b)
			for c := range 32 {
				checkChanges(t, changesAt(a, b, c), a <= b && b <= c)
			}
		}
	}
}

func TestP71EveryColumnAndShift(t *testing.T) {
	for n := -700; n <= 700; n++ {
		isColumn, isShift := n >= 0 && n <= 31, n >= 0 && n <= 255
		for _, first := range [][]impl.Change{nil, changesAt(0), changesAt(0, 0, 0, 0, 0, 0, 0)} {
			checkChanges(t, append(slices.Clone(first), impl.Change{Column: n}), isColumn)
			checkChanges(t, append(slices.Clone(first), impl.Change{Column: 9, ShiftX: n}), isShift)
			checkChanges(t, append(slices.Clone(first), impl.Change{Column: 9, ShiftY: n}), isShift)
			checkChanges(t, append(slices.Clone(first), impl.Change{Column: 9, ShiftX: n, ShiftY: 255 - n}), isShift)
			last := impl.Change{Column: 31, ShiftX: 2, ShiftY: 3}
			if len(first) < 7 {
				checkChanges(t, append(slices.Clone(first), impl.Change{Column: n}, last), isColumn)
				checkChanges(t, append(slices.Clone(first), impl.Change{Column: 9, ShiftX: n}, last), isShift)
				checkChanges(t, append(slices.Clone(first), impl.Change{Column: 9, ShiftY: n}, last), isShift)
			}
		}
	}
}

func TestP71EveryPairOfShifts(t *testing.T) {
	forBytePairs(func(x int, y int) {
		checkChanges(t, []impl.Change{{Column: 3, ShiftX: x, ShiftY: y}}, true)
		checkChanges(t, []impl.Change{{Column: 3, ShiftX: y, ShiftY: 5}, {Column: 3, ShiftX: x, ShiftY: y}}, true)
	})
}

func TestP71NumbersOfChanges(t *testing.T) {
	for n := range 300 {
		for _, c := range []impl.Change{{}, {Column: 31}, {Column: 12, ShiftX: 255, ShiftY: 255}} {
			checkChanges(t, slices.Repeat([]impl.Change{c}, n), n <= 8)
		}
	}
	checkChanges(t, nil, true)
	checkChanges(t, []impl.Change{}, true)
	// Spare capacity does not count, whatever is there.
	checkChanges(t, make([]impl.Change, 8, 100), true)
	checkChanges(t, []impl.Change{{}, {Column: math.MaxInt}}[:1], true)
}

func TestP71CallsDependOnTheirArgumentsAlone(t *testing.T) {
	for range 5 {
		checkChanges(t, changesAt(31), true)
		checkChanges(t, changesAt(0), true)
		checkChanges(t, changesAt(1, 0), false)
		checkChanges(t, changesAt(0, 1), true)
		checkChanges(t, changesAt(-1), false)
		checkChanges(t, nil, true)
	}
}
