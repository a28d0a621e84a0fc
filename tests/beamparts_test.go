package tests

import (
	"math"
	"slices"
	"testing"

	"loop.example/homeconsole/impl"
)

// startShifts are shifts with which lines begin: the edges, those of mixed changes, and others.
var startShifts = [][2]int{{0, 0}, {255, 255}, {0, 255}, {1, 0}, {8, 8}, {64, 1}, {7, 240}, {100, 31}}

// shiftsIn are the shifts in a column; in column -1 those with which the line begins. Written from the document.
func shiftsIn(column int, start [2]int, list []impl.Change) [2]int {
	for k := len(list) - 1; k >= 0; k-- {
		if list[k].Column <= column {
			return [2]int{list[k].ShiftX, list[k].ShiftY}
		}
	}
	return start
}

// partsOfLine is BeamParts, written from the document: it asks every column.
func partsOfLine(start [2]int, list []impl.Change) []int {
	var columns []int
	for column := range 32 {
		if shiftsIn(column, start, list) != shiftsIn(column-1, start, list) {
			columns = append(columns, column)
		}
	}
	return columns
}

func checkParts(t *testing.T, start [2]int, list []impl.Change, want []int) {
	t.Helper()
	if got := impl.BeamParts(start[0], start[1], list); !slices.Equal(got, want) {
		t.Fatal("start", start, textOfChanges(list), "wanted", want, "got", got)
	}
}

func TestP72ColumnsAscend(t *testing.T) {
	forChanges(t, func(list []impl.Change) {
		for _, start := range startShifts {
			parts := impl.BeamParts(start[0], start[1], list)
			for k, column := range parts {
				if k > 0 && parts[k-1] >= column {
					t.Fatal("not ascending", start, textOfChanges(list), parts)
				}
				if !slices.ContainsFunc(list, func(c impl.Change) bool { return c.Column == column }) {
					t.Fatal("no change at", column, start, textOfChanges(list), parts)
				}
			}
		}
	})
}

func TestP72PartsFollowTheRule(t *testing.T) {
	forChanges(t, func(list []impl.Change) {
		for _, start := range startShifts {
			checkParts(t, start, list, partsOfLine(start, list))
		}
	})
}

// TestP72EveryShortList has all lists of up to four changes in three columns to three shifts, with each of these shifts at the beginning.
func TestP72EveryShortList(t *testing.T) {
	columns, shifts := []int{0, 5, 31}, [][2]int{{0, 0}, {0, 9}, {9, 0}}
	var walk func(list []impl.Change)
	walk = func(list []impl.Change) {
		for _, start := range shifts {
			checkParts(t, start, list, partsOfLine(start, list))
		}
		if len(list) == 4 {
			return
		}
		for _, column := range columns {
			for _, s := range shifts {
				if len(list) == 0 || column >= list[len(list)-1].Column {
					walk(append(slices.Clone(list), impl.Change{Column: column, ShiftX: s[0], ShiftY: s[1]}))
				}
			}
		}
	}
	walk(nil)
}

// TestP72ChangesToTheShiftsThatHold puts a change to the shifts that hold behind every place: the columns stay as they are.
func TestP72ChangesToTheShiftsThatHold(t *testing.T) {
	forChanges(t, func(list []impl.Change) {
		if len(list) == 8 {
			return
		}
		for _, start := range startShifts {
			want := impl.BeamParts(start[0], start[1], list)
			for column := range 32 {
				held := shiftsIn(column, start, list)
				place, _ := slices.BinarySearchFunc(list, column+1, func(c impl.Change, n int) int { return c.Column - n })
				longer := slices.Insert(slices.Clone(list), place, impl.Change{Column: column, ShiftX: held[0], ShiftY: held[1]})
				checkParts(t, start, longer, want)
			}
		}
	})
}

// TestP72OnlyTheLastChangeOfAColumn puts another change into a column before the changes that are there: it does not count.
func TestP72OnlyTheLastChangeOfAColumn(t *testing.T) {
	forChanges(t, func(list []impl.Change) {
		if len(list) == 8 {
			return
		}
		for place, c := range list {
			for _, shifts := range startShifts {
				longer := slices.Insert(slices.Clone(list), place, impl.Change{Column: c.Column, ShiftX: shifts[0], ShiftY: shifts[1]})
				checkParts(t, [2]int{8, 64}, longer, impl.BeamParts(8, 64, list))
			}
		}
	})
}

// TestP72EveryTwoShifts has all shifts before and after a change, across, down and in both directions.
func TestP72EveryTwoShifts(t *testing.T) {
	forBytePairs(func(before int, after int) {
		var want []int
		if before != after {
			want = []int{6}
		}
		checkParts(t, [2]int{before, 3}, []impl.Change{{Column: 6, ShiftX: after, ShiftY: 3}}, want)
		checkParts(t, [2]int{3, before}, []impl.Change{{Column: 6, ShiftX: 3, ShiftY: after}}, want)
		checkParts(t, [2]int{before, after}, []impl.Change{{Column: 6, ShiftX: after, ShiftY: before}}, want)
		checkParts(t, [2]int{before, before}, []impl.Change{{Column: 6, ShiftX: after, ShiftY: after}}, want)
		checkParts(t, [2]int{before, after}, []impl.Change{{Column: 6, ShiftX: before, ShiftY: after}}, nil)
	})
}

// TestP72EveryTwoColumns has two changes in all columns, the second one back to the shifts at the beginning.
func TestP72EveryTwoColumns(t *testing.T) {
	for a := range 32 {
		for b := a; b < 32; b++ {
			want := []int{a, b}
			if a == b {
				want = nil
			}
			checkParts(t, [2]int{4, 0}, []impl.Change{{Column: a, ShiftX: 5}, {Column: b, ShiftX: 4}}, want)
			checkParts(t, [2]int{0, 4}, []impl.Change{{Column: a, ShiftY: 5}, {Column: b, ShiftY: 4}}, want)
			checkParts(t, [2]int{0, 4}, []impl.Change{{Column: a, ShiftY: 4}, {Column: b, ShiftY: 9}}, []int{b})
		}
	}
}

func TestP72PartsWorkedOutByHand(t *testing.T) {
	for _, c := range []struct {
		start [2]int
		list  []impl.Change
		want  []int
	}{
		{[2]int{0, 0}, nil, nil},
		{[2]int{255, 255}, []impl.Change{}, nil},
		{[2]int{0, 0}, []impl.Change{{Column: 4, ShiftX: 8}, {Column: 6, ShiftX: 8}, {Column: 9}}, []int{4, 9}},
		{[2]int{0, 0}, []impl.Change{{}}, nil},
		{[2]int{1, 0}, []impl.Change{{}}, []int{0}},
		{[2]int{0, 255}, []impl.Change{{}}, []int{0}},
		{[2]int{0, 0}, []impl.Change{{Column: 31, ShiftX: 255}}, []int{31}},
		{[2]int{0, 0}, []impl.Change{{Column: 31, ShiftY: 255}}, []int{31}},
		{[2]int{0, 0}, []impl.Change{{Column: 31, ShiftX: 255, ShiftY: 255}}, []int{31}},
		{[2]int{255, 255}, []impl.Change{{Column: 31, ShiftX: 255, ShiftY: 255}}, nil},
		{[2]int{0, 0}, []impl.Change{{Column: 4, ShiftX: 1}, {Column: 4, ShiftX: 2}, {Column: 4, ShiftX: 3}}, []int{4}},
		{[2]int{0, 0}, []impl.Change{{Column: 4, ShiftX: 1}, {Column: 4, ShiftX: 2}, {Column: 4}}, nil},
		{[2]int{3, 0}, []impl.Change{{Column: 4, ShiftX: 1}, {Column: 4, ShiftX: 2}, {Column: 4}}, []int{4}},
		{[2]int{3, 5}, []impl.Change{{Column: 0, ShiftX: 5, ShiftY: 3}, {Column: 1, ShiftX: 3, ShiftY: 5}, {Column: 1, ShiftX: 5, ShiftY: 3}, {Column: 2, ShiftX: 3, ShiftY: 5}}, []int{0, 2}},
		{[2]int{3, 5}, []impl.Change{{Column: 0, ShiftX: 4, ShiftY: 4}, {Column: 0, ShiftX: 3, ShiftY: 5}, {Column: 2, ShiftX: 4, ShiftY: 4}, {Column: 2, ShiftX: 4, ShiftY: 5}, {Column: 8, ShiftX: 4, ShiftY: 5}, {Column: 31, ShiftX: 3, ShiftY: 5}}, []int{2, 31}},
		// These shifts look the same on a table of one column and row, and are other shifts all the same.
		{[2]int{0, 0}, []impl.Change{{Column: 2, ShiftX: 8}, {Column: 3, ShiftX: 8, ShiftY: 8}, {Column: 4, ShiftX: 16, ShiftY: 8}}, []int{2, 3, 4}},
		{[2]int{0, 0}, []impl.Change{{Column: 5, ShiftX: 64, ShiftY: 64}, {Column: 6, ShiftX: 128, ShiftY: 128}, {Column: 7}}, []int{5, 6, 7}},
		{[2]int{0, 0}, []impl.Change{{Column: 1, ShiftX: 1}, {Column: 2, ShiftX: 2}, {Column: 3, ShiftX: 3}, {Column: 4, ShiftX: 4}, {Column: 5, ShiftX: 5}, {Column: 6, ShiftX: 6}, {Column: 7, ShiftX: 7}, {Column: 31, ShiftX: 8}}, []int{1, 2, 3, 4, 5, 6, 7, 31}},
		{[2]int{0, 0}, slices.Repeat([]impl.Change{{Column: 7, ShiftX: 1}}, 8), []int{7}},
		{[2]int{1, 0}, slices.Repeat([]impl.Change{{Column: 7, ShiftX: 1}}, 8), nil},
	} {
		checkParts(t, c.start, c.list, c.want)
	}
}

func TestP72OtherShiftsAtTheBeginning(t *testing.T) {
	forChanges(t, func(list []impl.Change) {
		for _, bad := range notShifts {
			for _, start := range [][2]int{{bad, 0}, {0, bad}, {255, bad}, {bad, 255}, {bad, bad}} {
				checkParts(t, start, list, nil)
			}
		}
	})
	for n := -600; n <= 600; n++ {
		var want []int
		if n >= 0 && n <= 255 {
			want = []int{9}
		}
		checkParts(t, [2]int{n, 4}, []impl.Change{{Column: 9, ShiftX: 7, ShiftY: 5}}, want)
		checkParts(t, [2]int{4, n}, []impl.Change{{Column: 9, ShiftX: 5, ShiftY: 7}}, want)
	}
}

func TestP72OtherChanges(t *testing.T) {
	for _, list := range brokenChanges() {
		before := slices.Clone(list)
		for _, start := range [][2]int{{0, 0}, {255, 255}, {9, 77}, {-1, 256}} {
			checkParts(t, start, list, nil)
		}
		if !slices.Equal(list, before) {
			t.Fatal("changed", textOfChanges(before), textOfChanges(list))
		}
	}
}

// TestP72ResultsAreNewMemory overwrites columns, and what an append to them could reach: neither the changes nor other columns may change.
func TestP72ResultsAreNewMemory(t *testing.T) {
	forChanges(t, func(list []impl.Change) {
		first, second := impl.BeamParts(9, 200, list), impl.BeamParts(9, 200, list)
		want := slices.Clone(second)
		spoilList(first)
		spoilList(append(first, 1, 2, 3))
		if !slices.Equal(second, want) {
			t.Fatal("other result", textOfChanges(list), want, second)
		}
		checkParts(t, [2]int{9, 200}, list, want)
	})
}

// TestP72ChangingTheListAfterwards: the columns stay what they were.
func TestP72ChangingTheListAfterwards(t *testing.T) {
	for _, list := range changeLists() {
		parts := impl.BeamParts(9, 200, list)
		want := partsOfLine([2]int{9, 200}, list)
		for k := range list {
			list[k] = impl.Change{Column: math.MinInt, ShiftX: -7, ShiftY: -7}
		}
		if !slices.Equal(parts, want) {
			t.Fatal(want, parts)
		}
	}
}

func TestP72CallsDependOnTheirArgumentsAlone(t *testing.T) {
	list := []impl.Change{{Column: 3, ShiftX: 9}, {Column: 8}}
	for range 5 {
		checkParts(t, [2]int{0, 0}, list, []int{3, 8})
		checkParts(t, [2]int{9, 0}, list, []int{8})
		checkParts(t, [2]int{0, 256}, list, nil)
		checkParts(t, [2]int{0, 0}, changesAt(1, 0), nil)
		checkParts(t, [2]int{0, 0}, nil, nil)
	}
}
