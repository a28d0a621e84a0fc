package tests

import (
	"math"
	"slices"
	"testing"

	"loop.example/homeconsole/impl"
)

// mostStates is written from the document, not taken from the program.
const mostStates = 16

// notRings are numbers of states that are not kept together.
var notRings = []int{0, -1, -2, -3, -15, -16, -17, -255, -256, 17, 18, 31, 32, 33, 255, 256, 257, 256 + 16, 65536, 65536 + 5, 1 << 32, 1<<32 + 1, 1<<32 + 3, 1<<32 + 16, -(1 << 32), -(1 << 32) + 1, -(1 << 32) + 3, math.MaxInt, math.MaxInt - 1, math.MinInt, math.MinInt + 1}

// ringOf has n states with mixed bytes, of lengths that differ; every fifth one has no bytes.
func ringOf(seed int, n int) [][]int {
	next := mixed(seed)
	list := make([][]int, n)
	for number := range list {
		size := []int{1, 3, 40, 300, longestState}[next(5)]
		if number%5 != seed%5 {
			list[number] = stateOf(1000*seed+number, 1+next(size))
		}
	}
	return list
}

// forRings calls a check for valid states, none of which may be changed, not even where they or their list have spare capacity.
func forRings(t *testing.T, check func(list [][]int, state []int)) {
	t.Helper()
	guarded := func(some [][]int, further []int) {
		list := append(deepBanks(some), []int{1}, []int{-4})
		for number, state := range list {
			list[number] = append(state, 5, -5)
		}
		state := append(slices.Clone(further), 7, -7)
		before, beforeState := deepBanks(list), slices.Clone(state)
		cut := slices.Clone(list)
		for number, whole := range list {
			cut[number] = whole[:len(whole)-2]
		}
		check(cut[:len(some)], state[:len(further)])
		if !sameBanks(list, before) || !slices.Equal(state, beforeState) {
			t.Fatal("changed", before, list, beforeState, state)
		}
		for number, whole := range cut {
			if !slices.Equal(whole, before[number][:len(before[number])-2]) {
				t.Fatal("changed list", number)
			}
		}
	}
	for n := range mostStates + 1 {
		guarded(make([][]int, n), nil)
		guarded(slices.Repeat([][]int{{3, 4}}, n), []int{3, 4})
		guarded(slices.Repeat([][]int{stateOf(n, longestState)}, n), stateOf(n+1, longestState))
		for seed := range 8 {
			guarded(ringOf(20*n+seed, n), stateOf(seed, edgeSizes[(n+seed)%len(edgeSizes)]))
		}
	}
}

// keptOf is KeepState, written from the document: the first one is forgotten while there are more than can be kept.
func keptOf(list [][]int, state []int, size int) [][]int {
	all := append(slices.Clone(list), state)
	for len(all) > size {
		all = all[1:]
	}
	return all
}

func checkKept(t *testing.T, list [][]int, state []int, size int, want [][]int) {
	t.Helper()
	if got := impl.KeepState(list, state, size); !sameBanks(got, want) {
		t.Fatal(list, state, size, "wanted", want, "got", got)
	}
}

func checkNotKept(t *testing.T, list [][]int, state []int, size int) {
	t.Helper()
	before, beforeState := deepBanks(list), slices.Clone(state)
	if got := impl.KeepState(list, state, size); len(got) != 0 {
		t.Fatal("not valid, but got", len(got), len(list), state, size)
	}
	if !sameBanks(list, before) || !slices.Equal(state, beforeState) {
		t.Fatal("changed", before, list, beforeState, state)
	}
}

func TestP81KeptStatesFollowTheRule(t *testing.T) {
	forRings(t, func(list [][]int, state []int) {
		for size := 1; size <= mostStates; size++ {
			checkKept(t, list, state, size, keptOf(list, state, size))
		}
	})
}

// TestP81NewestStatesAreKept uses nothing but the promise, and that nothing is forgotten before there are too many.
func TestP81NewestStatesAreKept(t *testing.T) {
	forRings(t, func(list [][]int, state []int) {
		for size := 1; size <= mostStates; size++ {
			kept := impl.KeepState(list, state, size)
			if len(kept) == 0 || len(kept) > size || len(kept) < size && len(kept) != len(list)+1 {
				t.Fatal("number of states", len(list), size, len(kept))
			}
			earlier := kept[:len(kept)-1]
			if !slices.Equal(kept[len(kept)-1], state) || !sameBanks(earlier, list[len(list)-len(earlier):]) {
				t.Fatal(list, state, size, kept)
			}
		}
	})
}

// TestP81RingsTurn keeps one state after the other in the ring that was returned before.
func TestP81RingsTurn(t *testing.T) {
	for size := 1; size <= mostStates; size++ {
		var ring, all [][]int
		for count := range 40 {
			state := stateOf(count, (7*count)%20)
			ring = impl.KeepState(ring, state, size)
			all = append(all, state)
			if !sameBanks(ring, all[max(0, len(all)-size):]) {
				t.Fatal(size, count, ring)
			}
		}
	}
}

// TestP81RingsMayShrink: a list may have more states than the size.
func TestP81RingsMayShrink(t *testing.T) {
	var list [][]int
	for n := range mostStates {
		list = append(list, []int{n})
	}
	for size := 1; size <= mostStates; size++ {
		kept := impl.KeepState(list, []int{99}, size)
		if len(kept) != size || !slices.Equal(kept[0], keptOf(list, []int{99}, size)[0]) {
			t.Fatal(size, kept)
		}
		for number, state := range kept[:size-1] {
			if !slices.Equal(state, []int{17 - size + number}) {
				t.Fatal(size, number, state)
			}
		}
	}
}

func TestP81StatesWorkedOutByHand(t *testing.T) {
	three := [][]int{{1}, {2, 2}, {3, 3, 3}}
	for _, c := range []struct {
		list  [][]int
		state []int
		size  int
		want  [][]int
	}{
		{nil, nil, 1, [][]int{nil}},
		{nil, nil, 16, [][]int{{}}},
		{nil, []int{5, 6}, 1, [][]int{{5, 6}}},
		{nil, []int{5, 6}, 16, [][]int{{5, 6}}},
		{[][]int{nil}, nil, 1, [][]int{nil}},
		{[][]int{nil}, nil, 2, [][]int{nil, nil}},
		{[][]int{nil}, []int{0}, 2, [][]int{nil, {0}}},
		{[][]int{{1}, {2}}, []int{3}, 2, [][]int{{2}, {3}}},
		{three, []int{4}, 1, [][]int{{4}}},
		{three, []int{4}, 2, [][]int{{3, 3, 3}, {4}}},
		{three, []int{4}, 3, [][]int{{2, 2}, {3, 3, 3}, {4}}},
		{three, []int{4}, 4, [][]int{{1}, {2, 2}, {3, 3, 3}, {4}}},
		{three, []int{4}, 5, [][]int{{1}, {2, 2}, {3, 3, 3}, {4}}},
		{three, []int{4}, 16, [][]int{{1}, {2, 2}, {3, 3, 3}, {4}}},
		{three, nil, 2, [][]int{{3, 3, 3}, nil}},
	} {
		checkKept(t, c.list, c.state, c.size, c.want)
	}
	full := slices.Repeat([][]int{{8}}, 15)
	checkKept(t, full, []int{9}, 16, append(slices.Clone(full), []int{9}))
	checkKept(t, append([][]int{{7}}, full...), []int{9}, 16, append(slices.Clone(full), []int{9}))
}

func TestP81OtherSizes(t *testing.T) {
	forRings(t, func(list [][]int, state []int) {
		for _, size := range notRings {
			checkNotKept(t, list, state, size)
		}
	})
	for size := -300; size <= 300; size++ {
		if got := len(impl.KeepState(nil, []int{1}, size)); got != digit(size >= 1 && size <= mostStates) {
			t.Fatal(size, got)
		}
		got := len(impl.KeepState(make([][]int, mostStates), nil, size))
		if got != size*digit(size >= 1 && size <= mostStates) {
			t.Fatal(size, got)
		}
	}
}

func TestP81TooManyStates(t *testing.T) {
	for n := range 100 {
		for size := 1; size <= mostStates; size++ {
			want := digit(n <= mostStates) * min(size, n+1)
			if got := len(impl.KeepState(make([][]int, n), []int{4}, size)); got != want {
				t.Fatal(n, size, got)
			}
		}
	}
	for _, n := range []int{17, 18, 32, 255, 256, 257, 272, 1000, 65536, 65536 + 3} {
		for _, size := range []int{1, 2, 15, 16} {
			checkNotKept(t, make([][]int, n), nil, size)
			checkNotKept(t, slices.Repeat([][]int{{3}}, n), []int{4}, size)
		}
	}
}

// TestP81OtherStatesInTheList has them at each place of lists of each length, also where they would be forgotten.
func TestP81OtherStatesInTheList(t *testing.T) {
	others := [][]int{make([]int, 513), stateOf(1, 514), stateOf(2, 1024)}
	for _, bad := range notBytes {
		others = append(others, []int{bad}, []int{bad, 1, 2}, []int{1, bad, 2}, []int{1, 2, bad})
	}
	for n := 1; n <= mostStates; n++ {
		list := slices.Repeat([][]int{{3, 4, 5}}, n)
		for place := range list {
			for _, other := range others {
				list[place] = other
				for _, size := range []int{1, 2, n, 16} {
					checkNotKept(t, list, []int{3}, size)
				}
				checkNotKept(t, list, other, 16)
			}
			list[place] = nil
		}
	}
	forSpoiledStates(func(list []int, place int, bad int) {
		checkNotKept(t, [][]int{{1}, list, {2}}, []int{3}, 1)
		checkNotKept(t, [][]int{{1}, list, {2}}, []int{3}, 4)
		checkNotKept(t, [][]int{list}, nil, 16)
	})
}

func TestP81OtherFurtherStates(t *testing.T) {
	forSpoiledStates(func(list []int, place int, bad int) {
		for _, size := range []int{1, 2, 3, 16} {
			checkNotKept(t, nil, list, size)
			checkNotKept(t, [][]int{{1}, {2}}, list, size)
		}
	})
	for _, n := range notSizes {
		for size := 1; size <= mostStates; size++ {
			checkNotKept(t, nil, make([]int, n), size)
			checkNotKept(t, [][]int{{1}, {2}}, stateOf(n, n), size)
		}
	}
	for n := range 1500 {
		if got := len(impl.KeepState(nil, make([]int, n), 3)); got != digit(n <= longestState) {
			t.Fatal("further", n, got)
		}
		if got := len(impl.KeepState([][]int{make([]int, n)}, nil, 3)); got != 2*digit(n <= longestState) {
			t.Fatal("before", n, got)
		}
	}
	for n := -1000; n <= 1500; n++ {
		if got := len(impl.KeepState(nil, []int{1, n, 3}, 3)); got != digit(isByte(n)) {
			t.Fatal("further", n, got)
		}
		if got := len(impl.KeepState([][]int{{n}}, nil, 3)); got != 2*digit(isByte(n)) {
			t.Fatal("before", n, got)
		}
	}
}

// spoilStates overwrites states, their list, and what appends to them could reach.
func spoilStates(list [][]int) {
	list = list[:cap(list)]
	for number := range list {
		spoilList(list[number])
		list[number] = []int{-7}
	}
}

func TestP81KeptStatesAreNewMemory(t *testing.T) {
	forRings(t, func(list [][]int, state []int) {
		for _, size := range []int{1, 2, 3, 15, 16} {
			want := keptOf(deepBanks(list), slices.Clone(state), size)
			first, second := impl.KeepState(list, state, size), impl.KeepState(list, state, size)
			for number := range first {
				spoilList(first[number])
				spoilList(append(first[number], 1, 2, 3))
				if !sameBanks(first[number+1:], want[number+1:]) {
					t.Fatal("other states", size, number, first)
				}
			}
			spoilStates(first)
			spoilStates(append(first, []int{1}))
			if !sameBanks(second, want) {
				t.Fatal("other result", size, second)
			}
			own, ownState := deepBanks(list), slices.Clone(state)
			got := impl.KeepState(own, ownState, size)
			spoilStates(own)
			spoilList(ownState)
			if !sameBanks(got, want) {
				t.Fatal("changed with the arguments", size, got)
			}
		}
	})
}

// TestP81OneStateSeveralTimes: the states of an argument may be one list, or parts of one, those of a result may not.
func TestP81OneStateSeveralTimes(t *testing.T) {
	all := stateOf(4, 20)
	before := slices.Clone(all)
	for n := range mostStates + 1 {
		list := make([][]int, n)
		for number := range list {
			list[number] = all[number%3 : 10]
		}
		for size := 1; size <= mostStates; size++ {
			want := deepBanks(keptOf(list, all[:10], size))
			got := impl.KeepState(list, all[:10], size)
			for number := range got {
				if !sameBanks(got[number:], want[number:]) {
					t.Fatal(n, size, number, got)
				}
				spoilList(got[number])
			}
			if !slices.Equal(all, before) {
				t.Fatal("changed", all)
			}
		}
	}
}

func TestP81CallsDependOnTheirArgumentsAlone(t *testing.T) {
	list := [][]int{{1}, {2}, {3}}
	for range 5 {
		checkKept(t, list, []int{4}, 3, [][]int{{2}, {3}, {4}})
		checkNotKept(t, list, []int{4}, 17)
		checkKept(t, nil, []int{4}, 3, [][]int{{4}})
		checkNotKept(t, list, []int{-4}, 3)
		checkKept(t, list, []int{4}, 1, [][]int{{4}})
	}
}

// checkRingOfTwo uses nothing but the promise P130.
func checkRingOfTwo(t *testing.T, a []int, b []int, c []int) {
	t.Helper()
	ring := impl.KeepState(nil, a, 2)
	ring = impl.KeepState(ring, b, 2)
	ring = impl.KeepState(ring, c, 2)
	if !sameBanks(ring, [][]int{b, c}) {
		t.Fatal(a, b, c, ring)
	}
}

func TestP130RingsForgetInOrder(t *testing.T) {
	checkRingOfTwo(t, []int{1}, []int{2}, []int{3})
	checkRingOfTwo(t, []int{3}, []int{2}, []int{1})
	checkRingOfTwo(t, nil, nil, nil)
	checkRingOfTwo(t, []int{1}, nil, []int{1, 1})
	checkRingOfTwo(t, nil, []int{5}, nil)
	checkRingOfTwo(t, []int{9}, []int{9}, []int{9})
	for _, n := range edgeSizes {
		for _, m := range edgeSizes {
			checkRingOfTwo(t, stateOf(1, n), stateOf(2, m), stateOf(3, 512-n))
			checkRingOfTwo(t, stateOf(1, m), stateOf(1, n), stateOf(1, n))
		}
	}
}

// TestP130EveryStep looks at the ring before it is full, too.
func TestP130EveryStep(t *testing.T) {
	states := [][]int{{1, 1}, {2}, {3, 3, 3}, nil, {5}}
	wants := [][][]int{
		{{1, 1}},
		{{1, 1}, {2}},
		{{2}, {3, 3, 3}},
		{{3, 3, 3}, nil},
		{nil, {5}},
	}
	var ring [][]int
	for step, state := range states {
		ring = impl.KeepState(ring, state, 2)
		if !sameBanks(ring, wants[step]) {
			t.Fatal(step, ring)
		}
	}
}

// TestP130LargerRings: the same holds for rings of every size, whose first states are forgotten one after the other.
func TestP130LargerRings(t *testing.T) {
	for size := 1; size <= mostStates; size++ {
		for more := 1; more <= 5; more++ {
			var ring, last [][]int
			for number := range size + more {
				state := stateOf(number, 1+number)
				ring = impl.KeepState(ring, state, size)
				if number >= more {
					last = append(last, state)
				}
			}
			if !sameBanks(ring, last) {
				t.Fatal(size, more, ring, last)
			}
		}
	}
}

// TestP130InvalidStatesAreNotKept: what is no state leads to nothing, and the ring of before is as it was.
func TestP130InvalidStatesAreNotKept(t *testing.T) {
	ring := impl.KeepState(impl.KeepState(nil, []int{1}, 2), []int{2}, 2)
	for _, bad := range notBytes {
		checkNotKept(t, ring, []int{bad}, 2)
		checkNotKept(t, ring, []int{3, bad}, 2)
	}
	for _, size := range notRings {
		checkNotKept(t, ring, []int{3}, size)
	}
	checkNotKept(t, ring, make([]int, 513), 2)
	checkKept(t, ring, []int{3}, 2, [][]int{{2}, {3}})
}
