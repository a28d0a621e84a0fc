package tests

import (
	"slices"
	"testing"

	"loop.example/homeconsole/impl"
)

// historyOf has states of n bytes that follow each other, each with some bytes changed; a few are like the one before.
func historyOf(seed int, n int, length int) [][]int {
	next := mixed(seed)
	list := [][]int{stateOf(seed, n)}
	for len(list) < length {
		often := next(12)
		list = append(list, changedState(list[len(list)-1], next(1000), func(int) bool { return next(11) < often }))
	}
	return list
}

// forHistories calls a check for some states of equal length.
func forHistories(check func(states [][]int)) {
	for _, n := range edgeSizes {
		for length := 1; length <= 17; length++ {
			check(historyOf(n+length, n, length))
		}
		var states [][]int
		for seed, chosen := range choices(n) {
			states = append(states, changedState(stateOf(n, n), seed, chosen))
		}
		check(states)
		check(slices.Repeat([][]int{stateOf(n, n)}, 5))
		for seed, chosen := range choices(n) {
			first, second := stateOf(n, n), changedState(stateOf(n, n), seed, chosen)
			check([][]int{first, second})
			check([][]int{first, second, first, second, second, first})
		}
	}
}

// backwards returns, for every state but the first one, the patches to the one before it.
func backwards(states [][]int) [][]impl.Patch {
	var kept [][]impl.Patch
	for number := 1; number < len(states); number++ {
		kept = append(kept, impl.DiffStates(states[number], states[number-1]))
	}
	return kept
}

// checkRewinds uses nothing but the promise P129; on its way it meets every state.
func checkRewinds(t *testing.T, states [][]int) {
	t.Helper()
	kept := backwards(states)
	state := states[len(states)-1]
	for number, list := range slices.Backward(kept) {
		before, ok := impl.PatchState(state, list)
		if !ok || !slices.Equal(before, states[number]) {
			t.Fatal(number, state, list, "wanted", states[number], "got", before, ok)
		}
		state = before
	}
	if !slices.Equal(state, states[0]) {
		t.Fatal("first", states[0], state)
	}
}

func TestP129KeptDifferencesRewind(t *testing.T) {
	forHistories(func(states [][]int) { checkRewinds(t, states) })
}

// TestP129AllTogether: the patches may be kept by someone who overwrites the states.
func TestP129AllTogether(t *testing.T) {
	forHistories(func(states [][]int) {
		own := deepBanks(states)
		kept := backwards(own)
		state := slices.Clone(own[len(own)-1])
		spoilStates(own)
		for _, list := range slices.Backward(kept) {
			state, _ = impl.PatchState(state, list)
			spoilPatches(list)
		}
		if !slices.Equal(state, states[0]) {
			t.Fatal(states[0], state)
		}
	})
}

// TestP129Forwards: the differences to the following states lead to the last one.
func TestP129Forwards(t *testing.T) {
	forHistories(func(states [][]int) {
		slices.Reverse(states)
		checkRewinds(t, states)
	})
}

func TestP129RewindingWorkedOutByHand(t *testing.T) {
	states := [][]int{{1, 2, 3, 4}, {1, 2, 9, 9}, {1, 2, 9, 9}, {5, 2, 9, 8}}
	want := [][]impl.Patch{
		{{Skip: 2, Data: []int{3, 4}}},
		nil,
		{{Data: []int{1}}, {Skip: 2, Data: []int{9}}},
	}
	for number, list := range backwards(states) {
		if !samePatches(list, want[number]) {
			t.Fatal(number, list)
		}
	}
	checkRewinds(t, states)
	checkRewinds(t, [][]int{nil})
	checkRewinds(t, [][]int{nil, nil, nil})
	checkRewinds(t, [][]int{{1}})
}

// TestP129EveryChangeOfOnePlace goes through all places, one after the other.
func TestP129EveryChangeOfOnePlace(t *testing.T) {
	for _, n := range []int{1, 2, 3, 64, 512} {
		states := [][]int{stateOf(n, n)}
		for changed := range n {
			states = append(states, changedState(states[changed], changed, func(place int) bool { return place == changed }))
		}
		checkRewinds(t, states)
		for number, list := range backwards(states) {
			if len(list) != 1 || list[0].Skip != number || !slices.Equal(list[0].Data, states[number][number:number+1]) {
				t.Fatal(n, number, list)
			}
		}
	}
}

// TestP129RewindingFromARing: the states that a ring keeps are enough to rewind as far as it goes.
func TestP129RewindingFromARing(t *testing.T) {
	for size := 1; size <= mostStates; size++ {
		states := historyOf(size, 100, 40)
		var ring [][]int
		for number, state := range states {
			ring = impl.KeepState(ring, state, size)
			first := max(0, number+1-size)
			if !slices.Equal(ring[0], states[first]) {
				t.Fatal("first", size, number)
			}
			checkRewinds(t, ring)
		}
	}
}

// TestP129OtherLengthsLeadNowhere: between states of different lengths there are no differences, so the state stays as it is.
func TestP129OtherLengthsLeadNowhere(t *testing.T) {
	for _, n := range edgeSizes {
		for _, m := range edgeSizes {
			if n == m {
				continue
			}
			last := stateOf(1, n)
			list := impl.DiffStates(last, stateOf(2, m))
			if after, ok := impl.PatchState(last, list); len(list) != 0 || !ok || !slices.Equal(after, last) {
				t.Fatal(n, m, list, after, ok)
			}
		}
	}
	for _, bad := range notBytes {
		if list := impl.DiffStates([]int{1, 2}, []int{1, bad}); len(list) != 0 {
			t.Fatal(bad, list)
		}
		if after, ok := impl.PatchState([]int{1, bad}, []impl.Patch{{Skip: 1, Data: []int{2}}}); ok || len(after) != 0 {
			t.Fatal(bad, after, ok)
		}
	}
}
