package tests

import (
	"math"
	"slices"
	"testing"

	"loop.example/homeconsole/impl"
)

// longestState is written from the document, not taken from the program.
const longestState = 512

// stateOf has mixed bytes.
func stateOf(seed int, n int) []int {
	next := mixed(seed)
	list := make([]int, n)
	for place := range list {
		list[place] = next(256)
	}
	return list
}

// changedState has another byte at the chosen places, and the same bytes at all others.
func changedState(a []int, seed int, chosen func(place int) bool) []int {
	next := mixed(seed)
	b := slices.Clone(a)
	for place := range b {
		if chosen(place) {
			b[place] = (b[place] + 1 + next(255)) % 256
		}
	}
	return b
}

// statePair has two states of equal length.
type statePair struct {
	a []int
	b []int
}

// choices are the places that the document names, and runs between them.
func choices(n int) []func(place int) bool {
	return []func(place int) bool{
		func(place int) bool { return false },
		func(place int) bool { return true },
		func(place int) bool { return place == 0 },
		func(place int) bool { return place == n-1 },
		func(place int) bool { return place == 0 || place == n-1 },
		func(place int) bool { return place != 0 },
		func(place int) bool { return place != n-1 },
		func(place int) bool { return place != 0 && place != n-1 },
		func(place int) bool { return place == 1 },
		func(place int) bool { return place == n-2 },
		func(place int) bool { return place == n/2 },
		func(place int) bool { return place != n/2 },
		func(place int) bool { return place%2 == 0 },
		func(place int) bool { return place%2 == 1 },
		func(place int) bool { return place%3 == 0 },
		func(place int) bool { return place%3 != 0 },
		func(place int) bool { return place%7 < 4 },
		func(place int) bool { return place < n/2 },
		func(place int) bool { return place >= n/2 },
		func(place int) bool { return place >= n/3 && place < n-n/3 },
	}
}

// edgeSizes are numbers of bytes of a state.
var edgeSizes = []int{0, 1, 2, 3, 4, 5, 8, 17, 64, 255, 256, 257, 300, 510, 511, 512}

// statePairs are the edge cases of the document, and mixed ones: some with few differences, some with many.
func statePairs() []statePair {
	var pairs []statePair
	for _, n := range edgeSizes {
		a := stateOf(n, n)
		for seed, chosen := range choices(n) {
			pairs = append(pairs, statePair{a, changedState(a, seed, chosen)})
		}
		pairs = append(pairs, statePair{make([]int, n), slices.Repeat([]int{255}, n)}, statePair{a, stateOf(n+7, n)})
	}
	for seed := range 300 {
		next := mixed(seed)
		a := stateOf(seed, next(longestState+1))
		often := 1 + next(20)
		pairs = append(pairs, statePair{a, changedState(a, seed, func(int) bool { return next(20) < often })})
	}
	return pairs
}

// forStatePairs calls a check for two states, none of which may be changed, not even where it has spare capacity.
func forStatePairs(t *testing.T, check func(a []int, b []int)) {
	t.Helper()
	for _, p := range statePairs() {
		a, b := append(slices.Clone(p.a), 9, -9, 300), append(slices.Clone(p.b), 8, -8, 400)
		beforeA, beforeB := slices.Clone(a), slices.Clone(b)
		check(a[:len(p.a)], b[:len(p.b)])
		if !slices.Equal(a, beforeA) || !slices.Equal(b, beforeB) {
			t.Fatal("changed", beforeA, a, beforeB, b)
		}
	}
}

func samePatch(a impl.Patch, b impl.Patch) bool {
	return a.Skip == b.Skip && slices.Equal(a.Data, b.Data)
}

func samePatches(a []impl.Patch, b []impl.Patch) bool {
	return slices.EqualFunc(a, b, samePatch)
}

// patchesOf is DiffStates, written from the document: it goes place by place, and a place belongs to the run before it if that one ends there.
func patchesOf(a []int, b []int) []impl.Patch {
	var list []impl.Patch
	end := 0
	for place := range a {
		if a[place] == b[place] {
			continue
		}
		if place > end || list == nil {
			list = append(list, impl.Patch{Skip: place - end})
		}
		last := &list[len(list)-1]
		last.Data = append(last.Data, b[place])
		end = place + 1
	}
	return list
}

func checkDifferences(t *testing.T, a []int, b []int, want []impl.Patch) {
	t.Helper()
	if got := impl.DiffStates(a, b); !samePatches(got, want) {
		t.Fatal(a, b, "wanted", want, "got", got)
	}
}

func checkNoDifferences(t *testing.T, a []int, b []int) {
	t.Helper()
	beforeA, beforeB := slices.Clone(a), slices.Clone(b)
	if got := impl.DiffStates(a, b); len(got) != 0 {
		t.Fatal("not valid, but got", got, len(a), len(b), a, b)
	}
	if !slices.Equal(a, beforeA) || !slices.Equal(b, beforeB) {
		t.Fatal("changed", beforeA, a, beforeB, b)
	}
}

// checkLeads uses nothing but the promise P8.
func checkLeads(t *testing.T, a []int, b []int) {
	t.Helper()
	list := impl.DiffStates(a, b)
	for _, p := range list {
		if len(p.Data) == 0 {
			t.Fatal("without data", a, b, list)
		}
	}
	if (len(list) == 0) != slices.Equal(a, b) {
		t.Fatal("number of patches", a, b, list)
	}
	if after, ok := impl.PatchState(a, list); !ok || !slices.Equal(after, b) {
		t.Fatal(a, b, list, after, ok)
	}
}

func checkBothStates(t *testing.T, a []int, b []int) {
	t.Helper()
	checkDifferences(t, a, b, patchesOf(a, b))
	checkLeads(t, a, b)
}

func TestP8DifferencesLeadToTheOtherState(t *testing.T) {
	forStatePairs(t, func(a []int, b []int) { checkLeads(t, a, b) })
}

func TestP8PatchesFollowTheRule(t *testing.T) {
	forStatePairs(t, func(a []int, b []int) { checkDifferences(t, a, b, patchesOf(a, b)) })
}

// forShortStates calls a check for all lists of n numbers of three bytes.
func forShortStates(n int, check func(a []int)) {
	values := []int{0, 7, 255}
	list := make([]int, n)
	var fill func(place int)
	fill = func(place int) {
		if place == n {
			check(slices.Clone(list))
			return
		}
		for _, value := range values {
			list[place] = value
			fill(place + 1)
		}
	}
	fill(0)
}

func TestP8AllShortStates(t *testing.T) {
	for n := range 6 {
		forShortStates(n, func(a []int) {
			forShortStates(n, func(b []int) { checkBothStates(t, a, b) })
		})
	}
}

// TestP8EveryChoiceOfPlaces has every choice of the places at which states differ.
func TestP8EveryChoiceOfPlaces(t *testing.T) {
	for n := range 14 {
		a := stateOf(n, n)
		for chosen := range 1 << n {
			checkBothStates(t, a, changedState(a, chosen, func(place int) bool { return chosen>>place&1 == 1 }))
		}
	}
}

func TestP8EveryTwoBytes(t *testing.T) {
	forBytePairs(func(x int, y int) {
		checkBothStates(t, []int{x}, []int{y})
		checkBothStates(t, []int{5, x, x}, []int{5, y, x})
		checkBothStates(t, []int{x, y, x, 9}, []int{y, x, x, 9})
	})
}

func TestP8EverySize(t *testing.T) {
	for n := range longestState + 1 {
		a := stateOf(n, n)
		for seed, chosen := range choices(n) {
			checkBothStates(t, a, changedState(a, seed, chosen))
		}
	}
}

// TestP8EveryRun has one run of places, or two, which may touch; in the longest states one.
func TestP8EveryRun(t *testing.T) {
	a := stateOf(1, 24)
	for first := range 25 {
		for behind := first; behind <= 24; behind++ {
			for second := behind; second <= 24; second++ {
				for end := second; end <= 24; end += 3 {
					checkBothStates(t, a, changedState(a, end, func(place int) bool {
						return place >= first && place < behind || place >= second && place < end
					}))
				}
			}
		}
	}
	a = stateOf(2, longestState)
	for first := range longestState {
		for behind := first + 1; behind <= longestState; behind++ {
			checkBothStates(t, a, changedState(a, behind, func(place int) bool { return place >= first && place < behind }))
		}
	}
}

// TestP8PatchesAreLongestRuns: before, in and behind a patch the states are what the document says, for each place.
func TestP8PatchesAreLongestRuns(t *testing.T) {
	forStatePairs(t, func(a []int, b []int) {
		place := 0
		for number, p := range impl.DiffStates(a, b) {
			if p.Skip == 0 && number > 0 {
				t.Fatal("not the longest run", a, b, number)
			}
			for range p.Skip {
				if a[place] != b[place] {
					t.Fatal("skipped", a, b, number, place)
				}
				place++
			}
			for _, value := range p.Data {
				if a[place] == b[place] || value != b[place] {
					t.Fatal("data", a, b, number, place)
				}
				place++
			}
		}
		if !slices.Equal(a[place:], b[place:]) {
			t.Fatal("differences behind the last patch", a, b, place)
		}
	})
}

func TestP8DifferencesWorkedOutByHand(t *testing.T) {
	for _, c := range []struct {
		a    []int
		b    []int
		want []impl.Patch
	}{
		{nil, nil, nil},
		{[]int{}, nil, nil},
		{[]int{0}, []int{0}, nil},
		{[]int{0}, []int{1}, []impl.Patch{{Data: []int{1}}}},
		{[]int{255}, []int{0}, []impl.Patch{{Data: []int{0}}}},
		{[]int{4, 4, 4}, []int{4, 4, 4}, nil},
		{[]int{4, 4, 4}, []int{5, 4, 4}, []impl.Patch{{Data: []int{5}}}},
		{[]int{4, 4, 4}, []int{4, 5, 4}, []impl.Patch{{Skip: 1, Data: []int{5}}}},
		{[]int{4, 4, 4}, []int{4, 4, 5}, []impl.Patch{{Skip: 2, Data: []int{5}}}},
		{[]int{4, 4, 4}, []int{5, 4, 6}, []impl.Patch{{Data: []int{5}}, {Skip: 1, Data: []int{6}}}},
		{[]int{4, 4, 4}, []int{5, 6, 7}, []impl.Patch{{Data: []int{5, 6, 7}}}},
		{[]int{1, 2, 3, 4, 5}, []int{1, 9, 9, 4, 6}, []impl.Patch{{Skip: 1, Data: []int{9, 9}}, {Skip: 1, Data: []int{6}}}},
		{[]int{0, 0, 0, 0, 0, 0}, []int{1, 0, 2, 0, 3, 0}, []impl.Patch{{Data: []int{1}}, {Skip: 1, Data: []int{2}}, {Skip: 1, Data: []int{3}}}},
		{[]int{0, 0, 0, 0, 0, 0}, []int{0, 1, 0, 2, 0, 3}, []impl.Patch{{Skip: 1, Data: []int{1}}, {Skip: 1, Data: []int{2}}, {Skip: 1, Data: []int{3}}}},
		{[]int{3, 1, 4, 1, 5, 9, 2, 6}, []int{3, 1, 4, 2, 6, 9, 3, 7}, []impl.Patch{{Skip: 3, Data: []int{2, 6}}, {Skip: 1, Data: []int{3, 7}}}},
	} {
		checkDifferences(t, c.a, c.b, c.want)
		checkLeads(t, c.a, c.b)
	}
	a := make([]int, 512)
	b := make([]int, 512)
	b[511] = 200
	checkDifferences(t, a, b, []impl.Patch{{Skip: 511, Data: []int{200}}})
	checkDifferences(t, b, a, []impl.Patch{{Skip: 511, Data: []int{0}}})
	b[0] = 100
	checkDifferences(t, a, b, []impl.Patch{{Data: []int{100}}, {Skip: 510, Data: []int{200}}})
	checkDifferences(t, a, a, nil)
	checkDifferences(t, slices.Repeat([]int{1}, 512), slices.Repeat([]int{2}, 512), []impl.Patch{{Data: slices.Repeat([]int{2}, 512)}})
}

// notSizes are numbers of bytes that no state has.
var notSizes = []int{513, 514, 515, 520, 600, 768, 1000, 1023, 1024, 1025, 2000, 65536, 65536 + 5}

func TestP8UnequalLengths(t *testing.T) {
	for n := range 20 {
		for m := range 20 {
			if m != n {
				checkNoDifferences(t, make([]int, n), slices.Repeat([]int{1}, m))
				checkNoDifferences(t, make([]int, n), make([]int, m))
			}
		}
	}
	for _, n := range slices.Concat(edgeSizes, notSizes) {
		for _, m := range slices.Concat(edgeSizes, notSizes) {
			if m != n {
				checkNoDifferences(t, stateOf(1, n), stateOf(1, m))
				checkNoDifferences(t, stateOf(1, n), stateOf(2, m))
			}
		}
	}
}

func TestP8TooManyNumbers(t *testing.T) {
	for _, n := range notSizes {
		a := stateOf(n, n)
		for seed, chosen := range choices(n) {
			checkNoDifferences(t, a, changedState(a, seed, chosen))
		}
		checkNoDifferences(t, a, nil)
		checkNoDifferences(t, nil, a)
	}
	for n := range 1500 {
		got := impl.DiffStates(make([]int, n), slices.Repeat([]int{1}, n))
		if len(got) != digit(n >= 1 && n <= longestState) {
			t.Fatal(n, len(got))
		}
	}
}

// forSpoiledStates calls a check for lists that have one number that is no byte: at each place of short ones, at some of others.
func forSpoiledStates(check func(list []int, place int, bad int)) {
	for _, n := range edgeSizes {
		list := stateOf(n, n)
		for _, place := range within(n-1, 0, 1, 2, 3, 4, n/2, 255, 256, n-2, n-1) {
			for _, bad := range notBytes {
				list[place] = bad
				check(list, place, bad)
			}
			list[place] = 77
		}
	}
}

func TestP8NumbersThatAreNoBytes(t *testing.T) {
	forSpoiledStates(func(list []int, place int, bad int) {
		for seed, chosen := range choices(len(list)) {
			other := changedState(stateOf(len(list), len(list)), seed, chosen)
			checkNoDifferences(t, list, other)
			checkNoDifferences(t, other, list)
		}
		checkNoDifferences(t, list, list)
		repaired := slices.Clone(list)
		repaired[place] = bad & 255
		checkNoDifferences(t, list, repaired)
		checkNoDifferences(t, repaired, list)
	})
}

func TestP8EveryNumberAtOnePlace(t *testing.T) {
	for n := -1000; n <= 1500; n++ {
		want := digit(isByte(n))
		if got := impl.DiffStates([]int{1, n, 1}, []int{2, 2, 2}); len(got) != want+digit(n == 2) {
			t.Fatal("first", n, got)
		}
		if got := impl.DiffStates([]int{2, 2, 2}, []int{1, n, 1}); len(got) != want+digit(n == 2) {
			t.Fatal("second", n, got)
		}
	}
}

func TestP8NumbersAreCheckedInBothLists(t *testing.T) {
	for _, bad := range notBytes {
		for _, other := range notBytes {
			checkNoDifferences(t, []int{1, bad}, []int{1, other})
			checkNoDifferences(t, []int{bad, 1}, []int{1, other})
			checkNoDifferences(t, []int{bad}, []int{1, other})
		}
		checkNoDifferences(t, slices.Repeat([]int{bad}, 600), slices.Repeat([]int{bad}, 600))
	}
	checkNoDifferences(t, []int{math.MinInt}, []int{math.MaxInt, 3})
}

// spoilPatches overwrites patches and what appends to them, and to their data, could reach.
func spoilPatches(list []impl.Patch) {
	list = list[:cap(list)]
	for number := range list {
		spoilList(list[number].Data)
		list[number] = impl.Patch{Skip: -7, Data: []int{-7}}
	}
}

func TestP8DifferencesAreNewMemory(t *testing.T) {
	forStatePairs(t, func(a []int, b []int) {
		want := patchesOf(a, b)
		first, second := impl.DiffStates(a, b), impl.DiffStates(a, b)
		for number := range first {
			spoilList(first[number].Data)
			spoilList(append(first[number].Data, 1, 2, 3))
			for other := range first {
				if other > number && !samePatch(first[other], want[other]) {
					t.Fatal("other patch", number, other)
				}
			}
		}
		spoilPatches(first)
		spoilPatches(append(first, impl.Patch{Skip: 1, Data: []int{1}}))
		if !samePatches(second, want) {
			t.Fatal("other result", second, want)
		}
		checkDifferences(t, a, b, want)
	})
}

// TestP8DifferencesKeepTheirBytes changes the states afterwards.
func TestP8DifferencesKeepTheirBytes(t *testing.T) {
	forStatePairs(t, func(a []int, b []int) {
		want := patchesOf(a, b)
		ownA, ownB := slices.Clone(a), slices.Clone(b)
		got := impl.DiffStates(ownA, ownB)
		spoilList(ownA)
		spoilList(ownB)
		if !samePatches(got, want) {
			t.Fatal("changed with the states", got, want)
		}
	})
}

// TestP8StatesMayOverlap has states that are parts of one list.
func TestP8StatesMayOverlap(t *testing.T) {
	all := stateOf(3, 100)
	before := slices.Clone(all)
	for n := range 60 {
		for by := range 40 {
			a, b := all[:n], all[by:by+n]
			checkDifferences(t, a, b, patchesOf(slices.Clone(a), slices.Clone(b)))
			checkLeads(t, a, b)
		}
	}
	if !slices.Equal(all, before) {
		t.Fatal("changed", all)
	}
}

func TestP8CallsDependOnTheirArgumentsAlone(t *testing.T) {
	a, b := stateOf(1, 512), stateOf(2, 512)
	for range 5 {
		checkDifferences(t, a, b, patchesOf(a, b))
		checkNoDifferences(t, a, b[:511])
		checkDifferences(t, a[:3], b[:3], patchesOf(a[:3], b[:3]))
		checkNoDifferences(t, []int{256}, []int{0})
		checkDifferences(t, b, a, patchesOf(b, a))
		checkDifferences(t, nil, nil, nil)
	}
}

// checkUndone uses nothing but the promise P128.
func checkUndone(t *testing.T, a []int, b []int) {
	t.Helper()
	there, back := impl.DiffStates(a, b), impl.DiffStates(b, a)
	if impl.PatchSize(there) != impl.PatchSize(back) {
		t.Fatal("sizes", a, b, there, back)
	}
	after, ok := impl.PatchState(a, there)
	if !ok {
		t.Fatal("there", a, b, there)
	}
	if again, ok := impl.PatchState(after, back); !ok || !slices.Equal(again, a) {
		t.Fatal("back", a, b, back, again, ok)
	}
}

func TestP128DifferencesCanBeUndone(t *testing.T) {
	forStatePairs(t, func(a []int, b []int) {
		checkUndone(t, a, b)
		checkUndone(t, b, a)
		checkUndone(t, a, a)
	})
}

func TestP128AllShortStates(t *testing.T) {
	for n := range 6 {
		forShortStates(n, func(a []int) {
			forShortStates(n, func(b []int) { checkUndone(t, a, b) })
		})
	}
}

// TestP128SamePlaces: the patches back skip the same places, and have as many bytes each.
func TestP128SamePlaces(t *testing.T) {
	forStatePairs(t, func(a []int, b []int) {
		there, back := impl.DiffStates(a, b), impl.DiffStates(b, a)
		if len(there) != len(back) {
			t.Fatal(a, b, there, back)
		}
		for number, p := range there {
			if p.Skip != back[number].Skip || len(p.Data) != len(back[number].Data) {
				t.Fatal(a, b, number, p, back[number])
			}
		}
	})
}

func TestP128WorkedOutByHand(t *testing.T) {
	a, b := []int{10, 20, 30, 40, 50, 60}, []int{11, 20, 31, 32, 50, 61}
	there := []impl.Patch{{Data: []int{11}}, {Skip: 1, Data: []int{31, 32}}, {Skip: 1, Data: []int{61}}}
	back := []impl.Patch{{Data: []int{10}}, {Skip: 1, Data: []int{30, 40}}, {Skip: 1, Data: []int{60}}}
	checkDifferences(t, a, b, there)
	checkDifferences(t, b, a, back)
	if impl.PatchSize(there) != 10 || impl.PatchSize(back) != 10 {
		t.Fatal(impl.PatchSize(there), impl.PatchSize(back))
	}
	if again, ok := impl.PatchState(b, back); !ok || !slices.Equal(again, a) {
		t.Fatal(again, ok)
	}
	checkUndone(t, a, b)
	checkUndone(t, nil, nil)
}

// TestP128LastPlaceIsUndone: a difference that ends with the state is a difference as any other.
func TestP128LastPlaceIsUndone(t *testing.T) {
	for n := 1; n <= longestState; n++ {
		a := stateOf(n, n)
		for _, first := range within(n-1, n-1, n-2, n-7, n/2, 0) {
			b := changedState(a, first, func(place int) bool { return place >= first })
			checkUndone(t, a, b)
			if got := impl.PatchSize(impl.DiffStates(a, b)); got != 2+n-first {
				t.Fatal("size", n, first, got)
			}
		}
	}
}
