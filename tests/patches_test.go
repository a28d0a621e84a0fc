package tests

import (
	"math"
	"slices"
	"testing"

	"loop.example/homeconsole/impl"
)

// notSkips are negative, and some would be valid if numbers were shorter.
var notSkips = []int{-1, -2, -3, -255, -256, -511, -512, -513, -65536, -(1 << 31), -(1 << 32), -(1 << 32) + 1, -(1 << 32) - 1, math.MinInt, math.MinInt + 1, math.MinInt + 2}

// farSkips end behind every state, and some would not if numbers were shorter.
var farSkips = []int{513, 514, 1024, 65535, 65536, 65536 + 1, 1 << 31, 1<<31 - 1, 1 << 32, 1<<32 + 1, 1<<32 + 3, 1 << 62, math.MaxInt, math.MaxInt - 1, math.MaxInt - 2, math.MaxInt - 512}

// patchedOf is PatchState, written from the document: it takes one byte after the other from the state, so no place is ever computed.
func patchedOf(a []int, list []impl.Patch) ([]int, bool) {
	if len(a) > longestState || !slices.Equal(a, bytesIn(a)) {
		return nil, false
	}
	var after []int
	for _, p := range list {
		if p.Skip < 0 || !slices.Equal(p.Data, bytesIn(p.Data)) {
			return nil, false
		}
		for range p.Skip {
			if len(a) == 0 {
				return nil, false
			}
			after, a = append(after, a[0]), a[1:]
		}
		for _, value := range p.Data {
			if len(a) == 0 {
				return nil, false
			}
			after, a = append(after, value), a[1:]
		}
	}
	return append(after, a...), true
}

// bytesIn leaves out what is no byte.
func bytesIn(list []int) []int {
	var bytes []int
	for _, n := range list {
		if isByte(n) {
			bytes = append(bytes, n)
		}
	}
	return bytes
}

func deepPatches(list []impl.Patch) []impl.Patch {
	own := slices.Clone(list)
	for number := range own {
		own[number].Data = slices.Clone(own[number].Data)
	}
	return own
}

// checkPatched compares with a result, and with the arguments as they were.
func checkPatched(t *testing.T, a []int, list []impl.Patch, want []int, wantOk bool) {
	t.Helper()
	beforeA, before := slices.Clone(a), deepPatches(list)
	got, ok := impl.PatchState(a, list)
	if ok != wantOk || !slices.Equal(got, want) {
		t.Fatal(a, list, "wanted", want, wantOk, "got", got, ok)
	}
	if !slices.Equal(a, beforeA) || !samePatches(list, before) {
		t.Fatal("changed", beforeA, a, before, list)
	}
}

func checkNotPatched(t *testing.T, a []int, list []impl.Patch) {
	t.Helper()
	checkPatched(t, a, list, nil, false)
}

func checkPatchedAsTheRule(t *testing.T, a []int, list []impl.Patch) {
	t.Helper()
	want, ok := patchedOf(a, list)
	checkPatched(t, a, list, want, ok)
}

// checkFewPlaces uses nothing but the promise P79.
func checkFewPlaces(t *testing.T, a []int, list []impl.Patch) {
	t.Helper()
	after, ok := impl.PatchState(a, list)
	if !ok || len(after) != len(a) {
		t.Fatal(a, list, after, ok)
	}
	changed, bytes := 0, 0
	for place := range a {
		changed += digit(a[place] != after[place])
	}
	for _, p := range list {
		bytes += len(p.Data)
	}
	if changed > bytes {
		t.Fatal("changed places", a, list, after)
	}
}

// mixedPatches fit a state of n bytes; some have no data, some skip nothing, and some end with the state.
func mixedPatches(seed int, n int) []impl.Patch {
	next := mixed(seed)
	longest := []int{1, 3, 20, 200}[next(4)]
	var list []impl.Patch
	for range next(12) {
		p := impl.Patch{Skip: min(next(longest), n)}
		n -= p.Skip
		p.Data = stateOf(next(10000), min(next(longest), n))
		n -= len(p.Data)
		list = append(list, p)
	}
	if next(3) == 0 {
		list = append(list, impl.Patch{Skip: n / 2, Data: stateOf(seed, n-n/2)})
	}
	return list
}

// handPatches are the edge cases of the document for a state of n bytes, at least three.
func handPatches(n int) [][]impl.Patch {
	return [][]impl.Patch{
		nil,
		{},
		{{}},
		{{}, {}, {}},
		{{Data: []int{}}},
		{{Data: []int{9}}},
		{{Data: []int{9}}, {Data: []int{8}}, {Data: []int{7}}},
		{{Skip: 1}, {Data: []int{9}}},
		{{Data: []int{9}}, {Skip: 1}, {Data: []int{8}}},
		{{Skip: n}},
		{{Skip: n}, {}, {Data: []int{}}},
		{{Skip: n - 1, Data: []int{255}}},
		{{Skip: n - 1, Data: []int{0}}, {}},
		{{Skip: n - 3, Data: []int{255, 0, 255}}},
		{{Skip: n - 3}, {Skip: 3}},
		{{Skip: n - 3, Data: []int{1}}, {Data: []int{2}}, {Data: []int{3}}},
		{{Skip: 1, Data: stateOf(n, n-1)}},
		{{Data: stateOf(n, n)}},
		{{Data: stateOf(n, n-1)}},
		{{Data: stateOf(n, n-1)}, {Skip: 1}},
		{{Data: stateOf(n, n-1)}, {Data: []int{6}}},
		{{Data: stateOf(n, 1)}, {Skip: n - 2, Data: stateOf(1, 1)}},
	}
}

// forPatchings calls a check for valid patches of states, none of which may be changed, not even where they have spare capacity.
func forPatchings(t *testing.T, check func(a []int, list []impl.Patch)) {
	t.Helper()
	guarded := func(some []int, patches []impl.Patch) {
		a := append(slices.Clone(some), 9, -9, 300)
		list := append(deepPatches(patches), impl.Patch{Skip: 1, Data: []int{1}}, impl.Patch{Skip: -4})
		for number, p := range list {
			list[number].Data = append(p.Data, 5, -5)[:len(p.Data)]
		}
		before, beforeList := slices.Clone(a), deepPatches(list)
		check(a[:len(some)], list[:len(patches)])
		if !slices.Equal(a, before) || !samePatches(list, beforeList) {
			t.Fatal("changed", before, a, beforeList, list)
		}
		for _, p := range list {
			if spare := p.Data[:len(p.Data)+2][len(p.Data):]; !slices.Equal(spare, []int{5, -5}) {
				t.Fatal("changed spare capacity", p, spare)
			}
		}
	}
	for _, n := range edgeSizes {
		if n >= 3 {
			for _, list := range handPatches(n) {
				guarded(stateOf(n, n), list)
			}
		}
	}
	for seed := range 600 {
		n := edgeSizes[seed%len(edgeSizes)]
		guarded(stateOf(seed, n), mixedPatches(seed, n))
	}
}

func TestP79PatchesFollowTheRule(t *testing.T) {
	forPatchings(t, func(a []int, list []impl.Patch) {
		want, ok := patchedOf(a, list)
		if !ok {
			t.Fatal("not valid", a, list)
		}
		checkPatched(t, a, list, want, true)
	})
}

func TestP79PatchesChangeFewPlaces(t *testing.T) {
	forPatchings(t, func(a []int, list []impl.Patch) { checkFewPlaces(t, a, list) })
	forStatePairs(t, func(a []int, b []int) { checkFewPlaces(t, a, impl.DiffStates(a, b)) })
}

func TestP79WithoutPatchesNothingChanges(t *testing.T) {
	for n := range longestState + 1 {
		a := stateOf(n, n)
		checkPatched(t, a, nil, a, true)
		checkPatched(t, a, []impl.Patch{}, a, true)
		checkPatched(t, a, make([]impl.Patch, 3), a, true)
		checkPatched(t, a, []impl.Patch{{Skip: n}}, a, true)
		checkPatched(t, a, []impl.Patch{{Skip: n / 3}, {Skip: n - n/3, Data: []int{}}, {}}, a, true)
	}
}

// forShortPatches calls a check for all lists of at most n patches that skip up to four places, or have a negative Skip, and have up to three bytes.
func forShortPatches(n int, check func(list []impl.Patch)) {
	var list []impl.Patch
	var extend func()
	extend = func() {
		check(deepPatches(list))
		if len(list) == n {
			return
		}
		for skip := -1; skip <= 4; skip++ {
			for size := range 4 {
				list = append(list, impl.Patch{Skip: skip, Data: []int{200, 201, 202}[:size]})
				extend()
				list = list[:len(list)-1]
			}
		}
	}
	extend()
}

func TestP79AllShortPatches(t *testing.T) {
	forShortPatches(3, func(list []impl.Patch) {
		for n := range 8 {
			checkPatchedAsTheRule(t, stateOf(n, n), list)
		}
	})
}

// TestP79EveryPlace has one byte, or some, at every place, with none or several patches without effect before.
func TestP79EveryPlace(t *testing.T) {
	for _, n := range []int{1, 2, 3, 64, 512} {
		a := stateOf(n, n)
		for place := range n + 2 {
			for _, size := range within(n+2, 0, 1, 2, 3, n-place-1, n-place, n-place+1, n) {
				data := stateOf(size, size)
				checkPatchedAsTheRule(t, a, []impl.Patch{{Skip: place, Data: data}})
				checkPatchedAsTheRule(t, a, []impl.Patch{{}, {Skip: place}, {}, {Data: data}, {}})
				checkPatchedAsTheRule(t, a, []impl.Patch{{Skip: place / 2, Data: []int{4}}, {Skip: place - place/2, Data: data}})
			}
		}
	}
}

// TestP79ManyPatches: their number has no bound, only their end.
func TestP79ManyPatches(t *testing.T) {
	a, data := stateOf(1, 512), stateOf(2, 512)
	var list, second []impl.Patch
	for place := range a {
		list = append(list, impl.Patch{Data: data[place : place+1]})
		if place%2 == 1 {
			second = append(second, impl.Patch{Skip: 1, Data: data[place : place+1]})
		}
	}
	for n := range len(list) + 1 {
		checkPatched(t, a, list[:n], slices.Concat(data[:n], a[n:]), true)
	}
	for n := range len(second) + 1 {
		checkPatchedAsTheRule(t, a, second[:n])
		checkFewPlaces(t, a, second[:n])
	}
	for _, n := range []int{255, 256, 257, 512, 513, 1000, 65536, 70000} {
		empty := make([]impl.Patch, n)
		checkPatched(t, a, slices.Concat(empty, list), data, true)
		checkPatched(t, a, slices.Concat(list, empty), data, true)
		checkNotPatched(t, a, slices.Concat(empty, list, []impl.Patch{{Skip: 1}}))
		checkNotPatched(t, a, slices.Concat(list, empty, []impl.Patch{{Data: []int{1}}}))
		checkNotPatched(t, a, slices.Concat(empty, []impl.Patch{{Skip: -1}}))
	}
}

func TestP79EveryByteCanBeWritten(t *testing.T) {
	for value := range 256 {
		checkPatched(t, []int{1, 2, 3}, []impl.Patch{{Skip: 1, Data: []int{value}}}, []int{1, value, 3}, true)
		checkPatched(t, []int{value, 2, value}, []impl.Patch{{Skip: 1, Data: []int{value}}}, []int{value, value, value}, true)
		checkPatched(t, []int{value, value}, []impl.Patch{{Data: []int{value, 9}}}, []int{value, 9}, true)
	}
}

// TestP79OnlyPatchedPlacesChange asks each place by itself.
func TestP79OnlyPatchedPlacesChange(t *testing.T) {
	forPatchings(t, func(a []int, list []impl.Patch) {
		after, _ := impl.PatchState(a, list)
		want := slices.Clone(a)
		end := 0
		for _, p := range list {
			end += p.Skip + len(p.Data)
			for k, value := range p.Data {
				want[end-len(p.Data)+k] = value
			}
		}
		if !slices.Equal(after, want) {
			t.Fatal(a, list, after, want)
		}
	})
}

func TestP79PatchesWorkedOutByHand(t *testing.T) {
	for _, c := range []struct {
		a    []int
		list []impl.Patch
		want []int
	}{
		{nil, nil, nil},
		{nil, []impl.Patch{{}, {}}, nil},
		{[]int{7}, []impl.Patch{{Data: []int{8}}}, []int{8}},
		{[]int{7}, []impl.Patch{{Skip: 1}}, []int{7}},
		{[]int{1, 2, 3, 4, 5}, []impl.Patch{{Skip: 1, Data: []int{9, 9}}, {Skip: 1, Data: []int{6}}}, []int{1, 9, 9, 4, 6}},
		{[]int{1, 2, 3, 4, 5}, []impl.Patch{{Data: []int{9}}, {Data: []int{8}}, {Skip: 2, Data: []int{7}}}, []int{9, 8, 3, 4, 7}},
		{[]int{1, 2, 3, 4, 5}, []impl.Patch{{Skip: 2}, {Skip: 2}, {Data: []int{0}}}, []int{1, 2, 3, 4, 0}},
		{[]int{1, 2, 3, 4, 5}, []impl.Patch{{Skip: 2, Data: []int{3, 4}}}, []int{1, 2, 3, 4, 5}},
		{[]int{1, 2, 3, 4, 5}, []impl.Patch{{Data: []int{5, 4, 3, 2, 1}}}, []int{5, 4, 3, 2, 1}},
	} {
		checkPatched(t, c.a, c.list, c.want, true)
	}
	for _, list := range [][]impl.Patch{
		{{Skip: 6}},
		{{Skip: 5, Data: []int{1}}},
		{{Skip: 4, Data: []int{1, 2}}},
		{{Data: []int{1, 2, 3, 4, 5, 6}}},
		{{Data: []int{1, 2, 3, 4, 5}}, {Data: []int{6}}},
		{{Data: []int{1, 2, 3, 4, 5}}, {Skip: 1}},
		{{Skip: 3}, {Skip: 3}},
		{{Skip: 2, Data: []int{1}}, {Skip: 2, Data: []int{2}}},
		{{Skip: -1}},
		{{Skip: 2}, {Skip: -1}},
		{{Skip: 2, Data: []int{1}}, {Skip: -3, Data: []int{2}}},
		{{Data: []int{256}}},
		{{Data: []int{-1}}},
	} {
		checkNotPatched(t, []int{1, 2, 3, 4, 5}, list)
	}
	checkNotPatched(t, nil, []impl.Patch{{Skip: 1}})
	checkNotPatched(t, nil, []impl.Patch{{Data: []int{0}}})
	checkNotPatched(t, nil, []impl.Patch{{Data: []int{256}}})
}

func TestP79PatchesThatEndBehindTheState(t *testing.T) {
	forPatchings(t, func(a []int, list []impl.Patch) {
		left := len(a)
		for _, p := range list {
			left -= p.Skip + len(p.Data)
		}
		last := impl.Patch{Skip: left, Data: []int{}}
		checkPatchedAsTheRule(t, a, slices.Concat(list, []impl.Patch{last}))
		for _, far := range []impl.Patch{
			{Skip: left + 1},
			{Skip: left, Data: []int{1}},
			{Skip: left, Data: []int{1, 2, 3}},
			{Data: make([]int, left+1)},
			{Skip: left / 2, Data: make([]int, left-left/2+1)},
			{Skip: left + 1, Data: []int{1}},
		} {
			checkNotPatched(t, a, slices.Concat(list, []impl.Patch{far}))
			checkNotPatched(t, a, slices.Concat(list, []impl.Patch{far, {}}))
			checkNotPatched(t, a, slices.Concat([]impl.Patch{far}, list, []impl.Patch{{Skip: left + 1}}))
		}
	})
	for n := range longestState + 1 {
		for _, size := range []int{n + 1, n + 2, 513, 600, 1000, 1025, 70000} {
			if size > n {
				checkNotPatched(t, make([]int, n), []impl.Patch{{Data: make([]int, size)}})
				checkNotPatched(t, make([]int, n), []impl.Patch{{Skip: size}})
			}
		}
	}
}

// forSpoiledPatches calls a check for good patches, one of which is replaced by what another function makes of it; the good ones leave places behind.
func forSpoiledPatches(change func(p impl.Patch) []impl.Patch, check func(a []int, list []impl.Patch)) {
	a := stateOf(5, 40)
	for _, good := range [][]impl.Patch{
		{{Skip: 3, Data: []int{1, 2, 3}}},
		{{Skip: 0, Data: []int{9}}, {Skip: 1, Data: []int{8}}, {Skip: 2, Data: []int{7, 6}}},
		{{}, {Skip: 4}, {Data: []int{1, 255, 3, 0}}, {Skip: 5, Data: []int{3}}, {Skip: 6}},
	} {
		for number, p := range good {
			for _, changed := range change(p) {
				list := deepPatches(good)
				list[number] = changed
				check(a, list)
			}
		}
	}
}

func TestP79NegativeSkips(t *testing.T) {
	forSpoiledPatches(func(p impl.Patch) []impl.Patch {
		var list []impl.Patch
		for _, bad := range notSkips {
			list = append(list, impl.Patch{Skip: bad, Data: p.Data}, impl.Patch{Skip: bad}, impl.Patch{Skip: bad, Data: make([]int, 30)})
		}
		return list
	}, func(a []int, list []impl.Patch) { checkNotPatched(t, a, list) })
	for _, bad := range notSkips {
		checkNotPatched(t, nil, []impl.Patch{{Skip: bad}})
		checkNotPatched(t, make([]int, 512), []impl.Patch{{Skip: bad}})
		checkNotPatched(t, make([]int, 512), []impl.Patch{{Skip: 512}, {Skip: bad}})
		checkNotPatched(t, make([]int, 512), []impl.Patch{{Skip: 300}, {Skip: bad, Data: make([]int, 100)}})
		checkNotPatched(t, make([]int, 512), []impl.Patch{{Skip: 300}, {Skip: -bad - 1}, {Skip: bad}})
	}
	for skip := -1100; skip <= 1100; skip++ {
		_, ok := impl.PatchState(make([]int, 300), []impl.Patch{{Skip: skip, Data: make([]int, 20)}})
		if ok != (skip >= 0 && skip <= 280) {
			t.Fatal(skip, ok)
		}
	}
}

func TestP79LargeSkips(t *testing.T) {
	forSpoiledPatches(func(p impl.Patch) []impl.Patch {
		var list []impl.Patch
		for _, bad := range farSkips {
			list = append(list, impl.Patch{Skip: bad, Data: p.Data}, impl.Patch{Skip: bad})
		}
		return list
	}, func(a []int, list []impl.Patch) { checkNotPatched(t, a, list) })
	for _, bad := range farSkips {
		for _, other := range slices.Concat(farSkips, []int{0, 1, 2, 3, 4, 511, 512}) {
			for third := range 5 {
				checkNotPatched(t, make([]int, 512), []impl.Patch{{Skip: bad}, {Skip: other}, {Skip: third, Data: []int{1}}})
				checkNotPatched(t, nil, []impl.Patch{{Skip: bad}, {Skip: other}, {Skip: third}})
				checkNotPatched(t, make([]int, 512), []impl.Patch{{Skip: third, Data: []int{1}}, {Skip: bad}, {Skip: other}, {Skip: third}})
			}
		}
	}
}

// TestP79SkipsThatSumUpToFew: the sum of these numbers, as large as numbers can be, is 0, or a little more, if it is not watched.
func TestP79SkipsThatSumUpToFew(t *testing.T) {
	for few := range 9 {
		for _, a := range [][]int{nil, make([]int, 9), make([]int, 512)} {
			checkNotPatched(t, a, []impl.Patch{{Skip: math.MaxInt}, {Skip: math.MaxInt}, {Skip: 2 + few}})
			checkNotPatched(t, a, []impl.Patch{{Skip: 0}, {Skip: math.MaxInt}, {Skip: math.MaxInt}, {Skip: 2}, {Skip: few}})
			checkNotPatched(t, a, slices.Repeat([]impl.Patch{{Skip: 1 << 62}}, 4))
			checkNotPatched(t, a, slices.Repeat([]impl.Patch{{Skip: 1 << 31}}, 2))
			checkNotPatched(t, a, []impl.Patch{{Skip: math.MaxInt, Data: []int{1}}, {Skip: math.MaxInt, Data: []int{1}}, {Skip: few}})
			checkNotPatched(t, a, []impl.Patch{{Skip: math.MaxInt - few, Data: make([]int, few)}})
			checkNotPatched(t, a, []impl.Patch{{Skip: math.MaxInt - few, Data: make([]int, few+1)}})
		}
	}
}

func TestP79DataThatIsNoByte(t *testing.T) {
	forSpoiledPatches(func(p impl.Patch) []impl.Patch {
		var list []impl.Patch
		for _, bad := range notBytes {
			for place := range p.Data {
				data := slices.Clone(p.Data)
				data[place] = bad
				list = append(list, impl.Patch{Skip: p.Skip, Data: data})
			}
			list = append(list, impl.Patch{Skip: p.Skip, Data: append(slices.Clone(p.Data), bad)})
		}
		return list
	}, func(a []int, list []impl.Patch) { checkNotPatched(t, a, list) })
	for _, bad := range notBytes {
		for _, n := range []int{1, 2, 255, 511, 512} {
			for _, place := range within(n-1, 0, 1, n/2, n-1) {
				data := make([]int, n)
				data[place] = bad
				checkNotPatched(t, make([]int, 512), []impl.Patch{{Data: data}})
				checkNotPatched(t, make([]int, 512), []impl.Patch{{Skip: 512 - n, Data: data}})
				checkNotPatched(t, make([]int, 512), []impl.Patch{{Skip: 513 - n, Data: data}})
			}
		}
		// The byte that such a number would wrap to may be in the state already.
		checkNotPatched(t, []int{bad & 255}, []impl.Patch{{Data: []int{bad}}})
	}
	for n := -1000; n <= 1500; n++ {
		if _, ok := impl.PatchState([]int{1, 2, 3}, []impl.Patch{{Skip: 1, Data: []int{n}}}); ok != isByte(n) {
			t.Fatal(n, ok)
		}
	}
}

func TestP79ListsThatAreNoStates(t *testing.T) {
	for _, n := range notSizes {
		checkNotPatched(t, make([]int, n), nil)
		checkNotPatched(t, stateOf(n, n), []impl.Patch{{}})
		checkNotPatched(t, stateOf(n, n), []impl.Patch{{Skip: 1, Data: []int{1}}})
		checkNotPatched(t, stateOf(n, n), []impl.Patch{{Skip: n}})
	}
	for n := range 1500 {
		if after, ok := impl.PatchState(make([]int, n), nil); ok != (n <= longestState) || len(after) != n*digit(ok) {
			t.Fatal(n, len(after), ok)
		}
	}
	forSpoiledStates(func(list []int, place int, bad int) {
		checkNotPatched(t, list, nil)
		checkNotPatched(t, list, []impl.Patch{{Skip: len(list)}})
		checkNotPatched(t, list, []impl.Patch{{Data: []int{1}}})
		// What is replaced had to be a byte as well.
		checkNotPatched(t, list, []impl.Patch{{Skip: place, Data: []int{1}}})
		checkNotPatched(t, list, []impl.Patch{{Data: make([]int, len(list))}})
	})
	for n := -1000; n <= 1500; n++ {
		if _, ok := impl.PatchState([]int{1, n, 3}, []impl.Patch{{Skip: 1, Data: []int{5}}}); ok != isByte(n) {
			t.Fatal(n, ok)
		}
	}
}

func TestP79ResultsAreNewMemory(t *testing.T) {
	forPatchings(t, func(a []int, list []impl.Patch) {
		want, _ := patchedOf(a, list)
		first, _ := impl.PatchState(a, list)
		second, _ := impl.PatchState(a, list)
		spoilList(first)
		spoilList(append(first, 1, 2, 3))
		if !slices.Equal(second, want) {
			t.Fatal("other result", second, want)
		}
		checkPatched(t, a, list, want, true)
		ownA, own := slices.Clone(a), deepPatches(list)
		got, _ := impl.PatchState(ownA, own)
		spoilList(ownA)
		spoilPatches(own)
		if !slices.Equal(got, want) {
			t.Fatal("changed with the arguments", got, want)
		}
	})
}

// TestP79DataMayBeAPartOfTheState: what is written is what it was before.
func TestP79DataMayBeAPartOfTheState(t *testing.T) {
	for from := range 12 {
		for size := range 8 {
			for skip := range 12 {
				a := stateOf(3, 20)
				list := []impl.Patch{{Skip: skip, Data: a[from : from+size]}, {Data: a[from : from+size]}}
				want, ok := patchedOf(a, deepPatches(list))
				checkPatched(t, a, list, want, ok)
			}
		}
	}
}

func TestP79CallsDependOnTheirArgumentsAlone(t *testing.T) {
	for range 5 {
		checkPatched(t, []int{1, 2, 3}, []impl.Patch{{Skip: 1, Data: []int{9}}}, []int{1, 9, 3}, true)
		checkNotPatched(t, []int{1, 2, 3}, []impl.Patch{{Skip: 3, Data: []int{9}}})
		checkPatched(t, stateOf(1, 512), nil, stateOf(1, 512), true)
		checkNotPatched(t, stateOf(1, 513), nil)
		checkPatched(t, []int{1, 2, 3}, []impl.Patch{{Data: []int{4}}}, []int{4, 2, 3}, true)
	}
}

// sizeOf is PatchSize, written from the document: it counts one number after the other.
func sizeOf(list []impl.Patch) int {
	size := 0
	for _, p := range list {
		size++
		size++
		for range p.Data {
			size++
		}
	}
	return size
}

func checkSize(t *testing.T, list []impl.Patch, want int) {
	t.Helper()
	before := deepPatches(list)
	if got := impl.PatchSize(list); got != want {
		t.Fatal(list, "wanted", want, "got", got)
	}
	if !samePatches(list, before) {
		t.Fatal("changed", before, list)
	}
}

func TestP80SizesFollowTheRule(t *testing.T) {
	forPatchings(t, func(a []int, list []impl.Patch) { checkSize(t, list, sizeOf(list)) })
	forStatePairs(t, func(a []int, b []int) {
		list := impl.DiffStates(a, b)
		checkSize(t, list, sizeOf(list))
	})
	forShortPatches(3, func(list []impl.Patch) { checkSize(t, list, sizeOf(list)) })
}

// TestP80SizesAddUp uses nothing but the promise: it divides lists at each place.
func TestP80SizesAddUp(t *testing.T) {
	divided := func(list []impl.Patch) {
		for first := range len(list) + 1 {
			checkSize(t, list, impl.PatchSize(list[:first])+impl.PatchSize(list[first:]))
		}
	}
	forPatchings(t, func(a []int, list []impl.Patch) { divided(list) })
	forStatePairs(t, func(a []int, b []int) { divided(impl.DiffStates(a, b)) })
	for seed := range 200 {
		some, further := mixedPatches(seed, 300), mixedPatches(seed+1000, 300)
		checkSize(t, slices.Concat(some, further), impl.PatchSize(some)+impl.PatchSize(further))
		checkSize(t, slices.Concat(further, some), impl.PatchSize(some)+impl.PatchSize(further))
	}
}

func TestP80NoPatchesNeedNothing(t *testing.T) {
	checkSize(t, nil, 0)
	checkSize(t, []impl.Patch{}, 0)
	checkSize(t, []impl.Patch{{Data: []int{1}}}[:0], 0)
}

func TestP80SizesWorkedOutByHand(t *testing.T) {
	checkSize(t, []impl.Patch{{}}, 2)
	checkSize(t, []impl.Patch{{Skip: 512}}, 2)
	checkSize(t, []impl.Patch{{Data: []int{}}}, 2)
	checkSize(t, []impl.Patch{{Data: []int{5}}}, 3)
	checkSize(t, []impl.Patch{{Skip: 3, Data: []int{0, 0, 0}}}, 5)
	checkSize(t, []impl.Patch{{Skip: 1, Data: []int{9, 9}}, {Skip: 1, Data: []int{6}}}, 7)
	checkSize(t, []impl.Patch{{}, {}, {}}, 6)
	checkSize(t, []impl.Patch{{Data: make([]int, 512)}}, 514)
}

// TestP80AllPatchesAreCounted: the document names no patches for which the size is another one, so it is that of patches that fit no state, too.
func TestP80AllPatchesAreCounted(t *testing.T) {
	for n := range 1100 {
		checkSize(t, make([]impl.Patch, n), 2*n)
		checkSize(t, []impl.Patch{{Data: make([]int, n)}}, 2+n)
		checkSize(t, slices.Repeat([]impl.Patch{{Skip: n, Data: []int{1, 2, 3}}}, n), 5*n)
	}
	checkSize(t, slices.Repeat([]impl.Patch{{Data: make([]int, 1000)}}, 1000), 1002000)
	for _, skip := range slices.Concat(notSkips, farSkips) {
		checkSize(t, []impl.Patch{{Skip: skip}}, 2)
		checkSize(t, []impl.Patch{{Skip: skip, Data: []int{1}}, {Skip: skip}}, 5)
	}
	for _, bad := range notBytes {
		checkSize(t, []impl.Patch{{Skip: 1, Data: []int{1, bad}}}, 4)
	}
}

func TestP80CallsDependOnTheirArgumentsAlone(t *testing.T) {
	for range 5 {
		checkSize(t, []impl.Patch{{Skip: 1, Data: []int{9}}}, 3)
		checkSize(t, nil, 0)
		checkSize(t, make([]impl.Patch, 600), 1200)
	}
}
