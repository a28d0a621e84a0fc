package tests

import (
	"slices"
	"testing"

	"loop.example/homeconsole/impl"
)

// mixedVoices has n channels with short or long steps, in any place of these.
func mixedVoices(seed int, n int) []impl.Voice {
	next := mixed(seed)
	longest := []int{1, 3, 20, 100}[next(4)]
	list := make([]impl.Voice, n)
	for k := range list {
		length := 1 + next(longest)
		list[k] = impl.Voice{Length: length, High: next(9), Volume: next(16), Step: next(8), Left: 1 + next(length)}
	}
	return list
}

// voiceLists are the edge cases of the document, and mixed lists of every length.
func voiceLists() [][]impl.Voice {
	loudest := impl.Voice{Length: 100, High: 8, Volume: 15, Step: 7, Left: 1}
	silent := impl.Voice{Length: 5, High: 8, Left: 3}
	low := impl.Voice{Length: 5, Volume: 15, Step: 4, Left: 5}
	wave := impl.Voice{Length: 9, High: 4, Volume: 6, Step: 2, Left: 4}
	lists := [][]impl.Voice{
		nil,
		{},
		{loudest},
		{silent},
		{low},
		{loudest, loudest, loudest, loudest},
		{silent, low, silent, low},
		{silent, wave, low, loudest},
		{wave, wave},
		{wave, firstVoice(9, 4, 6), wave},
		{firstVoice(1, 1, 1), firstVoice(2, 1, 2), firstVoice(4, 1, 4), firstVoice(8, 1, 8)},
	}
	for n := range 5 {
		for seed := range 80 {
			lists = append(lists, mixedVoices(1000*n+seed, n))
		}
	}
	return lists
}

// forVoiceLists calls a check for valid channels, none of which may be changed, not even where the list has spare capacity.
func forVoiceLists(t *testing.T, check func(list []impl.Voice)) {
	t.Helper()
	for _, some := range voiceLists() {
		all := append(slices.Clone(some), impl.Voice{Length: 3, High: 1, Volume: 7, Left: 3}, impl.Voice{}, impl.Voice{Left: -7})
		before := slices.Clone(all)
		check(all[:len(some)])
		if !slices.Equal(all, before) {
			t.Fatal("changed", before, all)
		}
	}
}

// mixOf is MixVoices, written from the document: it goes through the channels sample by sample.
func mixOf(list []impl.Voice, n int) []int {
	sums := make([]int, n)
	for _, v := range list {
		for k := range sums {
			sample, next := sounded(v)
			sums[k] += sample
			v = next
		}
	}
	return sums
}

func checkMix(t *testing.T, list []impl.Voice, n int, want []int) {
	t.Helper()
	if got := impl.MixVoices(list, n); !slices.Equal(got, want) {
		t.Fatal(list, n, "wanted", want, "got", got)
	}
}

func checkNoMix(t *testing.T, list []impl.Voice, n int) {
	t.Helper()
	before := slices.Clone(list)
	checkMix(t, list, n, nil)
	if !slices.Equal(list, before) {
		t.Fatal("changed", before, list)
	}
}

// someSampleCounts are numbers of samples at the edges of several channels.
func someSampleCounts(list []impl.Voice) []int {
	counts := []int{0, 1, 2, 3, 8, 50, 99, 100, 101, 399, 400}
	for _, v := range list {
		counts = append(counts, v.Left-1, v.Left, v.Left+1, v.Left+v.Length, 8*v.Length)
	}
	return within(lastSample, counts...)
}

func TestP75SumsFollowTheRule(t *testing.T) {
	forVoiceLists(t, func(list []impl.Voice) {
		all := mixOf(list, lastSample)
		for n := range lastSample + 1 {
			checkMix(t, list, n, all[:n])
		}
	})
}

// TestP75GroupsAddUp uses nothing but the promise: it has every choice of the channels of a group, the others being the other one.
func TestP75GroupsAddUp(t *testing.T) {
	forVoiceLists(t, func(list []impl.Voice) {
		for chosen := range 1 << len(list) {
			var groups [2][]impl.Voice
			for place, v := range list {
				number := chosen >> place & 1
				groups[number] = append(groups[number], v)
			}
			for _, n := range someSampleCounts(list) {
				first, second := impl.MixVoices(groups[0], n), impl.MixVoices(groups[1], n)
				if len(first) != n || len(second) != n {
					t.Fatal("length", groups, n, len(first), len(second))
				}
				want := make([]int, n)
				for k := range want {
					want[k] = first[k] + second[k]
				}
				checkMix(t, list, n, want)
				checkMix(t, slices.Concat(groups[1], groups[0]), n, want)
			}
		}
	})
}

func TestP75OneChannelAloneIsPlayed(t *testing.T) {
	forVoices(func(v impl.Voice) {
		if v.Volume != 9 {
			return
		}
		for _, n := range edgeSampleCounts(v, lastSample) {
			samples, _ := impl.PlayVoice(v, n)
			if len(samples) != n {
				t.Fatal("length", v, n, len(samples))
			}
			checkMix(t, []impl.Voice{v}, n, samples)
		}
	})
	forAllVoices(func(v impl.Voice) {
		samples, _ := impl.PlayVoice(v, lastSample)
		checkMix(t, []impl.Voice{v}, lastSample, samples)
	})
}

// TestP75NoChannelsAreSilent: there are as many samples as are wanted, all of them 0.
func TestP75NoChannelsAreSilent(t *testing.T) {
	for n := range lastSample + 1 {
		checkMix(t, nil, n, make([]int, n))
		checkMix(t, []impl.Voice{}, n, make([]int, n))
		checkMix(t, []impl.Voice{{Length: 3, High: 8, Volume: 7, Left: 3}}[:0], n, make([]int, n))
		checkMix(t, make([]impl.Voice, 0, 9), n, make([]int, n))
	}
}

func TestP75EqualChannels(t *testing.T) {
	forVoices(func(v impl.Voice) {
		if v.High%3 != 0 {
			return
		}
		samples, _ := impl.PlayVoice(v, lastSample)
		for times := 1; times <= 4; times++ {
			want := make([]int, lastSample)
			for k := range want {
				want[k] = times * samples[k]
			}
			checkMix(t, slices.Repeat([]impl.Voice{v}, times), lastSample, want)
		}
	})
}

// TestP75SilentChannels: what is not heard does not change the sums.
func TestP75SilentChannels(t *testing.T) {
	forVoiceLists(t, func(list []impl.Voice) {
		if len(list) == 4 {
			return
		}
		want := impl.MixVoices(list, 300)
		for _, silent := range []impl.Voice{{Length: 7, High: 8, Step: 3, Left: 2}, {Length: 7, Volume: 15, Step: 3, Left: 2}} {
			for place := range len(list) + 1 {
				checkMix(t, slices.Insert(slices.Clone(list), place, silent), 300, want)
			}
		}
	})
}

func TestP75SumsWorkedOutByHand(t *testing.T) {
	v := impl.Voice{Length: 2, High: 1, Volume: 9, Left: 2}
	for _, c := range []struct {
		list []impl.Voice
		n    int
		want []int
	}{
		{nil, 0, nil},
		{nil, 3, []int{0, 0, 0}},
		{[]impl.Voice{v}, 0, nil},
		{[]impl.Voice{v}, 3, []int{9, 9, 0}},
		{[]impl.Voice{v, v}, 3, []int{18, 18, 0}},
		{[]impl.Voice{v, {Length: 3, High: 2, Volume: 4, Step: 1, Left: 1}}, 4, []int{13, 9, 0, 0}},
		{[]impl.Voice{v, {Length: 3, High: 2, Volume: 4, Step: 7, Left: 2}}, 5, []int{9, 9, 4, 4, 4}},
		{[]impl.Voice{{Length: 3, High: 2, Volume: 4, Step: 7, Left: 2}, v}, 5, []int{9, 9, 4, 4, 4}},
		{[]impl.Voice{{Length: 1, High: 1, Volume: 1, Left: 1}, {Length: 1, High: 2, Volume: 2, Left: 1}, {Length: 1, High: 3, Volume: 4, Left: 1}, {Length: 1, High: 4, Volume: 8, Left: 1}}, 9, []int{15, 14, 12, 8, 0, 0, 0, 0, 15}},
		{slices.Repeat([]impl.Voice{{Length: 100, High: 8, Volume: 15, Step: 7, Left: 1}}, 4), 400, slices.Repeat([]int{60}, 400)},
	} {
		checkMix(t, c.list, c.n, c.want)
	}
}

func TestP75OtherNumbersOfSamples(t *testing.T) {
	forVoiceLists(t, func(list []impl.Voice) {
		for _, n := range notSampleCounts {
			checkNoMix(t, list, n)
		}
	})
	for n := -1000; n <= 1400; n++ {
		for count := range 5 {
			if got := len(impl.MixVoices(mixedVoices(9, count), n)); got != n*digit(n >= 0 && n <= lastSample) {
				t.Fatal(count, n, got)
			}
		}
	}
}

func TestP75TooManyChannels(t *testing.T) {
	for count := 5; count <= 70; count++ {
		for _, v := range goodVoices() {
			for _, n := range []int{0, 1, 8, 400, 401, -1} {
				checkNoMix(t, slices.Repeat([]impl.Voice{v}, count), n)
			}
		}
	}
	for _, count := range []int{255, 256, 257, 260, 1000, 65536 + 2} {
		checkNoMix(t, slices.Repeat([]impl.Voice{{Length: 1, Left: 1}}, count), 5)
	}
	// Of one list the first four channels are valid together, and the first five are not.
	list := mixedVoices(77, 8)
	checkMix(t, list[:4], 90, mixOf(list[:4], 90))
	checkNoMix(t, list[:5], 90)
}

// TestP75AnInvalidChannelAmongOthers has each invalid channel in each place of lists of every length.
func TestP75AnInvalidChannelAmongOthers(t *testing.T) {
	number := 0
	forBrokenVoices(func(v impl.Voice) {
		for count := range 4 {
			for place := range count + 1 {
				number++
				list := slices.Insert(mixedVoices(number, count), place, v)
				for _, n := range []int{0, 1, 400, -1} {
					checkNoMix(t, list, n)
				}
			}
		}
		checkNoMix(t, []impl.Voice{v, v, v, v}, 10)
	})
}

// TestP75SumsAreNewMemory overwrites sums, and what an append to them could reach: neither the channels nor other sums may change.
func TestP75SumsAreNewMemory(t *testing.T) {
	forVoiceLists(t, func(list []impl.Voice) {
		for _, n := range someSampleCounts(list) {
			want := mixOf(list, n)
			first, second := impl.MixVoices(list, n), impl.MixVoices(list, n)
			spoilList(first)
			spoilList(append(first, 1, 2, 3))
			if !slices.Equal(second, want) {
				t.Fatal("other result", list, n, second)
			}
			checkMix(t, list, n, want)
		}
	})
}

// TestP75ChangingTheListAfterwards: the sums stay what they were.
func TestP75ChangingTheListAfterwards(t *testing.T) {
	for _, list := range voiceLists() {
		want, got := mixOf(list, 200), impl.MixVoices(list, 200)
		clear(list)
		if !slices.Equal(got, want) {
			t.Fatal(want, got)
		}
	}
}

func TestP75CallsDependOnTheirArgumentsAlone(t *testing.T) {
	list, other := mixedVoices(3, 4), mixedVoices(8, 2)
	want, wantOther := mixOf(list, 70), mixOf(other, lastSample)
	for range 5 {
		checkMix(t, list, 70, want)
		checkNoMix(t, list, 401)
		checkMix(t, other, lastSample, wantOther)
		checkNoMix(t, append(slices.Clone(other), impl.Voice{}), 70)
		checkMix(t, nil, 2, []int{0, 0})
	}
}
