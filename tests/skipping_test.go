package tests

import (
	"math"
	"slices"
	"testing"

	"loop.example/homeconsole/impl"
)

func checkSkipped(t *testing.T, v impl.Voice, n int, want impl.Voice) {
	t.Helper()
	if got := impl.SkipVoice(v, n); got != want {
		t.Fatal(v, n, "wanted", want, "got", got)
	}
}

func checkNotSkipped(t *testing.T, v impl.Voice, n int) {
	t.Helper()
	checkSkipped(t, v, n, impl.Voice{})
}

// TestP6SkippingIsPlaying uses nothing but the promise.
func TestP6SkippingIsPlaying(t *testing.T) {
	check := func(v impl.Voice, n int) {
		if _, after := impl.PlayVoice(v, n); impl.SkipVoice(v, n) != after || !impl.VoiceValid(after) {
			t.Fatal(v, n, "played", after, "skipped", impl.SkipVoice(v, n))
		}
	}
	forVoices(func(v impl.Voice) {
		for _, n := range edgeSampleCounts(v, lastSample) {
			check(v, n)
		}
	})
	forAllVoices(func(v impl.Voice) {
		for _, n := range []int{0, 1, v.Left, v.Left + v.Length, lastSample} {
			check(v, n)
		}
	})
}

// TestP6PlayingInARow plays as many samples as are skipped together.
func TestP6PlayingInARow(t *testing.T) {
	for _, v := range goodVoices() {
		between := v
		for n := 0; n <= lastCycle; n += lastSample {
			checkSkipped(t, v, n, between)
			_, between = impl.PlayVoice(between, lastSample)
		}
	}
}

// TestP6EveryChannel skips every number of samples in eight steps, from each place in these.
func TestP6EveryChannel(t *testing.T) {
	for length := 1; length <= 100; length++ {
		circle := 8 * length
		way := trackOf(firstVoice(length, length%9, length%16), 2*circle+1)
		for start, v := range way.voices[:circle] {
			for n := range circle + 2 {
				if got := impl.SkipVoice(v, n); got != way.voices[start+n] {
					t.Fatal(v, n, "wanted", way.voices[start+n], "got", got)
				}
			}
		}
	}
}

// TestP6EveryNumberOfSamples goes sample by sample to the last number that is skipped.
func TestP6EveryNumberOfSamples(t *testing.T) {
	for _, length := range edgeLengths {
		for _, left := range stepLefts(length) {
			v := impl.Voice{Length: length, High: left % 9, Volume: length % 16, Step: (left + length) % 8, Left: left}
			for n, want := range trackOf(v, lastCycle).voices {
				if got := impl.SkipVoice(v, n); got != want {
					t.Fatal(v, n, "wanted", want, "got", got)
				}
			}
		}
	}
}

// TestP6HighAndVolumeAreKept: only the step, and what is left of it, depend on the number of samples.
func TestP6HighAndVolumeAreKept(t *testing.T) {
	forVoices(func(v impl.Voice) {
		for _, n := range edgeSampleCounts(v, lastCycle) {
			plain := impl.SkipVoice(impl.Voice{Length: v.Length, Step: v.Step, Left: v.Left}, n)
			checkSkipped(t, v, n, impl.Voice{Length: v.Length, High: v.High, Volume: v.Volume, Step: plain.Step, Left: plain.Left})
		}
	})
}

func TestP6PartsAreTheirSum(t *testing.T) {
	forVoices(func(v impl.Voice) {
		if v.Volume != 9 || v.High%4 != 0 {
			return
		}
		for _, n := range edgeSampleCounts(v, lastCycle) {
			whole := impl.SkipVoice(v, n)
			for _, part := range within(n, 0, 1, v.Left-1, v.Left, v.Left+1, v.Left+v.Length, 8*v.Length, n/3, n/2, n-v.Length, n-1, n) {
				checkSkipped(t, impl.SkipVoice(v, part), n-part, whole)
			}
		}
	})
}

// TestP6PartsWhoseSumIsTooLarge cannot be skipped together, but still one after the other.
func TestP6PartsWhoseSumIsTooLarge(t *testing.T) {
	for _, v := range goodVoices() {
		way := trackOf(v, 2*lastCycle)
		for _, parts := range [][2]int{{lastCycle, 1}, {1, lastCycle}, {50001, 50000}, {lastCycle, lastCycle}, {99999, 2}} {
			sum := parts[0] + parts[1]
			checkSkipped(t, impl.SkipVoice(v, parts[0]), parts[1], way.voices[sum])
			checkNotSkipped(t, v, sum)
		}
	}
}

// TestP6WholeCircles: after eight steps, as often as they fit, every channel is where it was.
func TestP6WholeCircles(t *testing.T) {
	forAllVoices(func(v impl.Voice) {
		circle := 8 * v.Length
		for _, times := range []int{0, 1, 2, lastCycle/circle - 1, lastCycle / circle} {
			checkSkipped(t, v, times*circle, v)
		}
		_, next := sounded(v)
		checkSkipped(t, v, circle+1, next)
		checkSkipped(t, next, circle-1, v)
	})
}

func TestP6SkippedWorkedOutByHand(t *testing.T) {
	v := impl.Voice{Length: 7, High: 3, Volume: 4, Step: 2, Left: 5}
	at := func(step int, left int) impl.Voice {
		return impl.Voice{Length: 7, High: 3, Volume: 4, Step: step, Left: left}
	}
	for _, c := range []struct {
		v    impl.Voice
		n    int
		want impl.Voice
	}{
		{v, 0, v},
		{v, 1, at(2, 4)},
		{v, 4, at(2, 1)},
		{v, 5, at(3, 7)},
		{v, 6, at(3, 6)},
		{v, 11, at(3, 1)},
		{v, 12, at(4, 7)},
		{v, 33, at(7, 7)},
		{v, 39, at(7, 1)},
		{v, 40, at(0, 7)},
		{v, 41, at(0, 6)},
		{v, 54, at(2, 7)},
		{v, 55, at(2, 6)},
		{v, 56, v},
		{v, 57, at(2, 4)},
		{v, 112, v},
		// 100000 is 1785 times 56, and 40.
		{v, 100000, at(0, 7)},
		{v, 99999, at(7, 1)},
		{impl.Voice{Length: 1, Left: 1}, 1, impl.Voice{Length: 1, Step: 1, Left: 1}},
		{impl.Voice{Length: 1, Step: 7, Left: 1}, 1, impl.Voice{Length: 1, Left: 1}},
		{impl.Voice{Length: 1, Step: 7, Left: 1}, 100000, impl.Voice{Length: 1, Step: 7, Left: 1}},
		{impl.Voice{Length: 1, Step: 3, Left: 1}, 99999, impl.Voice{Length: 1, Step: 2, Left: 1}},
		{impl.Voice{Length: 100, Step: 7, Left: 100}, 99, impl.Voice{Length: 100, Step: 7, Left: 1}},
		{impl.Voice{Length: 100, Step: 7, Left: 100}, 100, impl.Voice{Length: 100, Left: 100}},
		{impl.Voice{Length: 100, Step: 7, Left: 1}, 1, impl.Voice{Length: 100, Left: 100}},
		{impl.Voice{Length: 100, Step: 7, Left: 1}, 2, impl.Voice{Length: 100, Left: 99}},
		{impl.Voice{Length: 100, Step: 7, Left: 1}, 100000, impl.Voice{Length: 100, Step: 7, Left: 1}},
		{impl.Voice{Length: 2, High: 1, Volume: 9, Left: 2}, 5, impl.Voice{Length: 2, High: 1, Volume: 9, Step: 2, Left: 1}},
	} {
		checkSkipped(t, c.v, c.n, c.want)
	}
}

func TestP6OtherNumbersOfSamples(t *testing.T) {
	for _, n := range notTimerCycles {
		forVoices(func(v impl.Voice) { checkNotSkipped(t, v, n) })
	}
	v := impl.Voice{Length: 3, High: 8, Volume: 12, Left: 3}
	for n := -1100; n <= lastCycle+1100; n++ {
		if got := impl.SkipVoice(v, n); (got == impl.Voice{}) != (n < 0 || n > lastCycle) {
			t.Fatal(n, got)
		}
	}
}

func TestP6OtherChannels(t *testing.T) {
	counts := slices.Concat([]int{0, 1, 2, 8, 100, 400, 401, 99999, 100000}, notTimerCycles)
	forBrokenVoices(func(v impl.Voice) {
		for _, n := range counts {
			checkNotSkipped(t, v, n)
		}
	})
	// As many samples as would be left are skipped, of a step that does not have them.
	for length := 1; length <= 100; length++ {
		for _, left := range notStepLefts(length) {
			checkNotSkipped(t, impl.Voice{Length: length, High: 1, Volume: 1, Left: left}, left)
			checkNotSkipped(t, impl.Voice{Length: length, High: 1, Volume: 1, Left: left}, 0)
		}
	}
	checkNotSkipped(t, impl.Voice{Length: math.MaxInt, Left: math.MaxInt}, 1)
}

func TestP6CallsDependOnTheirArgumentsAlone(t *testing.T) {
	v, other := impl.Voice{Length: 4, High: 2, Volume: 5, Step: 1, Left: 3}, impl.Voice{Length: 60, High: 7, Volume: 13, Step: 7, Left: 1}
	want, wantOther := trackOf(v, 900).voices[900], trackOf(other, 50000).voices[50000]
	for range 5 {
		checkSkipped(t, v, 900, want)
		checkNotSkipped(t, v, 100001)
		checkSkipped(t, other, 50000, wantOther)
		checkNotSkipped(t, impl.Voice{Length: 4, Left: 5}, 90)
		checkSkipped(t, v, 0, v)
	}
}
