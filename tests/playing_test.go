package tests

import (
	"math"
	"slices"
	"testing"

	"loop.example/homeconsole/impl"
)

const lastSample = 400

// notSampleCounts has numbers of samples that are not computed together.
var notSampleCounts = []int{-1, -2, -3, -8, -255, -256, -399, -400, -401, 401, 402, 403, 512, 656, 800, 1000, 65536, 65536 + 5, 100000, 100001, 1 << 32, 1<<32 + 3, -(1 << 32), -(1 << 32) + 3, math.MaxInt, math.MaxInt - 1, math.MinInt, math.MinInt + 1}

// edgeSampleCounts are around the end of the step, of the next one, and of eight steps.
func edgeSampleCounts(v impl.Voice, last int) []int {
	list := []int{0, 1, 2, v.Left / 2, v.Left + v.Length/2, 100, 255, 256, last - 2, last - 1, last}
	for _, at := range []int{v.Left, v.Length, v.Left + v.Length, v.Left + 2*v.Length, v.Left + 7*v.Length, 8 * v.Length, 8*v.Length + v.Left, 16 * v.Length, last / v.Length * v.Length} {
		list = append(list, at-1, at, at+1)
	}
	return within(last, list...)
}

func checkPlayed(t *testing.T, v impl.Voice, n int, samples []int, after impl.Voice) {
	t.Helper()
	if got, next := impl.PlayVoice(v, n); !slices.Equal(got, samples) || next != after {
		t.Fatal(v, n, "wanted", samples, after, "got", got, next)
	}
}

func checkNotPlayed(t *testing.T, v impl.Voice, n int) {
	t.Helper()
	checkPlayed(t, v, n, nil, impl.Voice{})
}

// playedInARow plays more samples than are played together, as many as possible each time.
func playedInARow(v impl.Voice, n int) ([]int, impl.Voice) {
	var all, samples []int
	for n > 0 {
		part := min(n, lastSample)
		samples, v = impl.PlayVoice(v, part)
		all = append(all, samples...)
		n -= part
	}
	return all, v
}

// TestP74EveryChannel plays as much as possible from every valid channel.
func TestP74EveryChannel(t *testing.T) {
	for length := 1; length <= 100; length++ {
		for high := range 9 {
			way := trackOf(firstVoice(length, high, 1+(length+high)%15), 8*length+lastSample)
			for start, v := range way.voices[:8*length] {
				checkPlayed(t, v, lastSample, way.samples[start:start+lastSample], way.voices[start+lastSample])
			}
		}
	}
}

// TestP74EveryNumberOfSamples has every number of samples with channels at the edges of a step, in each step.
func TestP74EveryNumberOfSamples(t *testing.T) {
	forVoices(func(v impl.Voice) {
		if v.Volume != 9 || v.High%4 != 0 && v.High != v.Step {
			return
		}
		way := trackOf(v, lastSample)
		for n := range lastSample + 1 {
			checkPlayed(t, v, n, way.samples[:n], way.voices[n])
		}
	})
}

func TestP74EveryVolume(t *testing.T) {
	forVoices(func(v impl.Voice) {
		way := trackOf(v, lastSample)
		for _, n := range edgeSampleCounts(v, lastSample) {
			checkPlayed(t, v, n, way.samples[:n], way.voices[n])
		}
	})
	for volume := range 16 {
		for _, v := range goodVoices() {
			v.Volume = volume
			way := trackOf(v, lastSample)
			checkPlayed(t, v, lastSample, way.samples, way.voices[lastSample])
		}
	}
}

// TestP74PartsAreTheWhole uses nothing but the promise.
func TestP74PartsAreTheWhole(t *testing.T) {
	forVoices(func(v impl.Voice) {
		if v.Volume != 9 || v.High%4 != 0 && v.High != 3 {
			return
		}
		for _, n := range edgeSampleCounts(v, lastSample) {
			whole, last := impl.PlayVoice(v, n)
			if len(whole) != n {
				t.Fatal("length", v, n, len(whole))
			}
			for _, part := range within(n, 0, 1, v.Left-1, v.Left, v.Left+1, v.Left+v.Length, 8*v.Length, n/2, n-1, n) {
				first, between := impl.PlayVoice(v, part)
				second, after := impl.PlayVoice(between, n-part)
				if got := slices.Concat(first, second); !slices.Equal(got, whole) || len(first) != part || after != last {
					t.Fatal(v, part, n, "wanted", whole, last, "got", got, after)
				}
			}
		}
	})
}

// TestP74EveryPart divides every number of samples at every place.
func TestP74EveryPart(t *testing.T) {
	for _, v := range []impl.Voice{{Length: 3, High: 3, Volume: 11, Step: 6, Left: 2}, {Length: 70, High: 5, Volume: 2, Step: 4, Left: 33}} {
		whole, _ := impl.PlayVoice(v, lastSample)
		for part := range lastSample + 1 {
			first, between := impl.PlayVoice(v, part)
			for n := part; n <= lastSample; n++ {
				second, _ := impl.PlayVoice(between, n-part)
				if !slices.Equal(first, whole[:part]) || !slices.Equal(second, whole[part:n]) {
					t.Fatal(v, part, n, first, second)
				}
			}
		}
	}
}

func TestP74SamplesAreZeroOrTheVolume(t *testing.T) {
	forAllVoices(func(v impl.Voice) {
		samples, after := impl.PlayVoice(v, lastSample)
		for _, sample := range samples {
			if sample != 0 && sample != v.Volume {
				t.Fatal(v, samples)
			}
		}
		if v.High == 0 && slices.Contains(samples, v.Volume) || v.High == 8 && slices.Contains(samples, 0) {
			t.Fatal("high", v, samples)
		}
		if len(samples) != lastSample || !impl.VoiceValid(after) {
			t.Fatal(v, len(samples), after)
		}
	})
}

// TestP74SamplesRepeatAfterEightSteps plays sixteen steps of every valid channel.
func TestP74SamplesRepeatAfterEightSteps(t *testing.T) {
	forAllVoices(func(v impl.Voice) {
		first, between := playedInARow(v, 8*v.Length)
		if between != v {
			t.Fatal("eight steps", v, between)
		}
		if 16*v.Length <= lastSample {
			both, after := impl.PlayVoice(v, 16*v.Length)
			if !slices.Equal(both[:8*v.Length], first) || !slices.Equal(both[8*v.Length:], first) || after != v {
				t.Fatal("sixteen steps", v, first, both, after)
			}
		}
	})
}

func TestP74SamplesWorkedOutByHand(t *testing.T) {
	for _, c := range []struct {
		v       impl.Voice
		n       int
		samples []int
		after   impl.Voice
	}{
		{impl.Voice{Length: 2, High: 1, Volume: 9, Left: 2}, 5, []int{9, 9, 0, 0, 0}, impl.Voice{Length: 2, High: 1, Volume: 9, Step: 2, Left: 1}},
		// None, one, and as many as are left of a step.
		{impl.Voice{Length: 7, High: 3, Volume: 4, Step: 2, Left: 5}, 0, nil, impl.Voice{Length: 7, High: 3, Volume: 4, Step: 2, Left: 5}},
		{impl.Voice{Length: 7, High: 3, Volume: 4, Step: 2, Left: 5}, 1, []int{4}, impl.Voice{Length: 7, High: 3, Volume: 4, Step: 2, Left: 4}},
		{impl.Voice{Length: 7, High: 3, Volume: 4, Step: 2, Left: 5}, 4, []int{4, 4, 4, 4}, impl.Voice{Length: 7, High: 3, Volume: 4, Step: 2, Left: 1}},
		{impl.Voice{Length: 7, High: 3, Volume: 4, Step: 2, Left: 5}, 5, []int{4, 4, 4, 4, 4}, impl.Voice{Length: 7, High: 3, Volume: 4, Step: 3, Left: 7}},
		{impl.Voice{Length: 7, High: 3, Volume: 4, Step: 2, Left: 5}, 6, []int{4, 4, 4, 4, 4, 0}, impl.Voice{Length: 7, High: 3, Volume: 4, Step: 3, Left: 6}},
		// One sample left, and the step behind the last one.
		{impl.Voice{Length: 3, High: 1, Volume: 15, Step: 7, Left: 1}, 1, []int{0}, impl.Voice{Length: 3, High: 1, Volume: 15, Left: 3}},
		{impl.Voice{Length: 3, High: 1, Volume: 15, Step: 7, Left: 1}, 5, []int{0, 15, 15, 15, 0}, impl.Voice{Length: 3, High: 1, Volume: 15, Step: 1, Left: 2}},
		{impl.Voice{Length: 3, High: 1, Volume: 15, Step: 7, Left: 3}, 4, []int{0, 0, 0, 15}, impl.Voice{Length: 3, High: 1, Volume: 15, Left: 2}},
		// Steps of one sample: none high, some, and all.
		{impl.Voice{Length: 1, Volume: 15, Left: 1}, 9, []int{0, 0, 0, 0, 0, 0, 0, 0, 0}, impl.Voice{Length: 1, Volume: 15, Step: 1, Left: 1}},
		{impl.Voice{Length: 1, High: 3, Volume: 2, Step: 1, Left: 1}, 10, []int{2, 2, 0, 0, 0, 0, 0, 2, 2, 2}, impl.Voice{Length: 1, High: 3, Volume: 2, Step: 3, Left: 1}},
		{impl.Voice{Length: 1, High: 7, Volume: 1, Step: 6, Left: 1}, 3, []int{1, 0, 1}, impl.Voice{Length: 1, High: 7, Volume: 1, Step: 1, Left: 1}},
		{impl.Voice{Length: 1, High: 8, Volume: 1, Step: 6, Left: 1}, 3, []int{1, 1, 1}, impl.Voice{Length: 1, High: 8, Volume: 1, Step: 1, Left: 1}},
		// A volume of 0 is silent also in high steps.
		{impl.Voice{Length: 2, High: 8, Left: 2}, 3, []int{0, 0, 0}, impl.Voice{Length: 2, High: 8, Step: 1, Left: 1}},
		// Steps of a hundred samples.
		{impl.Voice{Length: 100, High: 2, Volume: 6, Left: 100}, 400, slices.Concat(slices.Repeat([]int{6}, 200), make([]int, 200)), impl.Voice{Length: 100, High: 2, Volume: 6, Step: 4, Left: 100}},
		{impl.Voice{Length: 100, High: 2, Volume: 6, Step: 5, Left: 1}, 400, slices.Concat(make([]int, 201), slices.Repeat([]int{6}, 199)), impl.Voice{Length: 100, High: 2, Volume: 6, Step: 1, Left: 1}},
		{impl.Voice{Length: 50, High: 8, Volume: 7, Step: 3, Left: 20}, 400, slices.Repeat([]int{7}, 400), impl.Voice{Length: 50, High: 8, Volume: 7, Step: 3, Left: 20}},
	} {
		checkPlayed(t, c.v, c.n, c.samples, c.after)
	}
}

func TestP74OtherNumbersOfSamples(t *testing.T) {
	for _, n := range notSampleCounts {
		forVoices(func(v impl.Voice) { checkNotPlayed(t, v, n) })
	}
	v := impl.Voice{Length: 5, High: 3, Volume: 12, Step: 1, Left: 2}
	for n := -1000; n <= 1400; n++ {
		samples, after := impl.PlayVoice(v, n)
		inside := n >= 0 && n <= lastSample
		if len(samples) != n*digit(inside) || (after == impl.Voice{}) == inside {
			t.Fatal(n, len(samples), after)
		}
	}
}

func TestP74OtherChannels(t *testing.T) {
	forBrokenVoices(func(v impl.Voice) {
		for _, n := range []int{0, 1, 2, 8, 100, 399, 400, -1, 401, math.MinInt} {
			checkNotPlayed(t, v, n)
		}
	})
}

// TestP74SamplesAreNewMemory overwrites samples, and what an append to them could reach: other samples may not change.
func TestP74SamplesAreNewMemory(t *testing.T) {
	for _, v := range goodVoices() {
		for _, n := range edgeSampleCounts(v, lastSample) {
			way := trackOf(v, n)
			first, _ := impl.PlayVoice(v, n)
			second, _ := impl.PlayVoice(v, n)
			spoilList(first)
			spoilList(append(first, 1, 2, 3))
			if !slices.Equal(second, way.samples) {
				t.Fatal("other result", v, n, second)
			}
			checkPlayed(t, v, n, way.samples, way.voices[n])
		}
	}
}

func TestP74CallsDependOnTheirArgumentsAlone(t *testing.T) {
	v, other := impl.Voice{Length: 4, High: 2, Volume: 5, Step: 1, Left: 3}, impl.Voice{Length: 60, High: 7, Volume: 13, Step: 7, Left: 1}
	way, otherWay := trackOf(v, 90), trackOf(other, lastSample)
	for range 5 {
		checkPlayed(t, v, 90, way.samples, way.voices[90])
		checkNotPlayed(t, v, 401)
		checkPlayed(t, other, lastSample, otherWay.samples, otherWay.voices[lastSample])
		checkNotPlayed(t, impl.Voice{Length: 4, Left: 5}, 90)
		checkPlayed(t, v, 7, way.samples[:7], way.voices[7])
	}
}

func countOfHigh(samples []int) int {
	count := 0
	for _, sample := range samples {
		count += digit(sample != 0)
	}
	return count
}

func checkDuty(t *testing.T, v impl.Voice) {
	t.Helper()
	want := v.High * v.Length * digit(v.Volume > 0)
	samples, _ := playedInARow(v, 8*v.Length)
	if got := countOfHigh(samples); got != want || len(samples) != 8*v.Length {
		t.Fatal(v, "wanted", want, "got", got, "of", len(samples))
	}
}

// TestP126EveryChannel plays eight steps from every valid channel, also from the middle of a step.
func TestP126EveryChannel(t *testing.T) {
	forAllVoices(func(v impl.Voice) { checkDuty(t, v) })
}

// TestP126EveryVolume has a volume of 0, too: such channels are silent.
func TestP126EveryVolume(t *testing.T) {
	forVoices(func(v impl.Voice) {
		for volume := range 16 {
			if v.Volume == 9 {
				checkDuty(t, impl.Voice{Length: v.Length, High: v.High, Volume: volume, Step: v.Step, Left: v.Left})
			}
		}
	})
}

// TestP126EightStepsAtOnce has only steps that are played together eight times; so it has their order as well.
func TestP126EightStepsAtOnce(t *testing.T) {
	for length := 1; length <= 50; length++ {
		for high := range 9 {
			v := firstVoice(length, high, 1+(length+high)%15)
			samples, after := impl.PlayVoice(v, 8*length)
			want := append(slices.Repeat([]int{v.Volume}, high*length), make([]int, (8-high)*length)...)
			if !slices.Equal(samples, want) || after != v {
				t.Fatal(v, samples, after)
			}
		}
	}
}

// TestP126MoreEightSteps: in several times eight steps there are so many times the high samples.
func TestP126MoreEightSteps(t *testing.T) {
	for _, v := range goodVoices() {
		for times := range 6 {
			samples, after := playedInARow(v, 8*v.Length*times)
			if countOfHigh(samples) != times*v.High*v.Length*digit(v.Volume > 0) || after != v {
				t.Fatal(v, times, countOfHigh(samples), after)
			}
		}
	}
}

func TestP126DutiesWorkedOutByHand(t *testing.T) {
	for _, c := range []struct {
		v    impl.Voice
		n    int
		want int
	}{
		{impl.Voice{Length: 1, High: 1, Volume: 1, Left: 1}, 8, 1},
		{impl.Voice{Length: 1, High: 8, Volume: 1, Step: 3, Left: 1}, 8, 8},
		{impl.Voice{Length: 1, High: 0, Volume: 15, Step: 3, Left: 1}, 8, 0},
		{impl.Voice{Length: 10, High: 4, Volume: 15, Step: 3, Left: 4}, 80, 40},
		{impl.Voice{Length: 10, High: 4, Volume: 0, Step: 3, Left: 4}, 80, 0},
		{impl.Voice{Length: 50, High: 3, Volume: 7, Step: 7, Left: 1}, 400, 150},
		{impl.Voice{Length: 50, High: 8, Volume: 7, Left: 49}, 400, 400},
		// One sample less or more than eight steps.
		{impl.Voice{Length: 10, High: 4, Volume: 15, Step: 3, Left: 4}, 79, 39},
		{impl.Voice{Length: 10, High: 4, Volume: 15, Step: 3, Left: 4}, 81, 41},
		{impl.Voice{Length: 10, High: 4, Volume: 15, Step: 4, Left: 4}, 81, 40},
	} {
		samples, _ := impl.PlayVoice(c.v, c.n)
		if got := countOfHigh(samples); got != c.want || len(samples) != c.n {
			t.Error(c.v, c.n, "wanted", c.want, "got", got)
		}
	}
}

func TestP126OtherChannelsHaveNoSamples(t *testing.T) {
	forBrokenVoices(func(v impl.Voice) {
		if samples, after := impl.PlayVoice(v, 80); len(samples) != 0 || after != (impl.Voice{}) {
			t.Fatal(v, samples, after)
		}
	})
	for _, n := range notSampleCounts {
		if samples, _ := impl.PlayVoice(impl.Voice{Length: 10, High: 4, Volume: 15, Left: 10}, n); len(samples) != 0 {
			t.Fatal(n, samples)
		}
	}
}
