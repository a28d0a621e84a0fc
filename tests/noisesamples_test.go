package tests

import (
	"math"
	"slices"
	"testing"

	"loop.example/homeconsole/impl"
)

// noiseOf goes sample by sample; written from the document.
func noiseOf(state int, n int) []int {
	var samples []int
	for range n {
		samples = append(samples, state%2)
		state = nextOf(state)
	}
	return samples
}

func checkNoise(t *testing.T, state int, n int, want []int) {
	t.Helper()
	if got := impl.NoiseSamples(state, n); !slices.Equal(got, want) {
		t.Fatal(state, n, "wanted", want, "got", got)
	}
}

func checkNoNoise(t *testing.T, state int, n int) {
	t.Helper()
	if got := impl.NoiseSamples(state, n); got != nil {
		t.Fatal(state, n, "not valid, but got", got)
	}
}

func TestP78EveryState(t *testing.T) {
	for state := 1; state <= lastState; state++ {
		want := noiseOf(state, lastSample)
		for _, n := range []int{0, 1, 2, 14, 15, 16, 30, 399, 400} {
			checkNoise(t, state, n, want[:n])
		}
	}
}

func TestP78EveryNumberOfSamples(t *testing.T) {
	for _, state := range edgeNoiseStates {
		want := noiseOf(state, lastSample)
		for n := range lastSample + 1 {
			checkNoise(t, state, n, want[:n])
		}
	}
}

// TestP78ShorterListsAreTheBeginning uses nothing but the promise.
func TestP78ShorterListsAreTheBeginning(t *testing.T) {
	for _, state := range edgeNoiseStates {
		var lists [lastSample + 1][]int
		for n := range lists {
			lists[n] = impl.NoiseSamples(state, n)
		}
		for n, longer := range lists {
			for shorter := range n {
				if !slices.Equal(longer[:shorter], lists[shorter]) {
					t.Fatal(state, n, shorter, longer, lists[shorter])
				}
			}
		}
	}
}

// TestP78SamplesAreDigits uses nothing but the promise.
func TestP78SamplesAreDigits(t *testing.T) {
	for state := 1; state <= lastState; state++ {
		samples := impl.NoiseSamples(state, lastSample)
		if len(samples) != lastSample || samples[0] != state&1 {
			t.Fatal(state, samples)
		}
		for _, sample := range samples {
			if sample != 0 && sample != 1 {
				t.Fatal(state, samples)
			}
		}
	}
}

// TestP78FirstSamplesAreTheState: its fifteen digits are heard one after the other, the lowest one first.
func TestP78FirstSamplesAreTheState(t *testing.T) {
	for state := 1; state <= lastState; state++ {
		number := 0
		for place, sample := range impl.NoiseSamples(state, 15) {
			number += sample << place
		}
		if number != state {
			t.Fatal(state, number)
		}
	}
}

// TestP78LaterSamples: a sample is the exclusive or of the two that are fifteen and fourteen before it.
func TestP78LaterSamples(t *testing.T) {
	for state := 1; state <= lastState; state++ {
		samples := impl.NoiseSamples(state, lastSample)
		for k := 15; k < len(samples); k++ {
			if samples[k] != samples[k-15]^samples[k-14] {
				t.Fatal(state, k, samples)
			}
		}
	}
}

// TestP78SamplesOfTheNextState: they are those of the state without the first one.
func TestP78SamplesOfTheNextState(t *testing.T) {
	for state := 1; state <= lastState; state++ {
		samples := impl.NoiseSamples(state, lastSample)
		checkNoise(t, impl.NextNoise(state), lastSample-1, samples[1:])
	}
}

func TestP78SamplesWorkedOutByHand(t *testing.T) {
	// Of the places 0 to 45, those at which a 1 is heard.
	for _, c := range []struct {
		state int
		ones  []int
	}{
		{1, []int{0, 15, 29, 30, 43, 45}},
		{2, []int{1, 15, 16, 29, 31, 43, 44, 45}},
		{3, []int{0, 1, 16, 30, 31, 44}},
		{16384, []int{14, 28, 29, 42, 44}},
		{32767, []int{0, 1, 2, 3, 4, 5, 6, 7, 8, 9, 10, 11, 12, 13, 14, 29, 43, 44}},
	} {
		want := make([]int, 46)
		for _, place := range c.ones {
			want[place] = 1
		}
		checkNoise(t, c.state, 46, want)
	}
	for _, c := range []struct {
		state int
		want  []int
	}{
		{1, []int{}},
		{1, []int{1}},
		{1, []int{1, 0, 0}},
		{2, []int{0}},
		{2, []int{0, 1, 0}},
		{16384, []int{0, 0}},
		{32767, []int{1}},
		{32766, []int{0, 1}},
		{5, []int{1, 0, 1, 0}},
	} {
		checkNoise(t, c.state, len(c.want), c.want)
	}
}

func TestP78OtherNumbersOfSamples(t *testing.T) {
	for _, n := range notSampleCounts {
		for _, state := range edgeNoiseStates {
			checkNoNoise(t, state, n)
		}
	}
	for n := -1100; n <= 1500; n++ {
		if got := len(impl.NoiseSamples(21845, n)); got != n*digit(n >= 0 && n <= lastSample) {
			t.Fatal(n, got)
		}
	}
}

func TestP78OtherStates(t *testing.T) {
	for _, bad := range notNoiseStates {
		for n := range lastSample + 1 {
			checkNoNoise(t, bad, n)
		}
		for _, n := range notSampleCounts {
			checkNoNoise(t, bad, n)
		}
	}
	for n := -200000; n <= 200000; n++ {
		if got := len(impl.NoiseSamples(n, 3)); got != 3*digit(n >= 1 && n <= lastState) {
			t.Fatal(n, got)
		}
	}
	checkNoNoise(t, math.MinInt, math.MaxInt)
}

// TestP78SamplesAreNewMemory overwrites samples, and what an append to them could reach: other samples may not change.
func TestP78SamplesAreNewMemory(t *testing.T) {
	for _, state := range edgeNoiseStates {
		for _, n := range []int{0, 1, 2, 15, 16, 399, 400} {
			want := noiseOf(state, n)
			first, second := impl.NoiseSamples(state, n), impl.NoiseSamples(state, n)
			spoilList(first)
			spoilList(append(first, 1, 2, 3))
			if !slices.Equal(second, want) {
				t.Fatal("other result", state, n, second)
			}
			checkNoise(t, state, n, want)
		}
	}
}

func TestP78CallsDependOnTheirArgumentsAlone(t *testing.T) {
	for range 5 {
		checkNoise(t, 1, 16, noiseOf(1, 16))
		checkNoNoise(t, 1, 401)
		checkNoise(t, 30000, 400, noiseOf(30000, 400))
		checkNoNoise(t, 0, 16)
		checkNoise(t, 1, 3, noiseOf(1, 3))
	}
}
