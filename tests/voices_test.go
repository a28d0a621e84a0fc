package tests

import (
	"math"
	"testing"

	"loop.example/homeconsole/impl"
)

// The numbers that the parts of a channel cannot be, also some that would wrap to one that they can be.
var (
	notLengths    = []int{-1, -2, -8, -50, -99, -100, -101, -156, -255, -256, 0, 101, 102, 127, 128, 200, 255, 256, 257, 306, 65536 + 5, 1 << 32, 1<<32 + 3, -(1 << 32), -(1 << 32) + 3, math.MaxInt, math.MinInt, math.MinInt + 1}
	notHighs      = []int{-1, -2, -7, -8, -9, -16, -248, -255, -256, 9, 10, 15, 16, 17, 64, 100, 255, 256, 257, 260, 264, 65536 + 5, 1 << 32, 1<<32 + 3, -(1 << 32), -(1 << 32) + 3, math.MaxInt, math.MinInt, math.MinInt + 1}
	notVolumes    = []int{-1, -2, -14, -15, -16, -17, -241, -255, -256, 16, 17, 24, 30, 31, 32, 47, 100, 255, 256, 257, 265, 271, 65536 + 5, 1 << 32, 1<<32 + 3, -(1 << 32), -(1 << 32) + 3, math.MaxInt, math.MinInt, math.MinInt + 1}
	notStepPlaces = []int{-1, -2, -7, -8, -9, -16, -249, -255, -256, 8, 9, 14, 15, 16, 17, 100, 255, 256, 257, 263, 65536 + 5, 1 << 32, 1<<32 + 3, -(1 << 32), -(1 << 32) + 3, math.MaxInt, math.MinInt, math.MinInt + 1}
)

var edgeLengths = []int{1, 2, 3, 7, 8, 9, 25, 49, 50, 51, 64, 99, 100}

// stepLefts are the end of a step, its beginning, and places between.
func stepLefts(length int) []int {
	lefts := within(length-1, 0, 1, 2, length/2, length-3, length-2, length-1)
	for k := range lefts {
		lefts[k]++
	}
	return lefts
}

// notStepLefts are numbers of samples that a step of a length does not have left.
func notStepLefts(length int) []int {
	list := []int{-1, -2, -length, -length - 1, 1 - length, -100, -255, -256, 0, length + 1, length + 2, 2 * length, 2*length + 1, 8 * length, 101, 255, 256 + length, 65536 + 1, 1 << 32, 1<<32 + 1, -(1 << 32), -(1 << 32) + 1, math.MaxInt, math.MinInt, math.MinInt + 1}
	var others []int
	for _, n := range list {
		if n < 1 || n > length {
			others = append(others, n)
		}
	}
	return others
}

// forVoices calls a check for channels at all edges of a step, in every step, with every number of high ones.
func forVoices(check func(v impl.Voice)) {
	for _, length := range edgeLengths {
		for _, left := range stepLefts(length) {
			for high := range 9 {
				for step := range 8 {
					for _, volume := range []int{0, 1, 9, 15} {
						check(impl.Voice{Length: length, High: high, Volume: volume, Step: step, Left: left})
					}
				}
			}
		}
	}
}

// forAllVoices calls a check for all valid channels but for their volume, which is another number from 1 on each time.
func forAllVoices(check func(v impl.Voice)) {
	volume := 0
	for length := 1; length <= 100; length++ {
		for left := 1; left <= length; left++ {
			for high := range 9 {
				for step := range 8 {
					check(impl.Voice{Length: length, High: high, Volume: 1 + volume%15, Step: step, Left: left})
					volume++
				}
			}
		}
	}
}

// goodVoices are those that are spoiled in one part to find out whether it is checked.
func goodVoices() []impl.Voice {
	return []impl.Voice{
		{Length: 1, Left: 1},
		{Length: 1, High: 8, Volume: 15, Step: 7, Left: 1},
		{Length: 100, High: 8, Volume: 15, Step: 7, Left: 100},
		{Length: 100, High: 4, Volume: 8, Left: 1},
		{Length: 100, Volume: 3, Step: 2, Left: 99},
		{Length: 9, High: 2, Volume: 5, Step: 3, Left: 4},
		{Length: 50, High: 1, Step: 6, Left: 50},
	}
}

// spoiledVoices has a channel with each of its parts below and above its range.
func spoiledVoices(v impl.Voice) []impl.Voice {
	var list []impl.Voice
	for _, bad := range notLengths {
		list = append(list, impl.Voice{Length: bad, High: v.High, Volume: v.Volume, Step: v.Step, Left: v.Left})
		// Here what is left agrees with the length, so that the length alone is wrong.
		list = append(list, impl.Voice{Length: bad, High: v.High, Volume: v.Volume, Step: v.Step, Left: bad})
	}
	for _, bad := range notHighs {
		list = append(list, impl.Voice{Length: v.Length, High: bad, Volume: v.Volume, Step: v.Step, Left: v.Left})
	}
	for _, bad := range notVolumes {
		list = append(list, impl.Voice{Length: v.Length, High: v.High, Volume: bad, Step: v.Step, Left: v.Left})
	}
	for _, bad := range notStepPlaces {
		list = append(list, impl.Voice{Length: v.Length, High: v.High, Volume: v.Volume, Step: bad, Left: v.Left})
	}
	for _, bad := range notStepLefts(v.Length) {
		list = append(list, impl.Voice{Length: v.Length, High: v.High, Volume: v.Volume, Step: v.Step, Left: bad})
	}
	return list
}

// forBrokenVoices calls a check for channels with one part that is not valid, or with several.
func forBrokenVoices(check func(v impl.Voice)) {
	for _, good := range goodVoices() {
		for _, v := range spoiledVoices(good) {
			check(v)
		}
	}
	for _, bad := range []int{-1, 101, -256, 1<<32 + 3, math.MaxInt, math.MinInt} {
		for chosen := 1; chosen < 32; chosen++ {
			v := impl.Voice{Length: 20, High: 2, Volume: 7, Step: 3, Left: 5}
			for place, part := range []*int{&v.Length, &v.High, &v.Volume, &v.Step, &v.Left} {
				if chosen>>place&1 == 1 {
					*part = bad
				}
			}
			check(v)
		}
	}
	check(impl.Voice{})
}

// sounded is the next sample of a channel, and the channel after it; written from the document.
func sounded(v impl.Voice) (int, impl.Voice) {
	sample := 0
	if v.Step < v.High {
		sample = v.Volume
	}
	v.Left--
	if v.Left == 0 {
		v.Left = v.Length
		v.Step = (v.Step + 1) % 8
	}
	return sample, v
}

// track is what a channel plays: the samples, and the channel before each of them and after the last one.
type track struct {
	samples []int
	voices  []impl.Voice
}

func trackOf(v impl.Voice, n int) track {
	way := track{make([]int, n), make([]impl.Voice, n+1)}
	for k := range n {
		way.voices[k] = v
		way.samples[k], v = sounded(v)
	}
	way.voices[n] = v
	return way
}

// firstVoice begins with the first step.
func firstVoice(length int, high int, volume int) impl.Voice {
	return impl.Voice{Length: length, High: high, Volume: volume, Left: length}
}

func TestP73ValidChannels(t *testing.T) {
	check := func(v impl.Voice) {
		if !impl.VoiceValid(v) {
			t.Fatal(v)
		}
	}
	forVoices(check)
	for volume := range 16 {
		forAllVoices(func(v impl.Voice) {
			v.Volume = volume
			check(v)
		})
	}
}

func TestP73OtherChannels(t *testing.T) {
	forBrokenVoices(func(v impl.Voice) {
		if impl.VoiceValid(v) {
			t.Fatal(v)
		}
	})
}

// TestP73NoSamplesLeft takes the samples that are left away from every valid channel.
func TestP73NoSamplesLeft(t *testing.T) {
	forAllVoices(func(v impl.Voice) {
		if !impl.VoiceValid(v) {
			t.Fatal("before", v)
		}
		v.Left = 0
		if impl.VoiceValid(v) {
			t.Fatal(v)
		}
		v.Left = -1
		if impl.VoiceValid(v) {
			t.Fatal(v)
		}
	})
}

func TestP73NineHighSteps(t *testing.T) {
	forAllVoices(func(v impl.Voice) {
		v.High = 9
		if impl.VoiceValid(v) {
			t.Fatal(v)
		}
		v.High = -1
		if impl.VoiceValid(v) {
			t.Fatal(v)
		}
	})
}

// TestP73MoreSamplesLeftThanAStepHas has every length with every number left around it.
func TestP73MoreSamplesLeftThanAStepHas(t *testing.T) {
	for length := -130; length <= 330; length++ {
		for left := -130; left <= 330; left++ {
			v := impl.Voice{Length: length, High: 4, Volume: 9, Step: 5, Left: left}
			want := length >= 1 && length <= 100 && left >= 1 && left <= length
			if impl.VoiceValid(v) != want {
				t.Fatal(v, "wanted", want)
			}
		}
	}
}

// TestP73EveryBound goes past each end by single numbers, for each part alone.
func TestP73EveryBound(t *testing.T) {
	for _, good := range goodVoices() {
		for n := -600; n <= 600; n++ {
			for part, inside := range []bool{n >= 0 && n <= 8, n >= 0 && n <= 15, n >= 0 && n <= 7, n >= 1 && n <= good.Length} {
				v := good
				*[]*int{&v.High, &v.Volume, &v.Step, &v.Left}[part] = n
				if impl.VoiceValid(v) != inside {
					t.Fatal(v, "wanted", inside)
				}
			}
		}
	}
	for n := -600; n <= 600; n++ {
		if impl.VoiceValid(impl.Voice{Length: n, Left: 1}) != (n >= 1 && n <= 100) {
			t.Fatal("length", n)
		}
	}
}

func TestP73CallsDependOnTheirArgumentsAlone(t *testing.T) {
	good := impl.Voice{Length: 9, High: 8, Volume: 5, Step: 7, Left: 9}
	longer, higher := good, good
	longer.Left, higher.High = 10, 9
	for range 5 {
		if !impl.VoiceValid(good) || impl.VoiceValid(longer) || impl.VoiceValid(higher) || impl.VoiceValid(impl.Voice{}) {
			t.Error(impl.VoiceValid(good), impl.VoiceValid(longer), impl.VoiceValid(higher))
		}
	}
}
