package tests

import (
	"math"
	"testing"

	"loop.example/homeconsole/impl"
)

const lastTick = 1000

// The numbers that are no ticks, and no speed, also some that would wrap to one.
var (
	notTicks  = []int{-1, -2, -15, -100, -255, -256, -999, -1000, -1001, 1001, 1002, 1023, 1024, 1500, 2000, 65536, 65536 + 5, 100000, 1 << 32, 1<<32 + 3, -(1 << 32), -(1 << 32) + 3, math.MaxInt, math.MinInt, math.MinInt + 1}
	notSpeeds = []int{-1, -2, -10, -99, -100, -101, -255, -256, 0, 101, 102, 127, 128, 200, 255, 256, 257, 1000, 65536 + 5, 1 << 32, 1<<32 + 3, -(1 << 32), -(1 << 32) + 3, math.MaxInt, math.MinInt, math.MinInt + 1}
)

func checkVolume(t *testing.T, volume int, ticks int, speed int, want int) {
	t.Helper()
	if got := impl.FadeVolume(volume, ticks, speed); got != want {
		t.Fatal("volume", volume, "ticks", ticks, "speed", speed, "wanted", want, "got", got)
	}
}

// TestP76EveryNote goes tick by tick through all notes; written from the document.
func TestP76EveryNote(t *testing.T) {
	for start := range 16 {
		for speed := 1; speed <= 100; speed++ {
			volume, passed := start, 0
			for tick := range lastTick + 1 {
				checkVolume(t, start, tick, speed, volume)
				passed++
				if passed == speed {
					passed = 0
					volume = max(volume-1, 0)
				}
			}
		}
	}
}

// TestP76NotesBecomeQuieter uses nothing but the promise.
func TestP76NotesBecomeQuieter(t *testing.T) {
	for start := range 16 {
		for speed := 1; speed <= 100; speed++ {
			before := start
			for tick := range lastTick + 1 {
				volume := impl.FadeVolume(start, tick, speed)
				if volume > before || volume < 0 || volume > 15 {
					t.Fatal("louder", start, tick, speed, before, volume)
				}
				if tick < speed && volume != start {
					t.Fatal("the first ticks", start, tick, speed, volume)
				}
				if tick >= 15*speed && volume != 0 {
					t.Fatal("the last ticks", start, tick, speed, volume)
				}
				before = volume
			}
		}
	}
}

// TestP76OneTickBefore has the volume one tick before it shrinks, and at that tick.
func TestP76OneTickBefore(t *testing.T) {
	for start := range 16 {
		for speed := 1; speed <= 100; speed++ {
			for times := 1; times*speed <= lastTick; times++ {
				checkVolume(t, start, times*speed-1, speed, max(start-times+1, 0))
				checkVolume(t, start, times*speed, speed, max(start-times, 0))
			}
		}
	}
}

func TestP76VolumesWorkedOutByHand(t *testing.T) {
	for _, c := range []struct{ volume, ticks, speed, want int }{
		{10, 7, 3, 8},
		{1, 99, 3, 0},
		{0, 0, 1, 0},
		{0, 0, 100, 0},
		{0, 1000, 1, 0},
		{0, 1000, 100, 0},
		{15, 0, 1, 15},
		{15, 1, 1, 14},
		{15, 14, 1, 1},
		{15, 15, 1, 0},
		{15, 16, 1, 0},
		{15, 1000, 1, 0},
		{15, 0, 100, 15},
		{15, 99, 100, 15},
		{15, 100, 100, 14},
		{15, 101, 100, 14},
		{15, 199, 100, 14},
		{15, 999, 100, 6},
		{15, 1000, 100, 5},
		{10, 999, 100, 1},
		{10, 1000, 100, 0},
		{9, 1000, 100, 0},
		{1, 4, 5, 1},
		{1, 5, 5, 0},
		{1, 9, 5, 0},
		{1, 10, 5, 0},
		{15, 989, 66, 1},
		{15, 990, 66, 0},
		{8, 20, 7, 6},
		{8, 21, 7, 5},
	} {
		checkVolume(t, c.volume, c.ticks, c.speed, c.want)
	}
}

func TestP76OtherVolumes(t *testing.T) {
	for _, bad := range notVolumes {
		for _, ticks := range []int{0, 1, 15, 100, 999, 1000, -1, 1001} {
			for _, speed := range []int{1, 2, 50, 99, 100, 0, 101} {
				checkVolume(t, bad, ticks, speed, -1)
			}
		}
	}
}

func TestP76OtherTicks(t *testing.T) {
	for _, bad := range notTicks {
		for volume := range 16 {
			for speed := 0; speed <= 101; speed++ {
				checkVolume(t, volume, bad, speed, -1)
			}
		}
		checkVolume(t, bad, bad, bad, -1)
	}
}

func TestP76OtherSpeeds(t *testing.T) {
	for _, bad := range notSpeeds {
		for volume := range 16 {
			for _, ticks := range []int{0, 1, 15, 100, 999, 1000, -1, 1001} {
				checkVolume(t, volume, ticks, bad, -1)
			}
		}
		checkVolume(t, 16, 5, bad, -1)
	}
}

// TestP76EveryBound goes past each end by single numbers, for each argument alone.
func TestP76EveryBound(t *testing.T) {
	for n := -1500; n <= 2500; n++ {
		if got := impl.FadeVolume(n, 30, 7); (got == -1) == (n >= 0 && n <= 15) {
			t.Fatal("volume", n, got)
		}
		if got := impl.FadeVolume(12, n, 7); (got == -1) == (n >= 0 && n <= lastTick) {
			t.Fatal("ticks", n, got)
		}
		if got := impl.FadeVolume(12, 30, n); (got == -1) == (n >= 1 && n <= 100) {
			t.Fatal("speed", n, got)
		}
	}
}

func TestP76CallsDependOnTheirArgumentsAlone(t *testing.T) {
	for range 5 {
		checkVolume(t, 12, 30, 7, 8)
		checkVolume(t, 12, 1001, 7, -1)
		checkVolume(t, 3, 30, 7, 0)
		checkVolume(t, 12, 30, 0, -1)
		checkVolume(t, 12, 0, 7, 12)
	}
}
