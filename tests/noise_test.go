package tests

import (
	"math"
	"testing"

	"loop.example/homeconsole/impl"
)

const lastState = 32767

// notNoiseStates has also numbers that would wrap to a state, or have the digits of one.
var notNoiseStates = []int{0, -1, -2, -3, -5, -256, -16384, -32766, -32767, -32768, -32769, -65535, -65536, 32768, 32769, 32770, 32771, 49151, 49152, 65534, 65535, 65536, 65537, 65536 + 5, 65536 + 32767, 100000, 1 << 31, 1<<31 + 3, 1 << 32, 1<<32 + 1, 1<<32 + 3, 1<<32 + 32767, -(1 << 32), -(1 << 32) + 1, -(1 << 32) + 3, math.MaxInt, math.MaxInt - 1, math.MinInt, math.MinInt + 1}

// edgeNoiseStates are single digits, all digits, and states between with each choice of the two lowest ones.
var edgeNoiseStates = []int{1, 2, 3, 4, 5, 6, 7, 8, 14, 16, 64, 255, 256, 1000, 1024, 5461, 8191, 8192, 10922, 12345, 16381, 16382, 16383, 16384, 16385, 16386, 16387, 21845, 24575, 24576, 30000, 32764, 32765, 32766, 32767}

// nextOf is written from the document.
func nextOf(state int) int {
	lowest, second := state%2, state/2%2
	if lowest != second {
		return state/2 + 16384
	}
	return state / 2
}

// backOf is the way back that P77 describes.
func backOf(state int) int {
	highest, lowest := state/16384, state%2
	if highest != lowest {
		return 2*state%32768 + 1
	}
	return 2 * state % 32768
}

func checkNext(t *testing.T, state int, want int) {
	t.Helper()
	if got := impl.NextNoise(state); got != want {
		t.Fatal(state, "wanted", want, "got", got)
	}
}

func TestP77EveryNextState(t *testing.T) {
	for state := 1; state <= lastState; state++ {
		checkNext(t, state, nextOf(state))
	}
}

// TestP77BackFromTheNextState uses nothing but the promise.
func TestP77BackFromTheNextState(t *testing.T) {
	for state := 1; state <= lastState; state++ {
		next := impl.NextNoise(state)
		if next < 1 || next > lastState || backOf(next) != state {
			t.Fatal(state, next, backOf(next))
		}
	}
}

// TestP77BackAndForth goes back first: every state is the next one of another.
func TestP77BackAndForth(t *testing.T) {
	for state := 1; state <= lastState; state++ {
		checkNext(t, backOf(state), state)
	}
}

// TestP77BackFromManySteps goes many steps ahead and back again through the same states.
func TestP77BackFromManySteps(t *testing.T) {
	for _, start := range edgeNoiseStates {
		way := []int{start}
		for len(way) < 2000 {
			way = append(way, impl.NextNoise(way[len(way)-1]))
		}
		state := way[len(way)-1]
		for place := len(way) - 2; place >= 0; place-- {
			state = backOf(state)
			if state != way[place] {
				t.Fatal(start, place, state, way[place])
			}
		}
	}
}

// TestP77DigitsMoveDown: every digit moves to the place below, and the highest one is the exclusive or.
func TestP77DigitsMoveDown(t *testing.T) {
	for state := 1; state <= lastState; state++ {
		next := impl.NextNoise(state)
		for place := range 14 {
			if next>>place&1 != state>>(place+1)&1 {
				t.Fatal(state, next, place)
			}
		}
		if next>>14 != state&1^state>>1&1 {
			t.Fatal(state, next)
		}
	}
}

func TestP77NextStatesWorkedOutByHand(t *testing.T) {
	for _, c := range []struct{ state, want int }{
		{1, 16384},
		{2, 16385},
		{3, 1},
		{4, 2},
		{5, 16386},
		{6, 16387},
		{7, 3},
		{8, 4},
		{16384, 8192},
		{16385, 24576},
		{16386, 24577},
		{16387, 8193},
		{8192, 4096},
		{21845, 27306},
		{10922, 21845},
		{32764, 16382},
		{32765, 32766},
		{32766, 32767},
		{32767, 16383},
		{16383, 8191},
	} {
		checkNext(t, c.state, c.want)
	}
}

func TestP77OtherNumbersHaveNoNextState(t *testing.T) {
	for _, bad := range notNoiseStates {
		checkNext(t, bad, 0)
	}
	for n := -200000; n <= 200000; n++ {
		if got := impl.NextNoise(n); (got != 0) != (n >= 1 && n <= lastState) {
			t.Fatal(n, got)
		}
	}
}

func TestP77CallsDependOnTheirArgumentsAlone(t *testing.T) {
	for range 5 {
		checkNext(t, 1, 16384)
		checkNext(t, 0, 0)
		checkNext(t, 16384, 8192)
		checkNext(t, 32768, 0)
		checkNext(t, 3, 1)
	}
}

// TestP127EveryTwoStates uses nothing but the promise.
func TestP127EveryTwoStates(t *testing.T) {
	var next [lastState + 1]int
	for state := 1; state <= lastState; state++ {
		next[state] = impl.NextNoise(state)
	}
	for first := 1; first <= lastState; first++ {
		for second := first + 1; second <= lastState; second++ {
			if impl.NextNoise(first^second) != next[first]^next[second] {
				t.Fatal(first, second, impl.NextNoise(first^second), next[first], next[second])
			}
		}
	}
}

// TestP127DigitsMakeUpAState: the promise, repeated, for the single digits of a state.
func TestP127DigitsMakeUpAState(t *testing.T) {
	for state := 1; state <= lastState; state++ {
		sum := 0
		for place := range 15 {
			if state>>place&1 == 1 {
				sum ^= impl.NextNoise(1 << place)
			}
		}
		checkNext(t, state, sum)
	}
}

// TestP127ManySteps: what holds for a step holds for any number of them.
func TestP127ManySteps(t *testing.T) {
	for _, start := range edgeNoiseStates {
		for _, other := range edgeNoiseStates {
			if start == other {
				continue
			}
			first, second, sum := start, other, start^other
			for range 500 {
				first, second, sum = impl.NextNoise(first), impl.NextNoise(second), impl.NextNoise(sum)
				if first^second != sum {
					t.Fatal(start, other, first, second, sum)
				}
			}
		}
	}
}

func TestP127SumsWorkedOutByHand(t *testing.T) {
	for _, c := range []struct{ first, second, nextFirst, nextSecond, nextSum int }{
		{1, 2, 16384, 16385, 1},
		{1, 3, 16384, 1, 16385},
		{2, 3, 16385, 1, 16384},
		{16384, 2, 8192, 16385, 24577},
		{1, 32767, 16384, 16383, 32767},
		{32766, 32767, 32767, 16383, 16384},
		{21845, 10922, 27306, 21845, 16383},
	} {
		checkNext(t, c.first, c.nextFirst)
		checkNext(t, c.second, c.nextSecond)
		checkNext(t, c.first^c.second, c.nextSum)
	}
}

// TestP127EqualStates: their exclusive or is 0, which is no state.
func TestP127EqualStates(t *testing.T) {
	for state := 1; state <= lastState; state++ {
		checkNext(t, state^state, 0)
	}
}

// TestP127NumbersBeyondTheStates: with a further digit a number has no next state, whatever its other digits are.
func TestP127NumbersBeyondTheStates(t *testing.T) {
	for state := 0; state <= lastState; state++ {
		for place := 15; place < 64; place++ {
			checkNext(t, state^1<<place, 0)
		}
		checkNext(t, ^state, 0)
	}
}
