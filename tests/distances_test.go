package tests

import (
	"testing"

	"loop.example/homeconsole/impl"
)

// noiseCircle has all states in the order of the steps, beginning with 1, and the place of each state among them.
type noiseCircle struct {
	states []int
	places [lastState + 1]int
}

// circleOfNoise goes step by step; written from the document.
func circleOfNoise() *noiseCircle {
	circle := &noiseCircle{}
	state := 1
	for place := range lastState {
		circle.states = append(circle.states, state)
		circle.places[state] = place
		state = nextOf(state)
	}
	return circle
}

func (c *noiseCircle) ahead(state int, steps int) int {
	return c.states[(c.places[state]+steps)%lastState]
}

func (c *noiseCircle) distance(from int, to int) int {
	return (c.places[to] - c.places[from] + lastState) % lastState
}

func checkDistance(t *testing.T, from int, to int, want int) {
	t.Helper()
	if got := impl.NoiseDistance(from, to); got != want {
		t.Fatal("from", from, "to", to, "wanted", want, "got", got)
	}
}

// edgeDistances are the shortest and the longest ones, those around the divisors of 32767 and their products, and some between.
var edgeDistances = []int{0, 1, 2, 3, 6, 7, 8, 14, 15, 16, 30, 31, 32, 150, 151, 152, 180, 181, 182, 216, 217, 218, 433, 434, 435, 1056, 1057, 1058, 4680, 4681, 4682, 16383, 16384, 32549, 32550, 32551, 32615, 32616, 32617, 32764, 32765, 32766}

// TestP7AllStatesAreOnOneCircle: steps from a state lead to all others before they lead to it again.
func TestP7AllStatesAreOnOneCircle(t *testing.T) {
	var seen [lastState + 1]bool
	state := 1
	for steps := range lastState {
		if state < 1 || state > lastState || seen[state] {
			t.Fatal(steps, state)
		}
		seen[state] = true
		state = impl.NextNoise(state)
	}
	if state != 1 {
		t.Fatal(state)
	}
}

func TestP7EveryStateAtEdgeDistances(t *testing.T) {
	circle := circleOfNoise()
	pick := mixed(7)
	for from := 1; from <= lastState; from++ {
		for _, steps := range edgeDistances {
			checkDistance(t, from, circle.ahead(from, steps), steps)
		}
		for range 10 {
			to := 1 + pick(lastState)
			checkDistance(t, from, to, circle.distance(from, to))
		}
	}
}

func TestP7EveryDistance(t *testing.T) {
	circle := circleOfNoise()
	for _, state := range edgeNoiseStates {
		for other := 1; other <= lastState; other++ {
			checkDistance(t, state, other, circle.distance(state, other))
			checkDistance(t, other, state, circle.distance(other, state))
		}
	}
}

// TestP7LeastNumberOfSteps walks as many steps as the distance says: they lead to the state, and none before does.
func TestP7LeastNumberOfSteps(t *testing.T) {
	for _, from := range edgeNoiseStates {
		for _, to := range edgeNoiseStates {
			state := from
			for steps := range impl.NoiseDistance(from, to) {
				if state == to {
					t.Fatal(from, to, "already after", steps)
				}
				state = impl.NextNoise(state)
			}
			if state != to {
				t.Fatal(from, to, state)
			}
		}
	}
}

// TestP7ThereAndBack uses nothing but the promise.
func TestP7ThereAndBack(t *testing.T) {
	pick := mixed(70)
	check := func(from int, to int) {
		want := lastState * digit(from != to)
		if there, back := impl.NoiseDistance(from, to), impl.NoiseDistance(to, from); there < 0 || back < 0 || there+back != want {
			t.Fatal(from, to, there, back)
		}
	}
	for from := 1; from <= lastState; from++ {
		check(from, from)
		check(from, impl.NextNoise(from))
		for _, to := range []int{1, 2, 3, 16384, 32766, 32767, 1 + pick(lastState), 1 + pick(lastState)} {
			check(from, to)
		}
	}
}

// TestP7OneStepLess uses nothing but the promise.
func TestP7OneStepLess(t *testing.T) {
	pick := mixed(700)
	for from := 1; from <= lastState; from++ {
		next := impl.NextNoise(from)
		for _, to := range []int{1, 2, 3, 16384, 32766, 32767, next, 1 + pick(lastState), 1 + pick(lastState)} {
			if from == to {
				continue
			}
			if distance := impl.NoiseDistance(from, to); impl.NoiseDistance(next, to) != distance-1 {
				t.Fatal(from, to, distance, impl.NoiseDistance(next, to))
			}
		}
	}
}

// TestP7EqualStates: there is nothing to go, and from the next state all of the circle but one step.
func TestP7EqualStates(t *testing.T) {
	for state := 1; state <= lastState; state++ {
		next := impl.NextNoise(state)
		checkDistance(t, state, state, 0)
		checkDistance(t, state, next, 1)
		checkDistance(t, next, state, 32766)
	}
}

// TestP7Detours: a way over a third state is the same way, or it has a whole circle more.
func TestP7Detours(t *testing.T) {
	pick := mixed(7000)
	for range 100000 {
		from, over, to := 1+pick(lastState), 1+pick(lastState), 1+pick(lastState)
		direct := impl.NoiseDistance(from, to)
		if detour := impl.NoiseDistance(from, over) + impl.NoiseDistance(over, to); detour != direct && detour != direct+lastState {
			t.Fatal(from, over, to, direct, detour)
		}
	}
}

// TestP7DistancesFromElsewhere has numbers by hand, and from a program that is not this one.
func TestP7DistancesFromElsewhere(t *testing.T) {
	for _, c := range []struct{ from, to, want int }{
		{1, 1, 0},
		{32767, 32767, 0},
		{3, 1, 1},
		{1, 3, 32766},
		{1, 16384, 1},
		{16384, 1, 32766},
		{16384, 2, 13},
		{2, 16384, 32754},
		{1, 2, 14},
		{2, 1, 32753},
		{2, 3, 32752},
		{3, 2, 15},
		{4, 2, 1},
		{2, 4, 32766},
		{1, 32767, 32753},
		{32767, 1, 14},
		{32766, 32767, 1},
		{32767, 32766, 32766},
		{32767, 16384, 15},
		{16384, 32767, 32752},
		{5, 6, 32557},
		{6, 5, 210},
		{12345, 23456, 31762},
		{23456, 12345, 1005},
		{30000, 7, 28312},
		{7, 30000, 4455},
		{10922, 21845, 1},
		{1, 1000, 3876},
		{255, 256, 14},
		{16383, 8192, 15},
	} {
		checkDistance(t, c.from, c.to, c.want)
		if c.want > 0 {
			checkDistance(t, c.to, c.from, 32767-c.want)
		}
	}
}

func TestP7OtherNumbersHaveNoDistance(t *testing.T) {
	for _, bad := range notNoiseStates {
		for state := 1; state <= lastState; state += 13 {
			checkDistance(t, bad, state, -1)
			checkDistance(t, state, bad, -1)
		}
		for _, other := range notNoiseStates {
			checkDistance(t, bad, other, -1)
		}
	}
}

// TestP7EveryBound goes past each end by single numbers, for each argument alone and for both, which are equal then.
func TestP7EveryBound(t *testing.T) {
	circle := circleOfNoise()
	for n := -lastState; n <= 3*lastState; n++ {
		from, to, same := -1, -1, -1
		if n >= 1 && n <= lastState {
			from, to, same = circle.distance(n, 5), circle.distance(5, n), 0
		}
		checkDistance(t, n, 5, from)
		checkDistance(t, 5, n, to)
		checkDistance(t, n, n, same)
	}
}

func TestP7CallsDependOnTheirArgumentsAlone(t *testing.T) {
	for range 5 {
		checkDistance(t, 1, 1000, 3876)
		checkDistance(t, 0, 1000, -1)
		checkDistance(t, 1000, 1, 28891)
		checkDistance(t, 32768, 32768, -1)
		checkDistance(t, 1000, 1000, 0)
	}
}
