package tests

import (
	"math"
	"testing"

	"loop.example/homeconsole/impl"
)

const (
	firedLimit = 1000000000
	lastCycle  = 100000
)

// notLefts has numbers that neither Left nor Reload of a valid timer can be.
var notLefts = []int{-1, -2, -999, -1000, -1001, -65536, 1001, 1002, 2000, 65536, 100000, firedLimit, 1<<32 + 3, -(1 << 32), math.MaxInt, math.MinInt}

// notFireds has numbers that are valid in no argument.
var notFireds = []int{-1, -2, -1000, -firedLimit, -firedLimit - 1, firedLimit + 1, firedLimit + 2, firedLimit + lastCycle, 1<<32 + 3, -(1 << 32), math.MaxInt, math.MinInt}

// notTimerCycles has numbers of cycles that are not skipped together.
var notTimerCycles = []int{-1, -2, -3, -1000, -1001, -99999, -100000, -100001, 100001, 100002, 200000, 131072, firedLimit, 1<<32 + 3, -(1 << 32), math.MaxInt, math.MinInt, math.MinInt + 1, math.MaxInt - 1}

var edgeReloads = []int{0, 1, 2, 3, 7, 99, 255, 256, 499, 500, 998, 999, 1000}

var edgeFireds = []int{0, 1, 2, 255, 65536, firedLimit - lastCycle - 1, firedLimit - lastCycle, firedLimit - lastCycle + 1, firedLimit - 2, firedLimit - 1, firedLimit}

// within leaves out what is not in 0..last, and what has come before.
func within(last int, list ...int) []int {
	seen := map[int]bool{}
	var kept []int
	for _, n := range list {
		if n >= 0 && n <= last && !seen[n] {
			kept = append(kept, n)
		}
		seen[n] = true
	}
	return kept
}

// edgeLefts has values at Reload and beyond it as well.
func edgeLefts(reload int) []int {
	return within(1000, 0, 1, 2, 3, reload-2, reload-1, reload, reload+1, reload+2, 2*reload, 2*reload+1, 2*reload+2, 500, 998, 999, 1000)
}

// edgeCycles are around the times at which a timer fires, counted from the document: for the first time behind Left cycles, then behind every Reload cycles.
func edgeCycles(x impl.Timer) []int {
	list := []int{0, 1, 2, 3, 1000, 1001, 65535, 65536, 99998, 99999, 100000}
	first, period := x.Left+1, x.Reload+1
	last := first + (lastCycle-first)/period*period
	for _, at := range []int{first, first + period, first + 2*period, first + 3*period, first + 64*period, last - period, last} {
		list = append(list, at-1, at, at+1)
	}
	return within(lastCycle, list...)
}

// forTimers calls a check for timers with all pairs of Left and Reload at their edges.
func forTimers(check func(x impl.Timer)) {
	for _, reload := range edgeReloads {
		for _, left := range edgeLefts(reload) {
			for _, fired := range edgeFireds {
				check(impl.Timer{Left: left, Reload: reload, Fired: fired})
			}
		}
	}
}

// forAllTimers calls a check for every pair of Left and Reload; Fired is another number each time.
func forAllTimers(check func(x impl.Timer)) {
	for reload := 0; reload <= 1000; reload++ {
		for left := 0; left <= 1000; left++ {
			check(impl.Timer{Left: left, Reload: reload, Fired: (left*1001 + reload*37) % (firedLimit + 1)})
		}
	}
}

// forBrokenTimers calls a check for timers of which one, two or all three numbers are not valid.
func forBrokenTimers(check func(x impl.Timer)) {
	for _, bad := range notLefts {
		for _, good := range edgeReloads {
			for _, fired := range edgeFireds {
				check(impl.Timer{Left: bad, Reload: good, Fired: fired})
				check(impl.Timer{Left: good, Reload: bad, Fired: fired})
			}
		}
		for _, bad2 := range notLefts {
			check(impl.Timer{Left: bad, Reload: bad2, Fired: 5})
			check(impl.Timer{Left: bad, Reload: bad2, Fired: -1})
		}
	}
	for _, bad := range notFireds {
		for _, reload := range edgeReloads {
			for _, left := range edgeLefts(reload) {
				check(impl.Timer{Left: left, Reload: reload, Fired: bad})
			}
		}
	}
}

// ticked is a cycle, written from the document.
func ticked(x impl.Timer) impl.Timer {
	if x.Left == 0 {
		return impl.Timer{Left: x.Reload, Reload: x.Reload, Fired: x.Fired + 1}
	}
	return impl.Timer{Left: x.Left - 1, Reload: x.Reload, Fired: x.Fired}
}

// ticks has a timer after each number of cycles up to the given one.
func ticks(x impl.Timer, cycles int) []impl.Timer {
	path := make([]impl.Timer, 0, cycles+1)
	path = append(path, x)
	for range cycles {
		x = ticked(x)
		path = append(path, x)
	}
	return path
}

// TestP3EveryNumberOfCycles: ticking leads from each number of cycles to the next one.
func TestP3EveryNumberOfCycles(t *testing.T) {
	for _, reload := range edgeReloads {
		for _, left := range within(1000, 0, 1, reload, reload+1, 1000) {
			for _, fired := range []int{0, firedLimit - 3, firedLimit} {
				x := impl.Timer{Left: left, Reload: reload, Fired: fired}
				want := x
				for cycles := 0; cycles <= lastCycle; cycles++ {
					if y := impl.SkipTimer(x, cycles); y != want {
						t.Fatal(x, cycles, "wanted", want, "got", y)
					}
					want = ticked(want)
				}
			}
		}
	}
}

// TestP3EveryTimer goes with every Reload from the largest Left: the timers with other Lefts come by on the way.
func TestP3EveryTimer(t *testing.T) {
	for reload := 0; reload <= 1000; reload++ {
		path := ticks(impl.Timer{Left: 1000, Reload: reload}, 3100)
		for left := 0; left <= 1000; left++ {
			x := path[1000-left]
			if x.Left != left || x.Fired != 0 {
				t.Fatal("the way", reload, left, x)
			}
			for _, cycles := range []int{0, 1, 2, left, left + 1, left + 2, left + reload + 1, left + reload + 2, 2100} {
				if cycles > 2100 {
					continue
				}
				if y := impl.SkipTimer(x, cycles); y != path[1000-left+cycles] {
					t.Fatal(x, cycles, "wanted", path[1000-left+cycles], "got", y)
				}
			}
		}
	}
}

func TestP3EdgesAgreeWithTicking(t *testing.T) {
	for _, reload := range edgeReloads {
		for _, left := range edgeLefts(reload) {
			path := ticks(impl.Timer{Left: left, Reload: reload}, lastCycle)
			for _, fired := range edgeFireds {
				x := impl.Timer{Left: left, Reload: reload, Fired: fired}
				for _, cycles := range edgeCycles(x) {
					want := path[cycles]
					want.Fired += fired
					if y := impl.SkipTimer(x, cycles); y != want {
						t.Fatal(x, cycles, "wanted", want, "got", y)
					}
				}
			}
		}
	}
}

func TestP3OneCycleOrNone(t *testing.T) {
	check := func(x impl.Timer) {
		if y := impl.SkipTimer(x, 0); y != x {
			t.Fatal("none", x, y)
		}
		if y := impl.SkipTimer(x, 1); y != impl.TickTimer(x) || y != ticked(x) {
			t.Fatal("one", x, y)
		}
	}
	forTimers(check)
	forAllTimers(check)
}

// TestP3TickingTheProgramItself ticks by the program, as far as its results are valid arguments.
func TestP3TickingTheProgramItself(t *testing.T) {
	forTimers(func(x impl.Timer) {
		y := x
		for cycles := 0; cycles <= 300 && y.Fired <= firedLimit; cycles++ {
			if z := impl.SkipTimer(x, cycles); z != y {
				t.Fatal(x, cycles, "ticked", y, "skipped", z)
			}
			y = impl.TickTimer(y)
		}
	})
}

func TestP3PartsAreTheirSum(t *testing.T) {
	forTimers(func(x impl.Timer) {
		for _, cycles := range edgeCycles(x) {
			whole := impl.SkipTimer(x, cycles)
			for _, part := range within(cycles, 0, 1, x.Left, x.Left+1, x.Left+2, x.Left+x.Reload+2, cycles/3, cycles/2, cycles-2, cycles-1, cycles) {
				y := impl.SkipTimer(x, part)
				want := whole
				if y.Fired > firedLimit {
					want = impl.Timer{}
				}
				if z := impl.SkipTimer(y, cycles-part); z != want {
					t.Fatal(x, part, cycles, "wanted", want, "got", z)
				}
			}
		}
	})
}

// TestP3PartsWhoseSumIsTooLarge cannot be skipped together, but still one after the other.
func TestP3PartsWhoseSumIsTooLarge(t *testing.T) {
	for _, reload := range edgeReloads {
		for _, left := range []int{0, 1, reload, 1000} {
			x := impl.Timer{Left: left, Reload: reload, Fired: 3}
			path := ticks(x, 2*lastCycle)
			for _, parts := range [][2]int{{lastCycle, 1}, {1, lastCycle}, {50001, 50000}, {lastCycle, lastCycle}, {99999, 2}} {
				if y := impl.SkipTimer(impl.SkipTimer(x, parts[0]), parts[1]); y != path[parts[0]+parts[1]] {
					t.Error(x, parts, y)
				}
			}
		}
	}
}

func TestP3FiredBeyondItsLimit(t *testing.T) {
	for _, c := range []struct {
		x      impl.Timer
		cycles int
		want   impl.Timer
	}{
		// Without a time of firing, at its limit and no further.
		{impl.Timer{Fired: firedLimit}, 0, impl.Timer{Fired: firedLimit}},
		{impl.Timer{Left: 5, Reload: 2, Fired: firedLimit}, 5, impl.Timer{Reload: 2, Fired: firedLimit}},
		{impl.Timer{Fired: firedLimit - 1}, 1, impl.Timer{Fired: firedLimit}},
		{impl.Timer{Fired: firedLimit - lastCycle}, lastCycle, impl.Timer{Fired: firedLimit}},
		// Beyond it in the last cycle.
		{impl.Timer{Fired: firedLimit}, 1, impl.Timer{Fired: firedLimit + 1}},
		{impl.Timer{Left: 5, Reload: 2, Fired: firedLimit}, 6, impl.Timer{Left: 2, Reload: 2, Fired: firedLimit + 1}},
		{impl.Timer{Fired: firedLimit - lastCycle + 1}, lastCycle, impl.Timer{Fired: firedLimit + 1}},
		// Beyond it in between.
		{impl.Timer{Fired: firedLimit}, 7, impl.Timer{Fired: firedLimit + 7}},
		{impl.Timer{Fired: firedLimit - 1}, 3, impl.Timer{Fired: firedLimit + 2}},
		{impl.Timer{Left: 5, Reload: 2, Fired: firedLimit}, 7, impl.Timer{Left: 1, Reload: 2, Fired: firedLimit + 1}},
		{impl.Timer{Left: 5, Reload: 2, Fired: firedLimit}, 12, impl.Timer{Left: 2, Reload: 2, Fired: firedLimit + 3}},
		{impl.Timer{Fired: firedLimit}, lastCycle, impl.Timer{Fired: firedLimit + lastCycle}},
	} {
		y := impl.SkipTimer(c.x, c.cycles)
		if y != c.want {
			t.Error(c.x, c.cycles, "wanted", c.want, "got", y)
		}
		if impl.TimerValid(y) != (c.want.Fired <= firedLimit) {
			t.Error("valid", y)
		}
	}
}

func TestP3ResultsWorkedOutByHand(t *testing.T) {
	for _, c := range []struct {
		x      impl.Timer
		cycles int
		want   impl.Timer
	}{
		{impl.Timer{}, 0, impl.Timer{}},
		{impl.Timer{}, 1, impl.Timer{Fired: 1}},
		{impl.Timer{}, 7, impl.Timer{Fired: 7}},
		{impl.Timer{}, 100000, impl.Timer{Fired: 100000}},
		{impl.Timer{Left: 4}, 4, impl.Timer{}},
		{impl.Timer{Left: 4}, 5, impl.Timer{Fired: 1}},
		{impl.Timer{Left: 4}, 10, impl.Timer{Fired: 6}},
		{impl.Timer{Left: 1000}, 1000, impl.Timer{}},
		{impl.Timer{Left: 1000}, 100000, impl.Timer{Fired: 99000}},
		{impl.Timer{Reload: 1}, 1, impl.Timer{Left: 1, Reload: 1, Fired: 1}},
		{impl.Timer{Reload: 1}, 2, impl.Timer{Reload: 1, Fired: 1}},
		{impl.Timer{Reload: 1}, 3, impl.Timer{Left: 1, Reload: 1, Fired: 2}},
		{impl.Timer{Left: 2, Reload: 3}, 10, impl.Timer{Reload: 3, Fired: 2}},
		{impl.Timer{Left: 2, Reload: 3}, 11, impl.Timer{Left: 3, Reload: 3, Fired: 3}},
		{impl.Timer{Left: 3, Reload: 3, Fired: 8}, 12, impl.Timer{Left: 3, Reload: 3, Fired: 11}},
		{impl.Timer{Left: 9, Reload: 3}, 8, impl.Timer{Left: 1, Reload: 3}},
		{impl.Timer{Left: 9, Reload: 3}, 10, impl.Timer{Left: 3, Reload: 3, Fired: 1}},
		{impl.Timer{Left: 9, Reload: 3}, 14, impl.Timer{Left: 3, Reload: 3, Fired: 2}},
		{impl.Timer{Reload: 1000}, 100000, impl.Timer{Left: 100, Reload: 1000, Fired: 100}},
		{impl.Timer{Left: 1000, Reload: 1000}, 100000, impl.Timer{Left: 99, Reload: 1000, Fired: 99}},
	} {
		if y := impl.SkipTimer(c.x, c.cycles); y != c.want {
			t.Error(c.x, c.cycles, "wanted", c.want, "got", y)
		}
	}
}

func TestP3OtherNumbersOfCycles(t *testing.T) {
	for _, cycles := range notTimerCycles {
		forTimers(func(x impl.Timer) {
			if y := impl.SkipTimer(x, cycles); y != (impl.Timer{}) {
				t.Fatal(x, cycles, y)
			}
		})
	}
	x := impl.Timer{Left: 3, Reload: 999, Fired: 12}
	for cycles := -1100; cycles <= lastCycle+1100; cycles++ {
		if y := impl.SkipTimer(x, cycles); (y == impl.Timer{}) != (cycles < 0 || cycles > lastCycle) {
			t.Fatal(cycles, y)
		}
	}
}

func TestP3OtherTimersAreNotSkipped(t *testing.T) {
	forBrokenTimers(func(x impl.Timer) {
		for _, cycles := range []int{0, 1, 2, 500, 1001, 1002, 99999, 100000} {
			if y := impl.SkipTimer(x, cycles); y != (impl.Timer{}) {
				t.Fatal(x, cycles, y)
			}
		}
		for _, cycles := range notTimerCycles {
			if y := impl.SkipTimer(x, cycles); y != (impl.Timer{}) {
				t.Fatal("cycles", x, cycles, y)
			}
		}
	})
}

func TestP3CallsDependOnTheirArgumentsAlone(t *testing.T) {
	x := impl.Timer{Left: 2, Reload: 3, Fired: 1}
	other := impl.Timer{Left: 900, Reload: 17, Fired: 5}
	want, wantOther := impl.SkipTimer(x, 10), impl.SkipTimer(other, 1000)
	for range 5 {
		if y := impl.SkipTimer(x, 10); y != want {
			t.Error(y)
		}
		if y := impl.SkipTimer(other, 1000); y != wantOther {
			t.Error(y)
		}
		if impl.NextFire(x) != 3 || impl.NextFire(other) != 901 || impl.TickTimer(x).Left != 1 {
			t.Error(impl.NextFire(x), impl.NextFire(other), impl.TickTimer(x))
		}
	}
}

func TestP40NegativeLeftsAreInvalid(t *testing.T) {
	for left := -2000; left < 0; left++ {
		for _, reload := range edgeReloads {
			for _, fired := range edgeFireds {
				x := impl.Timer{Left: left, Reload: reload, Fired: fired}
				x.Left = 0
				if !impl.TimerValid(x) {
					t.Fatal("before", x)
				}
				x.Left = left
				if impl.TimerValid(x) || impl.TickTimer(x) != (impl.Timer{}) || impl.SkipTimer(x, -left) != (impl.Timer{}) || impl.NextFire(x) != -1 {
					t.Fatal(x)
				}
			}
		}
	}
}

func TestP40ValidTimers(t *testing.T) {
	check := func(x impl.Timer) {
		if !impl.TimerValid(x) {
			t.Fatal(x)
		}
	}
	forTimers(check)
	forAllTimers(check)
	for fired := 0; fired <= firedLimit; fired += 1 + fired/7 {
		check(impl.Timer{Left: 1000, Reload: 1000, Fired: fired})
		check(impl.Timer{Fired: firedLimit - fired})
	}
}

func TestP40OtherTimers(t *testing.T) {
	forBrokenTimers(func(x impl.Timer) {
		if impl.TimerValid(x) {
			t.Fatal(x)
		}
	})
}

// TestP40EveryBound goes past each end by single numbers.
func TestP40EveryBound(t *testing.T) {
	for n := -50; n <= 1050; n++ {
		inside := n >= 0 && n <= 1000
		for _, good := range edgeReloads {
			if impl.TimerValid(impl.Timer{Left: n, Reload: good}) != inside || impl.TimerValid(impl.Timer{Left: good, Reload: n}) != inside {
				t.Error("left or reload", n, good)
			}
		}
	}
	for n := -50; n <= 50; n++ {
		for _, good := range edgeReloads {
			if impl.TimerValid(impl.Timer{Left: good, Fired: n}) != (n >= 0) || impl.TimerValid(impl.Timer{Reload: good, Fired: firedLimit + n}) != (n <= 0) {
				t.Error("fired", n, good)
			}
		}
	}
}

func TestP41TimersFireWhenTheyAreZero(t *testing.T) {
	check := func(x impl.Timer) {
		y := impl.TickTimer(x)
		if y.Reload != x.Reload || y.Fired != x.Fired+digit(x.Left == 0) {
			t.Fatal("fired", x, y)
		}
		if x.Left == 0 && y.Left != x.Reload || x.Left > 0 && y.Left != x.Left-1 {
			t.Fatal("left", x, y)
		}
		// Only the limit of Fired may be exceeded, and only by a timer that was at this limit and at 0.
		if impl.TimerValid(y) != (x.Fired < firedLimit || x.Left > 0) {
			t.Fatal("valid", x, y)
		}
	}
	forTimers(check)
	forAllTimers(check)
}

func TestP41CyclesWorkedOutByHand(t *testing.T) {
	for _, c := range []struct{ x, want impl.Timer }{
		{impl.Timer{}, impl.Timer{Fired: 1}},
		{impl.Timer{Fired: 9}, impl.Timer{Fired: 10}},
		{impl.Timer{Left: 1}, impl.Timer{}},
		{impl.Timer{Left: 1000}, impl.Timer{Left: 999}},
		{impl.Timer{Reload: 5}, impl.Timer{Left: 5, Reload: 5, Fired: 1}},
		{impl.Timer{Left: 5, Reload: 5, Fired: 1}, impl.Timer{Left: 4, Reload: 5, Fired: 1}},
		{impl.Timer{Left: 6, Reload: 5}, impl.Timer{Left: 5, Reload: 5}},
		{impl.Timer{Left: 1, Reload: 1000}, impl.Timer{Reload: 1000}},
		{impl.Timer{Reload: 1000}, impl.Timer{Left: 1000, Reload: 1000, Fired: 1}},
		{impl.Timer{Left: 1, Reload: 4, Fired: firedLimit}, impl.Timer{Reload: 4, Fired: firedLimit}},
		{impl.Timer{Reload: 4, Fired: firedLimit - 1}, impl.Timer{Left: 4, Reload: 4, Fired: firedLimit}},
		{impl.Timer{Reload: 4, Fired: firedLimit}, impl.Timer{Left: 4, Reload: 4, Fired: firedLimit + 1}},
		{impl.Timer{Fired: firedLimit}, impl.Timer{Fired: firedLimit + 1}},
	} {
		if y := impl.TickTimer(c.x); y != c.want {
			t.Error(c.x, "wanted", c.want, "got", y)
		}
	}
}

func TestP41OtherTimersDoNotTick(t *testing.T) {
	forBrokenTimers(func(x impl.Timer) {
		if y := impl.TickTimer(x); y != (impl.Timer{}) {
			t.Fatal(x, y)
		}
	})
	// What has fired beyond the limit is no argument any more.
	y := impl.TickTimer(impl.Timer{Reload: 4, Fired: firedLimit})
	if z := impl.TickTimer(y); z != (impl.Timer{}) {
		t.Error(y, z)
	}
}

func TestP42TimersFireAtThePredictedTime(t *testing.T) {
	check := func(x impl.Timer) {
		n := impl.NextFire(x)
		if n < 1 || n > 1001 {
			t.Fatal("range", x, n)
		}
		if y := impl.SkipTimer(x, n-1); y.Fired != x.Fired || y.Left != 0 {
			t.Fatal("before", x, n, y)
		}
		if y := impl.SkipTimer(x, n); y.Fired != x.Fired+1 || y.Left != x.Reload {
			t.Fatal("at", x, n, y)
		}
	}
	forTimers(check)
	forAllTimers(check)
}

// TestP42TimesAgreeWithTicking counts the cycles of the document until a timer fires.
func TestP42TimesAgreeWithTicking(t *testing.T) {
	forTimers(func(x impl.Timer) {
		n, y := 0, x
		for y.Fired == x.Fired {
			y = ticked(y)
			n++
		}
		if got := impl.NextFire(x); got != n {
			t.Fatal(x, "wanted", n, "got", got)
		}
	})
	for left := 0; left <= 1000; left++ {
		for _, reload := range []int{0, 1, left, 1000 - left, 1000} {
			if n := impl.NextFire(impl.Timer{Left: left, Reload: reload}); n != left+1 {
				t.Fatal(left, reload, n)
			}
		}
	}
}

// TestP42TimesOneAfterTheOther: behind the first time of firing the next ones are Reload + 1 cycles apart.
func TestP42TimesOneAfterTheOther(t *testing.T) {
	for _, reload := range edgeReloads {
		for _, left := range edgeLefts(reload) {
			x := impl.Timer{Left: left, Reload: reload}
			for fired := range 5 {
				n := impl.NextFire(x)
				if want := reload + 1; fired > 0 && n != want {
					t.Fatal(left, reload, fired, n)
				}
				x = impl.SkipTimer(x, n)
				if x != (impl.Timer{Left: reload, Reload: reload, Fired: fired + 1}) {
					t.Fatal(left, reload, fired, x)
				}
			}
		}
	}
}

func TestP42OtherTimersHaveNoTime(t *testing.T) {
	forBrokenTimers(func(x impl.Timer) {
		if n := impl.NextFire(x); n != -1 {
			t.Fatal(x, n)
		}
	})
}

func TestP116TimersFireRegularly(t *testing.T) {
	for reload := 0; reload <= 1000; reload++ {
		period := reload + 1
		most := lastCycle / period
		for left := 0; left <= reload; left++ {
			for _, n := range []int{0, 1, 2, 3, most / 2, most - 1, most} {
				x := impl.Timer{Left: left, Reload: reload, Fired: left * 13}
				want := impl.Timer{Left: left, Reload: reload, Fired: left*13 + n}
				if y := impl.SkipTimer(x, n*period); y != want {
					t.Fatal(x, n, y)
				}
			}
		}
	}
}

func TestP116EveryNumberOfTimes(t *testing.T) {
	for _, reload := range edgeReloads {
		for _, left := range within(reload, 0, 1, 2, reload/2, reload-1, reload) {
			for _, fired := range edgeFireds {
				x := impl.Timer{Left: left, Reload: reload, Fired: fired}
				for n := 0; n*(reload+1) <= lastCycle; n += 1 + n/20 {
					if y := impl.SkipTimer(x, n*(reload+1)); y != (impl.Timer{Left: left, Reload: reload, Fired: fired + n}) {
						t.Fatal(x, n, y)
					}
				}
			}
		}
	}
}

// TestP116LeftsBeyondReload fire later, and then with another number of cycles left.
func TestP116LeftsBeyondReload(t *testing.T) {
	for _, reload := range edgeReloads {
		period := reload + 1
		for left := reload + 1; left <= 1000; left++ {
			x := impl.Timer{Left: left, Reload: reload}
			n := lastCycle / period
			y := impl.SkipTimer(x, n*period)
			if y.Fired >= n || y.Left > reload || (n*period-left-1)/period+1 != y.Fired {
				t.Fatal(x, n, y)
			}
		}
	}
}
