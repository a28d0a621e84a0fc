package tests

import (
	"math"
	"testing"

	"loop.example/homeconsole/impl"
)

// notReads has numbers of buttons that cannot have been read, also some that would wrap to one that can.
var notReads = []int{-1, -2, -7, -8, -9, -64, -256, 9, 10, 15, 16, 63, 64, 65, 255, 256, 257, 1<<32 + 3, -(1 << 32), math.MaxInt, math.MinInt}

// padBytes are bytes with one button, all buttons but one, and the edges.
var padBytes = []int{0, 1, 2, 4, 5, 8, 16, 32, 64, 85, 127, 128, 129, 170, 191, 223, 250, 254, 255}

// digitsOf has the binary digits of a byte, the lowest one first, worked out by halving.
func digitsOf(a int) [8]int {
	var digits [8]int
	for place := range digits {
		digits[place] = a % 2
		a /= 2
	}
	return digits
}

// forBytePairs calls a check for every two bytes.
func forBytePairs(check func(a int, b int)) {
	for a := 0; a <= 255; a++ {
		for b := 0; b <= 255; b++ {
			check(a, b)
		}
	}
}

// forAllPads calls a check for every valid controller.
func forAllPads(check func(p impl.Pad)) {
	for pressed := 0; pressed <= 255; pressed++ {
		for taken := 0; taken <= 255; taken++ {
			for read := 0; read <= 8; read++ {
				check(impl.Pad{Pressed: pressed, Taken: taken, Read: read})
			}
		}
	}
}

// forBrokenPads calls a check for controllers of which one, two or all three numbers are not valid.
func forBrokenPads(check func(p impl.Pad)) {
	for _, bad := range notBytes {
		for _, good := range padBytes {
			for read := 0; read <= 8; read++ {
				check(impl.Pad{Pressed: bad, Taken: good, Read: read})
				check(impl.Pad{Pressed: good, Taken: bad, Read: read})
			}
		}
		for _, bad2 := range notBytes {
			check(impl.Pad{Pressed: bad, Taken: bad2})
			check(impl.Pad{Pressed: bad, Taken: bad2, Read: 8})
			check(impl.Pad{Pressed: bad, Taken: bad2, Read: 9})
		}
	}
	for _, bad := range notReads {
		for _, pressed := range padBytes {
			for _, taken := range padBytes {
				check(impl.Pad{Pressed: pressed, Taken: taken, Read: bad})
			}
			for _, bad2 := range notBytes {
				check(impl.Pad{Pressed: pressed, Taken: bad2, Read: bad})
				check(impl.Pad{Pressed: bad2, Taken: pressed, Read: bad})
			}
		}
	}
}

// wantRead checks a reading by what the document says of it, and returns the controller after it.
func wantRead(t *testing.T, p impl.Pad, bit int) impl.Pad {
	t.Helper()
	want := p
	if want.Read < 8 {
		want.Read++
	}
	q, got := impl.ReadPad(p)
	if got != bit || q != want {
		t.Fatal(p, "wanted", want, bit, "got", q, got)
	}
	return q
}

func TestP4LatchedButtonsAreRead(t *testing.T) {
	forAllPads(func(start impl.Pad) {
		p := impl.LatchPad(start)
		if p != (impl.Pad{Pressed: start.Pressed, Taken: start.Pressed}) {
			t.Fatal("latched", start, p)
		}
		for _, bit := range digitsOf(start.Pressed) {
			p = wantRead(t, p, bit)
		}
		for range 3 {
			p = wantRead(t, p, 1)
		}
	})
}

// TestP4PressingOnceInBetween presses every other byte before every single reading, also directly after LatchPad and behind the eighth button.
func TestP4PressingOnceInBetween(t *testing.T) {
	for pressed := 0; pressed <= 255; pressed++ {
		digits := digitsOf(pressed)
		for other := 0; other <= 255; other++ {
			for at := 0; at <= 9; at++ {
				p := impl.LatchPad(impl.Pad{Pressed: pressed})
				for reading := 0; reading <= 10; reading++ {
					if reading == at {
						p = impl.PressPad(p, other)
					}
					bit := 1
					if reading < 8 {
						bit = digits[reading]
					}
					p = wantRead(t, p, bit)
				}
				if p != (impl.Pad{Pressed: other, Taken: pressed, Read: 8}) {
					t.Fatal(pressed, other, at, p)
				}
			}
		}
	}
}

// TestP4PressingAllTheTime presses other buttons before each reading, several times and never the same ones twice in a row.
func TestP4PressingAllTheTime(t *testing.T) {
	for pressed := 0; pressed <= 255; pressed++ {
		for step := 1; step <= 255; step++ {
			p := impl.LatchPad(impl.PressPad(impl.Pad{Taken: 255 - pressed, Read: 4}, pressed))
			other := pressed
			for _, bit := range digitsOf(pressed) {
				for range 2 {
					other = (other + step) % 256
					p = impl.PressPad(p, other)
				}
				p = wantRead(t, p, bit)
			}
			p = wantRead(t, impl.PressPad(p, 0), 1)
			p = wantRead(t, impl.PressPad(p, 255), 1)
			if p != (impl.Pad{Pressed: 255, Taken: pressed, Read: 8}) {
				t.Fatal(pressed, step, p)
			}
		}
	}
}

// TestP4LatchingAgain: buttons that were pressed while others were read are read after the next LatchPad, wherever reading was interrupted.
func TestP4LatchingAgain(t *testing.T) {
	for first := 0; first <= 255; first++ {
		digits := digitsOf(first)
		for second := 0; second <= 255; second++ {
			for readings := 0; readings <= 8; readings++ {
				p := impl.LatchPad(impl.Pad{Pressed: first})
				for _, bit := range digits[:readings] {
					p = wantRead(t, p, bit)
				}
				p = impl.LatchPad(impl.PressPad(p, second))
				for _, bit := range digitsOf(second) {
					p = wantRead(t, p, bit)
				}
				wantRead(t, p, 1)
			}
		}
	}
}

func TestP4LatchingTwiceIsLatchingOnce(t *testing.T) {
	forAllPads(func(p impl.Pad) {
		once := impl.LatchPad(p)
		if twice := impl.LatchPad(once); twice != once {
			t.Fatal(p, once, twice)
		}
	})
}

func TestP4ReadingsWorkedOutByHand(t *testing.T) {
	for _, c := range []struct {
		pressed int
		bits    [10]int
	}{
		{0, [10]int{0, 0, 0, 0, 0, 0, 0, 0, 1, 1}},
		{1, [10]int{1, 0, 0, 0, 0, 0, 0, 0, 1, 1}},
		{5, [10]int{1, 0, 1, 0, 0, 0, 0, 0, 1, 1}},
		{128, [10]int{0, 0, 0, 0, 0, 0, 0, 1, 1, 1}},
		{127, [10]int{1, 1, 1, 1, 1, 1, 1, 0, 1, 1}},
		{178, [10]int{0, 1, 0, 0, 1, 1, 0, 1, 1, 1}},
		{255, [10]int{1, 1, 1, 1, 1, 1, 1, 1, 1, 1}},
	} {
		p := impl.LatchPad(impl.PressPad(impl.Pad{}, c.pressed))
		for reading, bit := range c.bits {
			q, got := impl.ReadPad(p)
			if got != bit {
				t.Error(c.pressed, reading, "wanted", bit, "got", got)
			}
			p = impl.PressPad(q, 255-c.pressed)
		}
	}
}

func TestP4OtherPadsAreNotLatched(t *testing.T) {
	forBrokenPads(func(p impl.Pad) {
		if q := impl.LatchPad(p); q != (impl.Pad{}) {
			t.Fatal(p, q)
		}
	})
}

func TestP4CallsDependOnTheirArgumentsAlone(t *testing.T) {
	p := impl.Pad{Pressed: 77, Taken: 200, Read: 3}
	other := impl.Pad{Pressed: 6, Taken: 9, Read: 8}
	for range 5 {
		wantRead(t, p, 1)
		wantRead(t, other, 1)
		wantRead(t, impl.Pad{Taken: 200, Read: 4}, 0)
		if q := impl.LatchPad(p); q != (impl.Pad{Pressed: 77, Taken: 77}) {
			t.Error(q)
		}
		if q := impl.PressPad(other, 1); q != (impl.Pad{Pressed: 1, Taken: 9, Read: 8}) {
			t.Error(q)
		}
		if impl.NewlyPressed(9, 6) != 6 || impl.NewlyPressed(6, 9) != 9 {
			t.Error(impl.NewlyPressed(9, 6), impl.NewlyPressed(6, 9))
		}
	}
}

func TestP43ControllersHaveEightButtons(t *testing.T) {
	forAllPads(func(p impl.Pad) {
		if !impl.PadValid(p) {
			t.Fatal("valid", p)
		}
		p.Read = 9
		if impl.PadValid(p) {
			t.Fatal("nine", p)
		}
	})
}

// TestP43EveryBound goes past each end by single numbers.
func TestP43EveryBound(t *testing.T) {
	for n := -600; n <= 600; n++ {
		for _, good := range padBytes {
			for read := 0; read <= 8; read++ {
				if impl.PadValid(impl.Pad{Pressed: n, Taken: good, Read: read}) != (n >= 0 && n <= 255) {
					t.Error("pressed", n, good, read)
				}
				if impl.PadValid(impl.Pad{Pressed: good, Taken: n, Read: read}) != (n >= 0 && n <= 255) {
					t.Error("taken", n, good, read)
				}
			}
			if impl.PadValid(impl.Pad{Pressed: good, Taken: 255 - good, Read: n}) != (n >= 0 && n <= 8) {
				t.Error("read", n, good)
			}
		}
	}
}

func TestP43OtherPads(t *testing.T) {
	forBrokenPads(func(p impl.Pad) {
		if impl.PadValid(p) {
			t.Fatal(p)
		}
	})
}

func TestP44OnlyPressedChanges(t *testing.T) {
	forAllPads(func(p impl.Pad) {
		for buttons := 0; buttons <= 255; buttons++ {
			q := impl.PressPad(p, buttons)
			if q != (impl.Pad{Pressed: buttons, Taken: p.Taken, Read: p.Read}) {
				t.Fatal(p, buttons, q)
			}
		}
	})
}

func TestP44TheSameButtonsAgain(t *testing.T) {
	forAllPads(func(p impl.Pad) {
		if q := impl.PressPad(p, p.Pressed); q != p {
			t.Fatal("those that are pressed", p, q)
		}
		for _, buttons := range padBytes {
			once := impl.PressPad(p, buttons)
			if twice := impl.PressPad(once, buttons); twice != once {
				t.Fatal(p, buttons, once, twice)
			}
		}
	})
}

// TestP44PressingIsNotReadBeforeLatching: the next reading is the same before and after buttons are pressed.
func TestP44PressingIsNotReadBeforeLatching(t *testing.T) {
	forAllPads(func(p impl.Pad) {
		before, bit := impl.ReadPad(p)
		for _, buttons := range padBytes {
			after, bit2 := impl.ReadPad(impl.PressPad(p, buttons))
			if bit2 != bit || after != impl.PressPad(before, buttons) {
				t.Fatal(p, buttons, bit, bit2, after)
			}
		}
	})
}

func TestP44OtherButtons(t *testing.T) {
	for _, bad := range notBytes {
		forAllPads(func(p impl.Pad) {
			if q := impl.PressPad(p, bad); q != (impl.Pad{}) {
				t.Fatal(p, bad, q)
			}
		})
	}
	p := impl.Pad{Pressed: 3, Taken: 200, Read: 8}
	for buttons := -600; buttons <= 600; buttons++ {
		if q := impl.PressPad(p, buttons); (q == impl.Pad{}) != (buttons < 0 || buttons > 255) {
			t.Error(buttons, q)
		}
	}
}

func TestP44OtherPadsAreNotPressed(t *testing.T) {
	forBrokenPads(func(p impl.Pad) {
		for _, buttons := range padBytes {
			if q := impl.PressPad(p, buttons); q != (impl.Pad{}) {
				t.Fatal(p, buttons, q)
			}
		}
		if q := impl.PressPad(p, p.Pressed); q != (impl.Pad{}) {
			t.Fatal("the same", p, q)
		}
		for _, bad := range notBytes {
			if q := impl.PressPad(p, bad); q != (impl.Pad{}) {
				t.Fatal("both", p, bad, q)
			}
		}
	})
}

func TestP45ReadingProceeds(t *testing.T) {
	forAllPads(func(p impl.Pad) {
		bit := 1
		if p.Read < 8 {
			bit = digitsOf(p.Taken)[p.Read]
		}
		q := wantRead(t, p, bit)
		if q.Read < 1 || q.Read > 8 || !impl.PadValid(q) {
			t.Fatal("read", p, q)
		}
	})
}

// TestP45ReadingOn goes on behind the eighth button: nothing changes any more.
func TestP45ReadingOn(t *testing.T) {
	for pressed := 0; pressed <= 255; pressed++ {
		for taken := 0; taken <= 255; taken++ {
			p := impl.Pad{Pressed: pressed, Taken: taken, Read: 7}
			p = wantRead(t, p, taken/128)
			for range 20 {
				p = wantRead(t, p, 1)
			}
			if p != (impl.Pad{Pressed: pressed, Taken: taken, Read: 8}) {
				t.Fatal(pressed, taken, p)
			}
		}
	}
}

func TestP45EdgesOfReading(t *testing.T) {
	for _, c := range []struct {
		p    impl.Pad
		read int
		bit  int
	}{
		{impl.Pad{}, 1, 0},
		{impl.Pad{Pressed: 255}, 1, 0},
		{impl.Pad{Taken: 255}, 1, 1},
		{impl.Pad{Pressed: 255, Taken: 254}, 1, 0},
		{impl.Pad{Taken: 1}, 1, 1},
		{impl.Pad{Taken: 1, Read: 1}, 2, 0},
		{impl.Pad{Taken: 128, Read: 6}, 7, 0},
		{impl.Pad{Taken: 128, Read: 7}, 8, 1},
		{impl.Pad{Pressed: 255, Taken: 127, Read: 7}, 8, 0},
		{impl.Pad{Taken: 255, Read: 7}, 8, 1},
		{impl.Pad{Read: 7}, 8, 0},
		{impl.Pad{Read: 8}, 8, 1},
		{impl.Pad{Taken: 255, Read: 8}, 8, 1},
		{impl.Pad{Pressed: 255, Taken: 254, Read: 8}, 8, 1},
	} {
		q, bit := impl.ReadPad(c.p)
		if bit != c.bit || q != (impl.Pad{Pressed: c.p.Pressed, Taken: c.p.Taken, Read: c.read}) {
			t.Error(c, q, bit)
		}
	}
}

func TestP45OtherPadsAreNotRead(t *testing.T) {
	forBrokenPads(func(p impl.Pad) {
		if q, bit := impl.ReadPad(p); q != (impl.Pad{}) || bit != 0 {
			t.Fatal(p, q, bit)
		}
	})
}

func TestP46NewButtonsArePressedAndWereNot(t *testing.T) {
	forBytePairs(func(before int, now int) {
		fresh := impl.NewlyPressed(before, now)
		was, is, got := digitsOf(before), digitsOf(now), digitsOf(fresh)
		if !isByte(fresh) {
			t.Fatal("byte", before, now, fresh)
		}
		if fresh&now != fresh || fresh&before != 0 {
			t.Fatal("part", before, now, fresh)
		}
		for place := range got {
			if got[place] != digit(is[place] == 1 && was[place] == 0) {
				t.Fatal("digit", place, before, now, fresh)
			}
		}
	})
}

func TestP46NothingBeforeAndTheSameButtons(t *testing.T) {
	for a := 0; a <= 255; a++ {
		if n := impl.NewlyPressed(0, a); n != a {
			t.Error("nothing before", a, n)
		}
		if n := impl.NewlyPressed(a, a); n != 0 {
			t.Error("the same", a, n)
		}
		if n := impl.NewlyPressed(a, 0); n != 0 {
			t.Error("nothing now", a, n)
		}
		if n := impl.NewlyPressed(255, a); n != 0 {
			t.Error("all before", a, n)
		}
		if n := impl.NewlyPressed(a, 255); n != 255-a {
			t.Error("all now", a, n)
		}
	}
}

func TestP46ButtonsWorkedOutByHand(t *testing.T) {
	for _, c := range [][3]int{{3, 6, 4}, {6, 3, 1}, {1, 128, 128}, {128, 1, 1}, {127, 255, 128}, {254, 255, 1}, {240, 60, 12}, {85, 170, 170}, {0, 0, 0}, {0, 255, 255}, {255, 255, 0}} {
		if n := impl.NewlyPressed(c[0], c[1]); n != c[2] {
			t.Error(c, n)
		}
	}
}

func TestP46OtherNumbers(t *testing.T) {
	for _, bad := range notBytes {
		for a := 0; a <= 255; a++ {
			if n := impl.NewlyPressed(bad, a); n != 0 {
				t.Error("before", bad, a, n)
			}
			if n := impl.NewlyPressed(a, bad); n != 0 {
				t.Error("now", a, bad, n)
			}
		}
		for _, bad2 := range notBytes {
			if n := impl.NewlyPressed(bad, bad2); n != 0 {
				t.Error("both", bad, bad2, n)
			}
		}
	}
	for n := -600; n <= 600; n++ {
		if got := impl.NewlyPressed(0, n); (got == 0) != (n <= 0 || n > 255) {
			t.Error("now", n, got)
		}
		if got := impl.NewlyPressed(n, 255); (got == 0) != (n < 0 || n >= 255) {
			t.Error("before", n, got)
		}
	}
}

func TestP111OnesOfSumsAreCounted(t *testing.T) {
	forBytePairs(func(a int, b int) {
		sum := impl.CountOnes(a ^ b)
		if sum != impl.CountOnes(a)+impl.CountOnes(b)-2*impl.CountOnes(a&b) {
			t.Fatal("common", a, b, sum)
		}
		// No count of the program itself: how many digits of the two differ.
		first, second := digitsOf(a), digitsOf(b)
		differ := 0
		for place := range first {
			differ += digit(first[place] != second[place])
		}
		if sum != differ {
			t.Fatal("different", a, b, sum, differ)
		}
	})
}

func TestP111EdgesOfOnes(t *testing.T) {
	for a := 0; a <= 255; a++ {
		if n := impl.CountOnes(a ^ a); n != 0 {
			t.Error("itself", a, n)
		}
		if n := impl.CountOnes(a ^ 255); n != 8-impl.CountOnes(a) {
			t.Error("the others", a, n)
		}
	}
	for _, c := range [][2]int{{0, 0}, {1, 1}, {2, 1}, {3, 2}, {127, 7}, {128, 1}, {129, 2}, {170, 4}, {254, 7}, {255, 8}} {
		if n := impl.CountOnes(c[0]); n != c[1] {
			t.Error(c, n)
		}
	}
}

func TestP111OnesOfOtherNumbers(t *testing.T) {
	for n := -600; n <= 600; n++ {
		if ones := impl.CountOnes(n); !isByte(n) && ones != 0 {
			t.Error(n, ones)
		}
	}
	for _, bad := range notBytes {
		if ones := impl.CountOnes(bad); ones != 0 {
			t.Error(bad, ones)
		}
	}
}

func TestP117ButtonsAreKeptReleasedOrNew(t *testing.T) {
	forBytePairs(func(before int, now int) {
		fresh, kept := impl.NewlyPressed(before, now), before&now
		if fresh|kept != now || fresh&kept != 0 || fresh+kept != now {
			t.Fatal("now", before, now, fresh)
		}
		// What is newly pressed the other way round has been released.
		if released := impl.NewlyPressed(now, before); released|kept != before || released&now != 0 || released&fresh != 0 {
			t.Fatal("released", before, now, released)
		}
	})
}

// TestP117ButtonsOfControllers compares the buttons of two controllers, the later one pressed while the earlier ones are read.
func TestP117ButtonsOfControllers(t *testing.T) {
	forBytePairs(func(before int, now int) {
		p := impl.LatchPad(impl.PressPad(impl.Pad{}, before))
		p = impl.PressPad(p, now)
		fresh := impl.NewlyPressed(p.Taken, p.Pressed)
		digits := digitsOf(fresh)
		is := digitsOf(now)
		for place := range digits {
			q, was := impl.ReadPad(p)
			if digits[place] == 1 && was == 1 || digits[place]+was*is[place] != is[place] {
				t.Fatal(before, now, place, was)
			}
			p = q
		}
	})
}

func TestP117OtherNumbers(t *testing.T) {
	for _, bad := range notBytes {
		for _, a := range padBytes {
			if impl.NewlyPressed(bad, a) != 0 || impl.NewlyPressed(a, bad) != 0 || impl.NewlyPressed(bad, bad) != 0 {
				t.Error(bad, a)
			}
		}
	}
}
