package tests

import (
	"math"
	"strconv"
	"testing"

	"loop.example/homeconsole/impl"
)

var bothFlags = []bool{false, true}

// notBytes has numbers that wrap to valid bytes, so that a missing check shows.
var notBytes = []int{
	-1, -2, -127, -128, -129, -255, -256, -257, -32768,
	256, 257, 383, 384, 511, 512, 1023, 65535, 65536 + 77,
	1<<32 + 200, -(1 << 32) + 1, math.MaxInt, math.MinInt,
}

// edgeBytes are the places at which signs, carries and borrows change.
var edgeBytes = []int{0, 1, 126, 127, 128, 129, 254, 255}

func digit(set bool) int {
	if set {
		return 1
	}
	return 0
}

// signedNumber is written from the document, to check the program against something that is not the program.
func signedNumber(a int) int {
	if a >= 128 {
		return a - 256
	}
	return a
}

func onesOf(a int) int {
	n := 0
	for _, c := range strconv.FormatInt(int64(a), 2) {
		if c == '1' {
			n++
		}
	}
	return n
}

func isByte(a int) bool {
	return a >= 0 && a <= 255
}

// forBytes calls a check for every byte with both values of a flag.
func forBytes(check func(a int, flag bool)) {
	for a := 0; a <= 255; a++ {
		for _, flag := range bothFlags {
			check(a, flag)
		}
	}
}

// forPairs calls a check for every two bytes with both values of a flag.
func forPairs(check func(a int, b int, flag bool)) {
	forBytes(func(a int, flag bool) {
		for b := 0; b <= 255; b++ {
			check(a, b, flag)
		}
	})
}

// forOthers calls a check for every number that is not a byte with both values of a flag.
func forOthers(check func(a int, flag bool)) {
	for _, bad := range notBytes {
		for _, flag := range bothFlags {
			check(bad, flag)
		}
	}
}

// forOtherPairs calls a check for pairs of which one or both numbers are not bytes.
func forOtherPairs(check func(a int, b int, flag bool)) {
	forOthers(func(bad int, flag bool) {
		for _, b := range edgeBytes {
			check(bad, b, flag)
			check(b, bad, flag)
		}
		for _, bad2 := range notBytes {
			check(bad, bad2, flag)
		}
	})
}

func TestP18SumsAreExactWithTheirCarry(t *testing.T) {
	forPairs(func(a int, b int, carry bool) {
		sum, after, over := impl.AddBytes(a, b, carry)
		if !isByte(sum) || sum+256*digit(after) != a+b+digit(carry) {
			t.Fatal("sum", a, b, carry, sum, after)
		}
		signed := signedNumber(a) + signedNumber(b) + digit(carry)
		if over != (signed < -128 || signed > 127) {
			t.Fatal("overflow", a, b, carry, over)
		}
		sum2, after2, over2 := impl.AddBytes(b, a, carry)
		if sum2 != sum || after2 != after || over2 != over {
			t.Fatal("order", a, b, carry)
		}
	})
}

func TestP18EdgesOfSums(t *testing.T) {
	for _, c := range []struct {
		a, b  int
		carry bool
		sum   int
		after bool
		over  bool
	}{
		{0, 0, false, 0, false, false},
		{0, 0, true, 1, false, false},
		{200, 100, false, 44, true, false},
		{127, 0, false, 127, false, false},
		{127, 0, true, 128, false, true},
		{127, 1, false, 128, false, true},
		{127, 127, true, 255, false, true},
		{127, 128, false, 255, false, false},
		{127, 128, true, 0, true, false},
		{128, 128, false, 0, true, true},
		{128, 128, true, 1, true, true},
		{128, 255, false, 127, true, true},
		{128, 255, true, 128, true, false},
		{255, 0, false, 255, false, false},
		{255, 0, true, 0, true, false},
		{255, 1, false, 0, true, false},
		{255, 255, false, 254, true, false},
		{255, 255, true, 255, true, false},
	} {
		sum, after, over := impl.AddBytes(c.a, c.b, c.carry)
		if sum != c.sum || after != c.after || over != c.over {
			t.Error(c, sum, after, over)
		}
	}
}

func TestP18SumsOfOtherNumbers(t *testing.T) {
	forOtherPairs(func(a int, b int, carry bool) {
		if sum, after, over := impl.AddBytes(a, b, carry); sum != 0 || after || over {
			t.Error(a, b, carry, sum, after, over)
		}
	})
}

func TestP19DifferencesCanBeAddedAgain(t *testing.T) {
	forPairs(func(a int, b int, borrow bool) {
		difference, under := impl.SubBytes(a, b, borrow)
		if !isByte(difference) || difference-256*digit(under) != a-b-digit(borrow) {
			t.Fatal("difference", a, b, borrow, difference, under)
		}
		sum, carry, _ := impl.AddBytes(difference, b, borrow)
		if sum != a || carry != under {
			t.Fatal("added again", a, b, borrow, sum, carry)
		}
	})
}

func TestP19EdgesOfDifferences(t *testing.T) {
	for _, c := range []struct {
		a, b       int
		borrow     bool
		difference int
		under      bool
	}{
		{0, 0, false, 0, false},
		{0, 0, true, 255, true},
		{0, 255, false, 1, true},
		{0, 255, true, 0, true},
		{5, 7, false, 254, true},
		{127, 127, true, 255, true},
		{127, 128, false, 255, true},
		{127, 128, true, 254, true},
		{128, 127, false, 1, false},
		{128, 127, true, 0, false},
		{128, 128, true, 255, true},
		{255, 0, true, 254, false},
		{255, 255, false, 0, false},
		{255, 255, true, 255, true},
	} {
		difference, under := impl.SubBytes(c.a, c.b, c.borrow)
		if difference != c.difference || under != c.under {
			t.Error(c, difference, under)
		}
	}
}

func TestP19DifferencesOfOtherNumbers(t *testing.T) {
	forOtherPairs(func(a int, b int, borrow bool) {
		if difference, under := impl.SubBytes(a, b, borrow); difference != 0 || under {
			t.Error(a, b, borrow, difference, under)
		}
	})
}

func TestP20SignedNumbersAreDifferentAndInRange(t *testing.T) {
	seen := map[int]int{}
	for a := 0; a <= 255; a++ {
		s := impl.SignedByte(a)
		if s < -128 || s > 127 || (a-s)%256 != 0 {
			t.Error("range", a, s)
		}
		if before, ok := seen[s]; ok {
			t.Error("same", before, a, s)
		}
		seen[s] = a
	}
}

func TestP20EdgesOfSignedNumbers(t *testing.T) {
	for _, c := range [][2]int{{0, 0}, {1, 1}, {127, 127}, {128, -128}, {129, -127}, {254, -2}, {255, -1}} {
		if s := impl.SignedByte(c[0]); s != c[1] {
			t.Error(c, s)
		}
	}
	for _, bad := range notBytes {
		if s := impl.SignedByte(bad); s != 0 {
			t.Error(bad, s)
		}
	}
}

func TestP21RotationsAreOpposite(t *testing.T) {
	forBytes(func(a int, carry bool) {
		left, out := impl.RotateLeft(a, carry)
		if back, in := impl.RotateRight(left, out); back != a || in != carry {
			t.Fatal(a, carry, left, out, back, in)
		}
	})
}

func TestP21NineRotationsChangeNothing(t *testing.T) {
	rotations := []func(int, bool) (int, bool){impl.RotateLeft, impl.RotateRight}
	for i, rotate := range rotations {
		forBytes(func(a int, carry bool) {
			n, c := a, carry
			for range 9 {
				n, c = rotate(n, c)
			}
			if n != a || c != carry {
				t.Fatal(i, a, carry, n, c)
			}
		})
	}
}

func TestP21RotationsToTheLeft(t *testing.T) {
	forBytes(func(a int, carry bool) {
		if left, out := impl.RotateLeft(a, carry); left != (2*a+digit(carry))%256 || out != (a >= 128) {
			t.Fatal(a, carry, left, out)
		}
	})
	forOthers(func(bad int, carry bool) {
		if left, out := impl.RotateLeft(bad, carry); left != 0 || out {
			t.Error(bad, carry, left, out)
		}
	})
}

func TestP22RotationsKeepOnes(t *testing.T) {
	forBytes(func(a int, carry bool) {
		right, out := impl.RotateRight(a, carry)
		if impl.CountOnes(right)+digit(out) != impl.CountOnes(a)+digit(carry) {
			t.Fatal("right", a, carry, right, out)
		}
		left, high := impl.RotateLeft(a, carry)
		if impl.CountOnes(left)+digit(high) != impl.CountOnes(a)+digit(carry) {
			t.Fatal("left", a, carry, left, high)
		}
		if back, in := impl.RotateLeft(right, out); back != a || in != carry {
			t.Fatal("undone", a, carry, back, in)
		}
	})
}

func TestP22RotationsToTheRight(t *testing.T) {
	forBytes(func(a int, carry bool) {
		if right, out := impl.RotateRight(a, carry); right != a/2+128*digit(carry) || out != (a%2 == 1) {
			t.Fatal(a, carry, right, out)
		}
	})
	forOthers(func(bad int, carry bool) {
		if right, out := impl.RotateRight(bad, carry); right != 0 || out {
			t.Error(bad, carry, right, out)
		}
	})
}

func TestP23OnesAndZerosAreEight(t *testing.T) {
	for a := 0; a <= 255; a++ {
		if n := impl.CountOnes(a) + impl.CountOnes(255-a); n != 8 {
			t.Error("together", a, n)
		}
		if n := impl.CountOnes(a); n != onesOf(a) {
			t.Error("ones", a, n)
		}
	}
	for _, bad := range notBytes {
		if n := impl.CountOnes(bad); n != 0 {
			t.Error(bad, n)
		}
	}
}

// checkLongSum adds two numbers with two bytes byte by byte.
func checkLongSum(t *testing.T, m int, n int) {
	t.Helper()
	low, carry, _ := impl.AddBytes(m%256, n%256, false)
	high, _, _ := impl.AddBytes(m/256, n/256, carry)
	if sum := (m + n) % 65536; low != sum%256 || high != sum/256 {
		t.Fatal(m, n, low, high)
	}
}

func TestP110LongerNumbersAreAddedByteByByte(t *testing.T) {
	for m := 0; m < 65536; m += 97 {
		for n := 0; n < 65536; n += 89 {
			checkLongSum(t, m, n)
		}
	}
}

func TestP110EdgesOfLongerNumbers(t *testing.T) {
	edges := []int{0, 1, 127, 128, 255, 256, 257, 511, 32767, 32768, 65279, 65280, 65534, 65535}
	for _, m := range edges {
		for _, n := range edges {
			checkLongSum(t, m, n)
		}
	}
}
