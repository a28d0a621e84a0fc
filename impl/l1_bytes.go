package impl

import "math/bits"

// octet is a byte. It is a uint8 because the wraparound of that type is the document's modulo 256.
type octet uint8

// flags is what an operation on bytes tells beside its result. carry is the borrow of a difference.
type flags struct {
	carry    bool
	overflow bool
}

// toOctet returns false for numbers that are not bytes: a conversion alone would wrap them into valid ones.
func toOctet(n int) (octet, bool) {
	if n < 0 || n > 255 {
		return 0, false
	}
	return octet(n), true
}

func isByte(n int) bool {
	_, ok := toOctet(n)
	return ok
}

func allBytes(list []int) bool {
	for _, n := range list {
		if !isByte(n) {
			return false
		}
	}
	return true
}

func toOctets(a int, b int) (octet, octet, bool) {
	first, ok := toOctet(a)
	if !ok {
		return 0, 0, false
	}
	second, ok := toOctet(b)
	if !ok {
		return 0, 0, false
	}
	return first, second, true
}

func digitOf(set bool) int {
	if set {
		return 1
	}
	return 0
}

func (o octet) signed() int {
	return int(int8(o))
}

func (o octet) add(other octet, carry bool) (octet, flags) {
	sum := int(o) + int(other) + digitOf(carry)
	signedSum := o.signed() + other.signed() + digitOf(carry)
	return octet(sum), flags{carry: sum > 255, overflow: signedSum < -128 || signedSum > 127}
}

func (o octet) sub(other octet, borrow bool) (octet, flags) {
	difference := int(o) - int(other) - digitOf(borrow)
	return octet(difference), flags{carry: difference < 0}
}

func (o octet) rotateLeft(carry bool) (octet, flags) {
	return o<<1 | octet(digitOf(carry)), flags{carry: o >= 128}
}

func (o octet) rotateRight(carry bool) (octet, flags) {
	return o>>1 | octet(digitOf(carry))<<7, flags{carry: o&1 == 1}
}

func (o octet) ones() int {
	return bits.OnesCount8(uint8(o))
}

// AddBytes adds two bytes, which are numbers in 0..255, and 1 if carry is true. It returns the sum modulo 256, whether it was greater than 255, and whether the sum of the bytes as signed numbers (SignedByte), and 1 if carry is true, is not in -128..127; 0 and false for other numbers.
func AddBytes(a int, b int, carry bool) (int, bool, bool) {
	first, second, ok := toOctets(a, b)
	if !ok {
		return 0, false, false
	}
	sum, after := first.add(second, carry)
	return int(sum), after.carry, after.overflow
}

// SubBytes subtracts a byte b, and 1 if borrow is true, from a byte a. It returns the difference modulo 256, in 0..255, and whether it was negative; 0 and false for other numbers.
func SubBytes(a int, b int, borrow bool) (int, bool) {
	first, second, ok := toOctets(a, b)
	if !ok {
		return 0, false
	}
	difference, after := first.sub(second, borrow)
	return int(difference), after.carry
}

// SignedByte returns a byte as a signed number: the byte minus 256 if it is at least 128; 0 for other numbers.
func SignedByte(a int) int {
	o, ok := toOctet(a)
	if !ok {
		return 0
	}
	return o.signed()
}

// RotateLeft rotates a byte by one place to the left through the carry: the result is twice the byte, plus 1 if carry is true, modulo 256, and the new carry is whether the byte is at least 128; 0 and false for other numbers.
func RotateLeft(a int, carry bool) (int, bool) {
	o, ok := toOctet(a)
	if !ok {
		return 0, false
	}
	rotated, after := o.rotateLeft(carry)
	return int(rotated), after.carry
}

// RotateRight rotates a byte by one place to the right through the carry: the result is half the byte, rounded down, plus 128 if carry is true, and the new carry is whether the byte is odd; 0 and false for other numbers.
func RotateRight(a int, carry bool) (int, bool) {
	o, ok := toOctet(a)
	if !ok {
		return 0, false
	}
	rotated, after := o.rotateRight(carry)
	return int(rotated), after.carry
}

// CountOnes returns the number of binary digits that are 1 in a byte; 0 for other numbers.
func CountOnes(a int) int {
	o, ok := toOctet(a)
	if !ok {
		return 0
	}
	return o.ones()
}
