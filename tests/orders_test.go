package tests

import (
	"math"
	"slices"
	"strconv"
	"strings"
	"testing"

	"loop.example/homeconsole/impl"
)

// lengthsOfOperations is written from the document, to check the program against something that is not the program.
var lengthsOfOperations = []struct {
	name   string
	op     int
	length int
}{
	{"wait", impl.OpWait, 1},
	{"set", impl.OpSet, 2},
	{"load", impl.OpLoad, 3},
	{"store", impl.OpStore, 3},
	{"add", impl.OpAdd, 3},
	{"sub", impl.OpSub, 3},
	{"and", impl.OpAnd, 3},
	{"xor", impl.OpXor, 3},
	{"left", impl.OpLeft, 1},
	{"right", impl.OpRight, 1},
	{"jump", impl.OpJump, 3},
	{"zero", impl.OpZero, 3},
	{"carry", impl.OpCarry, 3},
	{"call", impl.OpCall, 3},
	{"return", impl.OpReturn, 1},
	{"stop", impl.OpStop, 1},
}

// notOperations has numbers that are operations again modulo 16, 256 or a power of two, so that a missing check shows.
var notOperations = []int{
	-1, -2, -15, -16, -17, -255, -256, 16, 17, 18, 31, 32, 255, 256, 257, 260, 271, 1024,
	1<<32 + 4, -(1 << 32), math.MaxInt, math.MinInt,
}

// notArguments has numbers that fit no operation; many of them would after wrapping.
var notArguments = []int{
	-1, -2, -255, -256, -257, -1023, -1024, -1025, 1024, 1025, 1279, 1280, 2047, 2048, 65535, 65536,
	1<<32 + 5, -(1 << 32), math.MaxInt, math.MaxInt - 255, math.MinInt, math.MinInt + 1,
}

// largestArgument is the end of the argument's range for each length.
func largestArgument(length int) int {
	switch length {
	case 1:
		return 0
	case 2:
		return 255
	default:
		return 1023
	}
}

// bytesOf writes an instruction as the document says, without asking the program.
func bytesOf(op int, length int, arg int) []int {
	switch length {
	case 1:
		return []int{op}
	case 2:
		return []int{op, arg}
	default:
		low := arg
		high := 0
		for low > 255 {
			low -= 256
			high++
		}
		return []int{op, low, high}
	}
}

// forOrders calls a check for every valid instruction, with its bytes.
func forOrders(check func(o impl.Order, list []int)) {
	for _, c := range lengthsOfOperations {
		for arg := 0; arg <= largestArgument(c.length); arg++ {
			check(impl.Order{Op: c.op, Arg: arg}, bytesOf(c.op, c.length, arg))
		}
	}
}

// forOtherOrders calls a check for instructions of which the operation, the argument or both are wrong.
func forOtherOrders(check func(o impl.Order)) {
	for _, c := range lengthsOfOperations {
		for _, arg := range notArguments {
			check(impl.Order{Op: c.op, Arg: arg})
		}
		for arg := largestArgument(c.length) + 1; arg <= 1300; arg++ {
			check(impl.Order{Op: c.op, Arg: arg})
		}
	}
	for _, op := range notOperations {
		for _, arg := range slices.Concat([]int{0, 1, 5, 255, 256, 1023}, notArguments) {
			check(impl.Order{Op: op, Arg: arg})
		}
	}
}

// checkDecoded checks that an instruction is found at an index, and that the list stays as it is.
func checkDecoded(t *testing.T, list []int, at int, want impl.Order, length int) {
	t.Helper()
	before := slices.Clone(list)
	o, n, ok := impl.DecodeOrder(list, at)
	if !ok || o != want || n != length {
		t.Fatal(list, at, "wanted", want, length, "got", o, n, ok)
	}
	if !slices.Equal(list, before) {
		t.Fatal("list changed", before, list)
	}
}

// checkNotDecoded checks the one result for all that is not an instruction.
func checkNotDecoded(t *testing.T, list []int, at int) {
	t.Helper()
	before := slices.Clone(list)
	if o, n, ok := impl.DecodeOrder(list, at); ok || n != 0 || o != (impl.Order{}) {
		t.Fatal(list, at, o, n, ok)
	}
	if !slices.Equal(list, before) {
		t.Fatal("list changed", before, list)
	}
}

func TestP29LengthsOfAllOperations(t *testing.T) {
	if len(lengthsOfOperations) != 16 {
		t.Fatal("operations", len(lengthsOfOperations))
	}
	for number, c := range lengthsOfOperations {
		if c.op != number {
			t.Error("number", c.name, c.op, number)
		}
		if n := impl.OrderLength(c.op); n != c.length {
			t.Error(c.name, n, c.length)
		}
	}
}

func TestP29LengthsAreSmall(t *testing.T) {
	for op := -2000; op <= 2000; op++ {
		n := impl.OrderLength(op)
		known := op >= 0 && op <= 15
		if known && (n < 1 || n > 3) || !known && n != 0 {
			t.Error(op, n)
		}
	}
	for _, op := range notOperations {
		if n := impl.OrderLength(op); n != 0 {
			t.Error("unknown", op, n)
		}
	}
}

func TestP30ArgumentsFit(t *testing.T) {
	count := 0
	forOrders(func(o impl.Order, list []int) {
		count++
		if !impl.OrderValid(o) {
			t.Error("valid", o)
		}
		if impl.OrderValid(impl.Order{Op: o.Op, Arg: 1024}) {
			t.Error("argument 1024", o)
		}
		for _, op := range notOperations {
			if impl.OrderValid(impl.Order{Op: op, Arg: o.Arg}) {
				t.Error("unknown operation", op, o.Arg)
			}
		}
	})
	// Five operations without an argument, one with a byte, ten with an address.
	if count != 5+256+10*1024 {
		t.Error("instructions", count)
	}
}

func TestP30EndsOfTheRanges(t *testing.T) {
	for _, c := range lengthsOfOperations {
		top := largestArgument(c.length)
		for arg, want := range map[int]bool{-1: false, 0: true, top: true, top + 1: false} {
			if got := impl.OrderValid(impl.Order{Op: c.op, Arg: arg}); got != want {
				t.Error(c.name, arg, got)
			}
		}
	}
}

func TestP30OtherInstructionsAreInvalidAndHaveNoBytes(t *testing.T) {
	forOtherOrders(func(o impl.Order) {
		if impl.OrderValid(o) {
			t.Error("valid", o)
		}
		if list := impl.OrderBytes(o); len(list) != 0 {
			t.Error("bytes", o, list)
		}
	})
}

func TestP31BytesOfInstructions(t *testing.T) {
	forOrders(func(o impl.Order, list []int) {
		if got := impl.OrderBytes(o); !slices.Equal(got, list) {
			t.Fatal(o, got, list)
		}
	})
	for _, c := range []struct {
		o    impl.Order
		list []int
	}{
		{impl.Order{Op: impl.OpAdd, Arg: 500}, []int{4, 244, 1}},
		{impl.Order{Op: impl.OpSet, Arg: 5}, []int{1, 5}},
		{impl.Order{Op: impl.OpStore, Arg: 10}, []int{3, 10, 0}},
		{impl.Order{Op: impl.OpStop}, []int{15}},
		{impl.Order{}, []int{0}},
		{impl.Order{Op: impl.OpSet, Arg: 255}, []int{1, 255}},
		{impl.Order{Op: impl.OpJump, Arg: 255}, []int{10, 255, 0}},
		{impl.Order{Op: impl.OpJump, Arg: 256}, []int{10, 0, 1}},
		{impl.Order{Op: impl.OpCall, Arg: 1023}, []int{13, 255, 3}},
	} {
		if got := impl.OrderBytes(c.o); !slices.Equal(got, c.list) {
			t.Error(c.o, got, c.list)
		}
	}
}

func TestP31InstructionsCanBeDecoded(t *testing.T) {
	forOrders(func(o impl.Order, list []int) {
		length := len(list)
		checkDecoded(t, impl.OrderBytes(o), 0, o, length)
		for _, front := range [][]int{{}, {0}, {4}, {4, 244}, {1, 1, 13, 255, 3}, {-1, 256, math.MinInt}} {
			for _, back := range [][]int{{}, {0}, {255}, {15, 3}, {256}, {-1, -1, -1}, {math.MaxInt, math.MinInt}} {
				checkDecoded(t, slices.Concat(front, impl.OrderBytes(o), back), len(front), o, length)
			}
		}
	})
}

// forPlaces calls a check with an instruction at the beginning, in the middle and at the end of a long list of others.
func forPlaces(list []int, check func(all []int, at int)) {
	for _, front := range []int{0, 1, 100, 255, 1024} {
		for _, back := range []int{0, 1, 2, 300} {
			check(slices.Concat(slices.Repeat([]int{impl.OpXor}, front), list, slices.Repeat([]int{impl.OpSub}, back)), front)
		}
	}
}

func TestP31PlacesInLongLists(t *testing.T) {
	for _, c := range lengthsOfOperations {
		for _, arg := range []int{0, largestArgument(c.length) / 2, largestArgument(c.length)} {
			o := impl.Order{Op: c.op, Arg: arg}
			forPlaces(bytesOf(c.op, c.length, arg), func(all []int, at int) {
				checkDecoded(t, all, at, o, c.length)
			})
		}
	}
}

func TestP31ProgramsAreDecodedOneInstructionAfterTheOther(t *testing.T) {
	var orders []impl.Order
	var program []int
	forOrders(func(o impl.Order, list []int) {
		if o.Arg%97 == 0 || o.Arg == largestArgument(len(list)) {
			orders = append(orders, o)
			program = append(program, impl.OrderBytes(o)...)
		}
	})
	at := 0
	for _, o := range orders {
		checkDecoded(t, program, at, o, impl.OrderLength(o.Op))
		at += impl.OrderLength(o.Op)
	}
	if at != len(program) {
		t.Error("end", at, len(program))
	}
}

// checkCanonical decodes at an index and compares with what the document says of any list of numbers.
func checkCanonical(t *testing.T, list []int, at int) {
	t.Helper()
	o, n, ok := impl.DecodeOrder(list, at)
	if !ok {
		if n != 0 || o != (impl.Order{}) {
			t.Fatal("not decoded", list, at, o, n)
		}
		return
	}
	if !impl.OrderValid(o) || n != impl.OrderLength(o.Op) || at+n > len(list) {
		t.Fatal("instruction", list, at, o, n)
	}
	if !slices.Equal(list[at:at+n], impl.OrderBytes(o)) {
		t.Fatal("bytes", list, at, o)
	}
	checkNotDecoded(t, list[:at+n-1], at)
	checkNotDecoded(t, slices.Clone(list[:at+n-1]), at)
}

func TestP32DecodedInstructionsAreCanonical(t *testing.T) {
	for op := -1; op <= 16; op++ {
		for low := -1; low <= 256; low += 3 {
			for high := -1; high <= 256; high++ {
				checkCanonical(t, []int{op, low, high}, 0)
			}
		}
	}
}

// TestP32WhatIsDecoded goes through all lists with three bytes: those that begin with an instruction are decoded, and no others.
func TestP32WhatIsDecoded(t *testing.T) {
	list := make([]int, 3)
	for op := 0; op <= 255; op++ {
		for low := 0; low <= 255; low++ {
			for high := 0; high <= 255; high++ {
				list[0], list[1], list[2] = op, low, high
				want := op <= 15 && (lengthsOfOperations[op].length < 3 || high <= 3)
				if _, _, ok := impl.DecodeOrder(list, 0); ok != want {
					t.Fatal(op, low, high, ok)
				}
			}
		}
	}
}

func TestP32WithoutTheLastByteNothingIsDecoded(t *testing.T) {
	forOrders(func(o impl.Order, list []int) {
		for length := range list {
			for _, front := range [][]int{{}, {0}, {4, 0, 0}, {15, 15, 15, 15}} {
				all := slices.Concat(front, impl.OrderBytes(o))
				cut := all[:len(front)+length]
				// Once with the missing bytes in the spare capacity, once without.
				checkNotDecoded(t, cut, len(front))
				checkNotDecoded(t, slices.Clip(slices.Clone(cut)), len(front))
			}
		}
	})
}

func TestP32UnknownOperationsAreNotDecoded(t *testing.T) {
	for _, op := range notOperations {
		for _, back := range [][]int{{}, {0}, {0, 0}, {5, 1}, {244, 1, 0, 0}} {
			checkNotDecoded(t, slices.Concat([]int{op}, back), 0)
			checkNotDecoded(t, slices.Concat([]int{0, 0}, []int{op}, back), 2)
		}
	}
}

func TestP32NumbersThatNoInstructionHasThere(t *testing.T) {
	for _, c := range lengthsOfOperations {
		for _, bad := range notBytes {
			switch c.length {
			case 1:
				checkDecoded(t, []int{c.op, bad, bad}, 0, impl.Order{Op: c.op}, 1)
			case 2:
				checkNotDecoded(t, []int{c.op, bad}, 0)
				checkNotDecoded(t, []int{c.op, bad, 0}, 0)
				checkDecoded(t, []int{c.op, 7, bad}, 0, impl.Order{Op: c.op, Arg: 7}, 2)
			default:
				checkNotDecoded(t, []int{c.op, bad, 0}, 0)
				checkNotDecoded(t, []int{c.op, 0, bad}, 0)
				checkNotDecoded(t, []int{c.op, bad, bad}, 0)
				checkDecoded(t, []int{c.op, 7, 1, bad}, 0, impl.Order{Op: c.op, Arg: 263}, 3)
			}
		}
	}
}

// TestP32NumbersThatAddUpToAnArgument has numbers that are no bytes but whose sum, or whose sum after wrapping, fits.
func TestP32NumbersThatAddUpToAnArgument(t *testing.T) {
	for _, c := range lengthsOfOperations {
		if c.length < 3 {
			continue
		}
		for _, back := range [][]int{
			{256, 0}, {500, 0}, {1023, 0}, {-1, 1}, {-256, 1}, {-12, 2}, {1024, -1}, {0, -1}, {512, -2},
			{0, 4}, {255, 4}, {0, 255}, {244, 1 << 56}, {244, 1<<56 + 1}, {244, -(1 << 56)}, {1 << 32, 1}, {244, 1 << 32},
			{math.MinInt, -(1 << 55)}, {math.MinInt, 1 << 55},
		} {
			checkNotDecoded(t, slices.Concat([]int{c.op}, back), 0)
			checkNotDecoded(t, slices.Concat([]int{0, 0, 0}, []int{c.op}, back, []int{0, 0}), 3)
		}
	}
}

func TestP32IndexesOutsideTheList(t *testing.T) {
	for _, list := range [][]int{nil, {}, {0}, {15}, {1, 5}, {4, 244, 1}, {0, 0, 0, 0}, make([]int, 3, 10)} {
		for _, at := range []int{-1, -2, -3, -len(list) - 1, len(list), len(list) + 1, len(list) + 3, 1024, math.MaxInt, math.MaxInt - 1, math.MaxInt - 2, math.MinInt, math.MinInt + 1} {
			checkNotDecoded(t, list, at)
		}
	}
}

func keyOf(list []int) string {
	words := make([]string, len(list))
	for i, n := range list {
		words[i] = strconv.Itoa(n)
	}
	return strings.Join(words, " ")
}

func TestP114BytesTellInstructionsApart(t *testing.T) {
	seen := map[string]impl.Order{}
	forOrders(func(o impl.Order, _ []int) {
		list := impl.OrderBytes(o)
		if len(list) == 0 {
			t.Fatal("no bytes", o)
		}
		if other, ok := seen[keyOf(list)]; ok {
			t.Fatal("same bytes", o, other, list)
		}
		seen[keyOf(list)] = o
	})
}

func TestP114InstructionsHaveBytesOnly(t *testing.T) {
	forOrders(func(o impl.Order, _ []int) {
		for _, n := range impl.OrderBytes(o) {
			if !isByte(n) {
				t.Fatal(o, n)
			}
		}
	})
}

func TestP31AndP114BytesAreNewMemory(t *testing.T) {
	forOrders(func(o impl.Order, want []int) {
		first := impl.OrderBytes(o)
		second := impl.OrderBytes(o)
		spoilList(first)
		if !slices.Equal(second, want) {
			t.Fatal("shared", o, second)
		}
		if third := impl.OrderBytes(o); !slices.Equal(third, want) {
			t.Fatal("kept", o, third)
		}
	})
}
