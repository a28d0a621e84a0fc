package tests

import (
	"math"
	"slices"
	"strconv"
	"testing"

	"loop.example/homeconsole/impl"
)

// notCycles has numbers of cycles that no argument has.
var notCycles = []int{-1, -2, -3, -1000000000, 1000000001, 1000000002, 2000000000, 1 << 32, 1<<32 + 5, -(1 << 32), math.MaxInt, math.MaxInt - 1, math.MinInt}

func deepMachine(x impl.Machine) impl.Machine {
	x.Cells = deepCopy(x.Cells)
	x.Back = slices.Clone(x.Back)
	return x
}

func sameMachine(a impl.Machine, b impl.Machine) bool {
	return sameMemory(a.Cells, b.Cells) && a.A == b.A && a.At == b.At && a.Carry == b.Carry &&
		slices.Equal(a.Back, b.Back) && a.Stopped == b.Stopped && a.Cycles == b.Cycles
}

func isNoMachine(x impl.Machine) bool {
	return sameMachine(x, impl.Machine{})
}

// partsOf shows a machine without its memory.
func partsOf(x impl.Machine) string {
	return "A " + strconv.Itoa(x.A) + " At " + strconv.Itoa(x.At) + " Carry " + strconv.FormatBool(x.Carry) + " Back " + keyOf(x.Back) +
		" Stopped " + strconv.FormatBool(x.Stopped) + " Cycles " + strconv.Itoa(x.Cycles) + " Bank " + strconv.Itoa(x.Cells.Bank)
}

// setByte changes what is read at an address, also in a bank, which no instruction can do.
func setByte(m impl.Memory, at int, value int) {
	switch {
	case at <= 511:
		m.Ram[at%256] = value
	case at <= 767:
		m.Rom[0][at-512] = value
	default:
		m.Rom[m.Bank][at-768] = value
	}
}

// setBytes begins again at 0 behind the last address.
func setBytes(m impl.Memory, at int, list []int) {
	for i, value := range list {
		setByte(m, (at+i)%1024, value)
	}
}

// returnAddresses has n addresses, none like the one beside it.
func returnAddresses(n int) []int {
	list := make([]int, n)
	for i := range list {
		list[i] = (1023 + 300*i) % 1024
	}
	return list
}

// machineWith stands before an instruction and has all else of x.
func machineWith(x impl.Machine, list []int) impl.Machine {
	y := deepMachine(x)
	setBytes(y.Cells, y.At, list)
	return y
}

// codeMachine begins with lines at Start; the rest of its bank and the working memory are zeros.
func codeMachine(t *testing.T, lines ...string) impl.Machine {
	t.Helper()
	list, bad := impl.Assemble(lines)
	if bad != 0 || len(list) > 256 {
		t.Fatal("lines", lines, bad)
	}
	bank := make([]int, 256)
	copy(bank, list)
	x := impl.NewMachine([][]int{bank})
	if !impl.MachineValid(x) {
		t.Fatal("machine", lines)
	}
	return x
}

// orderAt reads an instruction as the document says, without asking the program.
func orderAt(m impl.Memory, at int) (int, int, int) {
	op := byteAt(m, at)
	if op > 15 {
		return 0, 0, 0
	}
	c := lengthsOfOperations[op]
	arg := 0
	if c.length > 1 {
		arg = byteAt(m, (at+1)%1024)
	}
	if c.length > 2 {
		arg += 256 * byteAt(m, (at+2)%1024)
	}
	if arg > largestArgument(c.length) {
		return 0, 0, 0
	}
	return op, arg, c.length
}

// combined is the accumulator and the carry after one of the operations that read a byte or rotate.
func combined(x impl.Machine, op int, value int) (int, bool) {
	switch op {
	case impl.OpAdd:
		sum := x.A + value + digit(x.Carry)
		return sum % 256, sum > 255
	case impl.OpSub:
		difference := x.A - value - digit(x.Carry)
		return (difference + 512) % 256, difference < 0
	case impl.OpAnd:
		return x.A & value, x.Carry
	case impl.OpXor:
		return x.A | value - x.A&value, x.Carry
	case impl.OpLeft:
		return (2*x.A + digit(x.Carry)) % 256, x.A >= 128
	case impl.OpRight:
		return x.A/2 + 128*digit(x.Carry), x.A%2 == 1
	default:
		return value, x.Carry
	}
}

// stepped is a step, written from the document, to check the program against something that is not the program.
func stepped(x impl.Machine) impl.Machine {
	y := deepMachine(x)
	if x.Stopped {
		return y
	}
	op, arg, length := orderAt(x.Cells, x.At)
	if length == 0 {
		y.Stopped = true
		return y
	}
	behind := (x.At + length) % 1024
	y.At = behind
	y.Cycles += length
	switch op {
	case impl.OpWait:
	case impl.OpSet:
		y.A = arg
	case impl.OpStore:
		y.Cells = written(x.Cells, arg, x.A)
	case impl.OpJump:
		y.At = arg
	case impl.OpZero:
		if x.A == 0 {
			y.At = arg
		}
	case impl.OpCarry:
		if x.Carry {
			y.At = arg
		}
	case impl.OpCall:
		if len(x.Back) >= 8 {
			y.Stopped = true
		} else {
			y.Back = append(y.Back, behind)
			y.At = arg
		}
	case impl.OpReturn:
		if len(x.Back) == 0 {
			y.Stopped = true
		} else {
			y.At = x.Back[len(x.Back)-1]
			y.Back = y.Back[:len(x.Back)-1]
		}
	case impl.OpStop:
		y.Stopped = true
	default:
		y.A, y.Carry = combined(x, op, byteAt(x.Cells, arg))
	}
	return y
}

// walk returns the machine before and after each of n steps.
func walk(x impl.Machine, n int) []impl.Machine {
	list := []impl.Machine{deepMachine(x)}
	for range n {
		list = append(list, stepped(list[len(list)-1]))
	}
	return list
}

// plainMachine is a valid machine with several banks, of which a later one is switched on.
func plainMachine() impl.Machine {
	return impl.Machine{Cells: memoryOf(3, 2), A: 77, At: 600, Back: []int{700, 20, 1023}, Cycles: 1000}
}

// forMachines calls a check for valid machines of many kinds; what stands at At is what their memory happens to have there.
func forMachines(check func(x impl.Machine)) {
	count := 0
	forMemories(func(m impl.Memory) {
		for _, at := range edgeAddresses {
			for _, stopped := range bothFlags {
				count++
				check(impl.Machine{
					Cells: deepCopy(m), A: count * 37 % 256, At: at, Carry: count%3 == 0,
					Back: returnAddresses(count % 9), Stopped: stopped, Cycles: count * 1001 % 1000000001,
				})
			}
		}
	})
}

// mixedMachine has instructions everywhere, in an order that follows a rule which knows nothing of programs; many jumps lead into the middle of others.
func mixedMachine(seed int) impl.Machine {
	state := seed*7919 + 1
	next := func(n int) int {
		state = (state*1103515245 + 12345) % (1 << 31)
		return state / 65536 % n
	}
	m := memoryOf(1+seed%4, seed/4%(1+seed%4))
	for _, list := range slices.Concat([][]int{m.Ram}, m.Rom) {
		copy(list, mixedCode(next))
	}
	at := []int{0, 512, 768, next(1024)}[seed/2%4]
	return impl.Machine{Cells: m, A: next(256), At: at, Carry: next(2) == 1, Back: returnAddresses(next(9)), Cycles: next(30000)}
}

// mixedCode has few instructions that stop a machine, and many low bytes that are operations themselves.
func mixedCode(next func(n int) int) []int {
	var code []int
	for len(code) < 256 {
		op := next(16)
		if op >= impl.OpCall && next(8) > 0 {
			op = next(impl.OpCall)
		}
		length := lengthsOfOperations[op].length
		low := next(13)
		if next(30) == 0 {
			low = next(256)
		}
		arg := (low + 256*next(4)) % (largestArgument(length) + 1)
		code = append(code, bytesOf(op, length, arg)...)
	}
	return code
}

// brokenMachines has machines that differ from a valid one in one part.
func brokenMachines() map[string]impl.Machine {
	broken := map[string]impl.Machine{"zero": {}}
	put := func(name string, change func(x *impl.Machine)) {
		x := plainMachine()
		change(&x)
		broken[name] = x
		x.Stopped = true
		broken["stopped "+name] = x
	}
	for name, m := range brokenMemories() {
		put("memory "+name, func(x *impl.Machine) { x.Cells = m })
	}
	for _, bad := range notBytes {
		put("accumulator "+strconv.Itoa(bad), func(x *impl.Machine) { x.A = bad })
	}
	for _, bad := range notAddresses {
		put("address "+strconv.Itoa(bad), func(x *impl.Machine) { x.At = bad })
		for place := range 8 {
			put("return address "+strconv.Itoa(place)+" "+strconv.Itoa(bad), func(x *impl.Machine) {
				x.Back = returnAddresses(8)
				x.Back[place] = bad
			})
		}
		put("only return address "+strconv.Itoa(bad), func(x *impl.Machine) { x.Back = []int{bad} })
	}
	for _, n := range []int{9, 10, 16, 17, 256, 1000} {
		put("return addresses "+strconv.Itoa(n), func(x *impl.Machine) { x.Back = returnAddresses(n) })
	}
	for _, bad := range notCycles {
		put("cycles "+strconv.Itoa(bad), func(x *impl.Machine) { x.Cycles = bad })
	}
	return broken
}

func TestP36MachinesHaveFewReturnAddresses(t *testing.T) {
	forMachines(func(x impl.Machine) {
		for n := range 20 {
			y := deepMachine(x)
			y.Back = returnAddresses(n)
			if impl.MachineValid(y) != (n <= 8) {
				t.Fatal(n, partsOf(x))
			}
		}
	})
}

func TestP36AccumulatorsAreBytes(t *testing.T) {
	forMachines(func(x impl.Machine) {
		for _, bad := range notBytes {
			y := x
			y.A = bad
			if impl.MachineValid(y) {
				t.Fatal(bad, partsOf(x))
			}
		}
	})
	x := plainMachine()
	for a := -300; a <= 600; a++ {
		x.A = a
		if impl.MachineValid(x) != isByte(a) {
			t.Error(a)
		}
	}
}

func TestP36OtherMachinesAreInvalid(t *testing.T) {
	for name, x := range brokenMachines() {
		before := deepMachine(x)
		if impl.MachineValid(x) {
			t.Error(name)
		}
		if !sameMachine(x, before) {
			t.Error("changed", name)
		}
	}
}

func TestP36ValidMachines(t *testing.T) {
	forMachines(func(x impl.Machine) {
		before := deepMachine(x)
		if !impl.MachineValid(x) || !sameMachine(x, before) {
			t.Fatal(partsOf(x))
		}
	})
	for at := -1; at <= 1024; at++ {
		inside := at >= 0 && at <= 1023
		x := plainMachine()
		x.At = at
		y := plainMachine()
		y.Back = []int{5, at}
		if impl.MachineValid(x) != inside || impl.MachineValid(y) != inside {
			t.Error("address", at)
		}
	}
	for _, cycles := range []int{0, 1, 2, 100000, 999999997, 999999999, 1000000000} {
		x := plainMachine()
		x.Cycles = cycles
		if !impl.MachineValid(x) {
			t.Error("cycles", cycles)
		}
	}
	for _, back := range [][]int{nil, {}, {0}, {1023}, {7, 7, 7, 7, 7, 7, 7, 7}, make([]int, 0, 20)} {
		x := plainMachine()
		x.Back = back
		if !impl.MachineValid(x) {
			t.Error("return addresses", back)
		}
	}
}

func TestP37NewMachinesBeginAtStart(t *testing.T) {
	for banks := 1; banks <= 4; banks++ {
		rom := romOf(banks)
		want := impl.Machine{Cells: impl.Memory{Ram: make([]int, 256), Rom: romOf(banks)}, At: 512}
		x := impl.NewMachine(rom)
		if !sameMachine(x, want) || !impl.MachineValid(x) || !sameBanks(rom, romOf(banks)) {
			t.Error(banks, partsOf(x))
		}
		if x.Stopped || len(x.Back) != 0 || x.At != impl.Start {
			t.Error(banks, partsOf(x))
		}
	}
	zeros := impl.NewMachine([][]int{make([]int, 256)})
	if !impl.MachineValid(zeros) || zeros.At != 512 {
		t.Error("zeros", partsOf(zeros))
	}
}

func TestP37OtherBanksMakeNoMachine(t *testing.T) {
	for name, rom := range brokenBanks() {
		if x := impl.NewMachine(rom); !isNoMachine(x) || impl.MachineValid(x) {
			t.Error(name, partsOf(x))
		}
	}
}

func TestP37ChangingTheBanksAfterwardsChangesNothing(t *testing.T) {
	for banks := 1; banks <= 4; banks++ {
		rom := romOf(banks)
		x := impl.NewMachine(rom)
		for _, bank := range rom {
			spoilList(bank)
		}
		if !sameBanks(x.Cells.Rom, romOf(banks)) || !impl.MachineValid(x) {
			t.Error(banks)
		}
	}
}

// checkStep executes a step and checks all that it may and may not do.
func checkStep(t *testing.T, x impl.Machine) impl.Machine {
	t.Helper()
	before := deepMachine(x)
	y := impl.StepMachine(x)
	if want := stepped(before); !sameMachine(y, want) {
		op, arg, _ := orderAt(before.Cells, before.At)
		t.Fatal("operation", op, arg, "of", partsOf(before), "wanted", partsOf(want), "got", partsOf(y))
	}
	if !sameMachine(x, before) {
		t.Fatal("the machine itself", partsOf(before))
	}
	checkFewChanges(t, before, y)
	return y
}

func checkFewChanges(t *testing.T, x impl.Machine, y impl.Machine) {
	t.Helper()
	changes := 0
	for place := range x.Cells.Ram {
		changes += digit(x.Cells.Ram[place] != y.Cells.Ram[place])
	}
	stores := byteAt(x.Cells, x.At) == impl.OpStore && !x.Stopped
	if changes > 1 || changes == 1 && !stores || !sameBanks(x.Cells.Rom, y.Cells.Rom) {
		t.Fatal("memory", changes, partsOf(x))
	}
	if x.Cells.Bank != y.Cells.Bank && !stores {
		t.Fatal("switched", partsOf(x), partsOf(y))
	}
	if grown := y.Cycles - x.Cycles; grown < 0 || grown > 3 {
		t.Fatal("cycles", grown, partsOf(x))
	}
	if x.Stopped && !sameMachine(x, y) {
		t.Fatal("stopped", partsOf(x), partsOf(y))
	}
}

func TestP38StepsOfMachines(t *testing.T) {
	forMachines(func(x impl.Machine) {
		checkStep(t, x)
	})
}

// wantedStep is what a test expects of one instruction at 600 of a machine with A 200, the carry, and two return addresses.
type wantedStep struct {
	line    string
	a       int
	at      int
	carry   bool
	back    []int
	stopped bool
	cycles  int
}

// TestP38EveryOperation has results that are computed by hand. The byte at 10, and at 266, is 100; that at 11 is 57.
func TestP38EveryOperation(t *testing.T) {
	back := []int{5, 900}
	for _, c := range []wantedStep{
		{"wait", 200, 601, true, back, false, 1},
		{"set 7", 7, 602, true, back, false, 2},
		{"set 0", 0, 602, true, back, false, 2},
		{"load 10", 100, 603, true, back, false, 3},
		{"load 266", 100, 603, true, back, false, 3},
		{"load 600", 2, 603, true, back, false, 3},
		{"store 12", 200, 603, true, back, false, 3},
		{"add 10", 45, 603, true, back, false, 3},
		{"add 12", 201, 603, false, back, false, 3},
		{"sub 10", 99, 603, false, back, false, 3},
		{"sub 13", 228, 603, true, back, false, 3},
		{"and 10", 64, 603, true, back, false, 3},
		{"xor 10", 172, 603, true, back, false, 3},
		{"left", 145, 601, true, back, false, 1},
		{"right", 228, 601, false, back, false, 1},
		{"jump 20", 200, 20, true, back, false, 3},
		{"zero 20", 200, 603, true, back, false, 3},
		{"carry 20", 200, 20, true, back, false, 3},
		{"call 20", 200, 20, true, []int{5, 900, 603}, false, 3},
		{"return", 200, 900, true, []int{5}, false, 1},
		{"stop", 200, 601, true, back, true, 1},
	} {
		x := codeMachine(t)
		x.A, x.At, x.Carry, x.Back = 200, 600, true, slices.Clone(back)
		x.Cells.Ram[10], x.Cells.Ram[13] = 100, 227
		list, _ := impl.Assemble([]string{c.line})
		setBytes(x.Cells, 600, list)
		y := impl.StepMachine(x)
		want := impl.Machine{Cells: deepCopy(x.Cells), A: c.a, At: c.at, Carry: c.carry, Back: c.back, Stopped: c.stopped, Cycles: c.cycles}
		if c.line == "store 12" {
			want.Cells.Ram[12] = 200
		}
		if !sameMachine(y, want) {
			t.Error(c.line, "wanted", partsOf(want), "got", partsOf(y))
		}
	}
}

// TestP38EveryOperationAtEveryAddress has instructions that lie across the end of the addresses, and of each range.
func TestP38EveryOperationAtEveryAddress(t *testing.T) {
	for _, c := range lengthsOfOperations {
		for at := 0; at <= 1023; at++ {
			for round, m := range []impl.Memory{memoryOf(1, 0), memoryOf(3, 2)} {
				arg := (at*377 + 100*round + 1) % (largestArgument(c.length) + 1)
				x := impl.Machine{Cells: m, A: at % 5 * 60, At: at, Carry: at%2 == round, Back: returnAddresses(at % 9), Cycles: at}
				checkStep(t, machineWith(x, bytesOf(c.op, c.length, arg)))
			}
		}
	}
}

// TestP38InstructionsAcrossTheLastAddress computes by hand what is behind an instruction that goes on at 0.
func TestP38InstructionsAcrossTheLastAddress(t *testing.T) {
	for _, c := range lengthsOfOperations {
		for at := 1024 - c.length; at <= 1023; at++ {
			x := plainMachine()
			x.At, x.A, x.Carry = at, 9, false
			x = machineWith(x, bytesOf(c.op, c.length, largestArgument(c.length)))
			y := checkStep(t, x)
			behind := at + c.length - 1024
			switch c.op {
			case impl.OpJump:
				behind = 1023
			case impl.OpCall:
				if y.Back[3] != behind {
					t.Error("return address", at, y.Back)
				}
				behind = 1023
			case impl.OpReturn:
				behind = 1023
			}
			if y.At != behind || y.Cycles != x.Cycles+c.length {
				t.Error(c.name, at, partsOf(y))
			}
		}
	}
	// The second and the third byte of the instruction at the last address stand in the working memory.
	x := plainMachine()
	x.At = 1023
	x.Cells.Rom[2][255], x.Cells.Ram[0], x.Cells.Ram[1] = impl.OpJump, 44, 1
	if y := impl.StepMachine(x); y.At != 300 || y.Stopped {
		t.Error("jump", partsOf(y))
	}
	x.Cells.Ram[1] = 4
	if y := checkStep(t, x); !y.Stopped || y.At != 1023 || y.Cycles != x.Cycles {
		t.Error("no instruction", partsOf(y))
	}
}

func TestP38EveryInstruction(t *testing.T) {
	count := 0
	forOrders(func(o impl.Order, list []int) {
		count++
		x := impl.Machine{Cells: memoryOf(1+count%4, count%(1+count%4)), A: count % 256, At: 512 + count%256, Carry: count%7 < 3, Back: returnAddresses(count % 9)}
		checkStep(t, machineWith(x, list))
	})
}

func TestP38AddedSubtractedAndCombinedBytes(t *testing.T) {
	m := memoryOf(1, 0)
	for place := range 256 {
		m.Ram[place] = place
	}
	for _, op := range []int{impl.OpAdd, impl.OpSub, impl.OpAnd, impl.OpXor, impl.OpLoad} {
		for value := 0; value <= 255; value++ {
			setBytes(m, 512, bytesOf(op, 3, value+value%2*256))
			for _, a := range slices.Concat(edgeBytes, []int{5, 85, 170, value, 255 - value, (value + 255) % 256}) {
				for _, carry := range bothFlags {
					checkStep(t, impl.Machine{Cells: m, A: a, At: 512, Carry: carry})
				}
			}
		}
	}
}

func TestP38RotatedBytes(t *testing.T) {
	forBytes(func(a int, carry bool) {
		for _, op := range []int{impl.OpLeft, impl.OpRight} {
			x := plainMachine()
			x.A, x.Carry = a, carry
			checkStep(t, machineWith(x, []int{op}))
		}
	})
}

func TestP38JumpsThatAreTakenAndNotTaken(t *testing.T) {
	forBytes(func(a int, carry bool) {
		x := plainMachine()
		x.A, x.Carry = a, carry
		for _, target := range []int{0, 1, 255, 256, 511, 512, 600, 603, 768, 1023} {
			zero := checkStep(t, machineWith(x, bytesOf(impl.OpZero, 3, target)))
			if taken := zero.At == target; taken != (a == 0 || target == 603) || !taken && zero.At != 603 {
				t.Fatal("zero", a, target, zero.At)
			}
			flag := checkStep(t, machineWith(x, bytesOf(impl.OpCarry, 3, target)))
			if taken := flag.At == target; taken != (carry || target == 603) || !taken && flag.At != 603 {
				t.Fatal("carry", carry, target, flag.At)
			}
			if jump := checkStep(t, machineWith(x, bytesOf(impl.OpJump, 3, target))); jump.At != target {
				t.Fatal("jump", target, jump.At)
			}
		}
	})
}

func TestP38CallsAndReturns(t *testing.T) {
	for n := 0; n <= 8; n++ {
		x := plainMachine()
		x.Back = returnAddresses(n)
		call := checkStep(t, machineWith(x, bytesOf(impl.OpCall, 3, 20)))
		if n < 8 && (call.Stopped || call.At != 20 || !slices.Equal(call.Back, append(returnAddresses(n), 603))) {
			t.Error("call", n, partsOf(call))
		}
		if n == 8 && (!call.Stopped || call.At != 603 || !slices.Equal(call.Back, returnAddresses(8)) || call.Cycles != 1003) {
			t.Error("further call", partsOf(call))
		}
		back := checkStep(t, machineWith(x, []int{impl.OpReturn}))
		if n > 0 && (back.Stopped || back.At != x.Back[n-1] || !slices.Equal(back.Back, returnAddresses(n)[:n-1])) {
			t.Error("return", n, partsOf(back))
		}
		if n == 0 && (!back.Stopped || back.At != 601 || len(back.Back) != 0 || back.Cycles != 1001) {
			t.Error("return without any", partsOf(back))
		}
	}
}

func TestP38WritingAtAllAddresses(t *testing.T) {
	forMemories(func(m impl.Memory) {
		for _, at := range edgeAddresses {
			for _, a := range []int{0, 1, 2, 3, 4, 5, 127, 128, 254, 255} {
				x := impl.Machine{Cells: m, A: a, At: 700}
				y := checkStep(t, machineWith(x, bytesOf(impl.OpStore, 3, at)))
				if at >= 768 && y.Cells.Bank != a%len(m.Rom) || at < 768 && y.Cells.Bank != m.Bank {
					t.Fatal("bank", at, a, y.Cells.Bank)
				}
				if at < 512 && y.Cells.Ram[at%256] != a || at >= 512 && !slices.Equal(y.Cells.Ram, m.Ram) {
					t.Fatal("byte", at, a)
				}
			}
		}
	})
}

// TestP38WritingOverTheInstruction: what is written belongs to the next step.
func TestP38WritingOverTheInstruction(t *testing.T) {
	for _, first := range []int{100, 356} {
		x := plainMachine()
		x.At, x.A = first, impl.OpStop
		setByte(x.Cells, first+3, impl.OpWait)
		for target := first; target <= first+3; target++ {
			y := checkStep(t, machineWith(x, bytesOf(impl.OpStore, 3, target)))
			z := checkStep(t, y)
			if y.Stopped || z.Stopped != (target == first+3) {
				t.Error(first, target, partsOf(z))
			}
		}
	}
}

func TestP38WithoutAnInstructionMachinesStop(t *testing.T) {
	check := func(x impl.Machine) {
		t.Helper()
		want := deepMachine(x)
		want.Stopped = true
		if y := checkStep(t, x); !sameMachine(y, want) {
			t.Fatal(partsOf(x), partsOf(y))
		}
	}
	for _, at := range edgeAddresses {
		x := plainMachine()
		x.At = at
		for op := 16; op <= 255; op++ {
			check(machineWith(x, []int{op}))
		}
		for _, c := range lengthsOfOperations {
			for _, high := range []int{4, 5, 16, 127, 128, 255} {
				if c.length == 3 {
					check(machineWith(x, []int{c.op, 0, high}))
					check(machineWith(x, []int{c.op, 255, high}))
				}
			}
		}
	}
}

func TestP38StoppedMachinesAreUnchanged(t *testing.T) {
	forOrders(func(o impl.Order, list []int) {
		if o.Arg%50 != 0 {
			return
		}
		x := plainMachine()
		x.Stopped = true
		x = machineWith(x, list)
		if y := impl.StepMachine(x); !sameMachine(y, x) {
			t.Fatal(o, partsOf(y))
		}
	})
	forMachines(func(x impl.Machine) {
		x.Stopped = true
		for _, steps := range []int{0, 1, 2, 499, 500} {
			if y := impl.RunMachine(x, steps); !sameMachine(y, x) {
				t.Fatal(steps, partsOf(x), partsOf(y))
			}
		}
		for _, address := range []int{0, x.At, (x.At + 1) % 1024, 1023} {
			if y, n := impl.RunUntil(x, address); !sameMachine(y, x) || n != 0 {
				t.Fatal(address, n, partsOf(x), partsOf(y))
			}
		}
	})
}

func TestP38OtherMachinesHaveNoStep(t *testing.T) {
	for name, x := range brokenMachines() {
		before := deepMachine(x)
		if y := impl.StepMachine(x); !isNoMachine(y) {
			t.Error("step", name, partsOf(y))
		}
		for _, steps := range []int{-1, 0, 1, 2, 500, 501} {
			if y := impl.RunMachine(x, steps); !isNoMachine(y) {
				t.Error("run", name, steps, partsOf(y))
			}
		}
		for _, address := range []int{-1, 0, 512, 600, 601, 1023, 1024} {
			if y, n := impl.RunUntil(x, address); !isNoMachine(y) || n != 0 {
				t.Error("until", name, address, n, partsOf(y))
			}
		}
		if !sameMachine(x, before) {
			t.Error("changed", name)
		}
	}
}

// nearLimit is a machine of zeros whose cycles are at their limit or a little below it.
func nearLimit(below int) impl.Machine {
	x := impl.NewMachine([][]int{make([]int, 256)})
	x.Cycles = 1000000000 - below
	return x
}

func TestP38CyclesAtTheirLimit(t *testing.T) {
	for _, c := range lengthsOfOperations {
		for below := 0; below <= 4; below++ {
			y := checkStep(t, machineWith(nearLimit(below), bytesOf(c.op, c.length, 0)))
			if y.Cycles != 1000000000-below+c.length {
				t.Error(c.name, below, y.Cycles)
			}
			if below < c.length && (impl.MachineValid(y) || !isNoMachine(impl.StepMachine(y))) {
				t.Error("beyond the limit as an argument", c.name, below)
			}
		}
	}
}

// machineMakers returns every way in which a new machine comes from another one.
func machineMakers() map[string]func(x impl.Machine) impl.Machine {
	ways := map[string]func(x impl.Machine) impl.Machine{
		"step": impl.StepMachine,
		"until": func(x impl.Machine) impl.Machine {
			y, _ := impl.RunUntil(x, 3)
			return y
		},
	}
	for _, steps := range []int{0, 1, 2, 500} {
		ways["run "+strconv.Itoa(steps)] = func(x impl.Machine) impl.Machine { return impl.RunMachine(x, steps) }
	}
	return ways
}

// packedMachines have lists that are neighbours in one array, each with the next ones as its spare capacity: one machine for every instruction, one that has stopped, and one without an instruction.
func packedMachines(returns int) map[string]impl.Machine {
	list := map[string]impl.Machine{}
	put := func(name string, stopped bool, code []int) {
		m := packedMemory()
		all := m.Ram[:cap(m.Ram)]
		// The return addresses stand behind the five lists and have spare capacity, too.
		x := impl.Machine{Cells: m, A: 77, At: 600, Carry: true, Back: all[5*256 : 5*256+returns], Stopped: stopped}
		copy(x.Back, returnAddresses(returns))
		setBytes(m, 600, code)
		list[name] = x
	}
	for _, c := range lengthsOfOperations {
		put(c.name, false, bytesOf(c.op, c.length, 30))
	}
	put("switch", false, bytesOf(impl.OpStore, 3, 900))
	put("stopped", true, []int{0})
	put("no instruction", false, []int{99})
	return list
}

func spoilMachine(x impl.Machine) {
	spoil(x.Cells)
	spoilList(x.Back)
}

func TestP38ResultsShareNoMemoryWithArguments(t *testing.T) {
	for way, build := range machineMakers() {
		for _, returns := range []int{0, 1, 4, 7, 8} {
			for name := range packedMachines(returns) {
				x := packedMachines(returns)[name]
				all := x.Cells.Ram[:cap(x.Cells.Ram)]
				before := deepMachine(x)
				around := slices.Clone(all)
				spoilMachine(build(x))
				if !sameMachine(x, before) || !slices.Equal(all, around) {
					t.Error("argument changed", way, name, returns)
				}
				result := build(x)
				want := deepMachine(result)
				spoilMachine(x)
				if !sameMachine(result, want) {
					t.Error("result changed by the argument", way, name, returns)
				}
			}
		}
	}
}

func TestP38ListsOfAResultShareNoMemory(t *testing.T) {
	for way, build := range machineMakers() {
		for name, x := range packedMachines(4) {
			for number := range 6 {
				y := build(x)
				lists := slices.Concat([][]int{y.Cells.Ram}, y.Cells.Rom, [][]int{y.Back})
				want := deepBanks(lists)
				spoilList(lists[number])
				for other := range lists {
					if other != number && !slices.Equal(lists[other], want[other]) {
						t.Error(way, name, number, other)
					}
				}
			}
		}
	}
	// One list everywhere: as the working memory and as all banks.
	same := make([]int, 256)
	copy(same, []int{1, 9, 3, 40, 0, 15})
	x := impl.Machine{Cells: impl.Memory{Ram: same, Rom: [][]int{same, same}}, At: 512, Back: same[100:105]}
	for way, build := range machineMakers() {
		y := build(x)
		if way == "run 500" && (y.Cells.Ram[40] != 9 || y.Cells.Rom[0][40] != 0 || y.Cells.Rom[1][40] != 0) {
			t.Error("written in several lists", way)
		}
		if !slices.Equal(same[6:], make([]int, 250)) {
			t.Error("argument changed", way)
		}
	}
}

func TestP37NewMachinesShareNoMemory(t *testing.T) {
	same := bankOf(2)
	for number := range 4 {
		x := impl.NewMachine([][]int{same, same, same})
		checkApart(t, "new", x.Cells, number)
	}
	if !slices.Equal(same, bankOf(2)) {
		t.Error("argument changed")
	}
	first := impl.NewMachine([][]int{same})
	second := impl.NewMachine([][]int{same})
	spoilMachine(first)
	if !sameBanks(second.Cells.Rom, [][]int{bankOf(2)}) || !slices.Equal(second.Cells.Ram, make([]int, 256)) {
		t.Error("results share memory")
	}
}
