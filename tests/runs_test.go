package tests

import (
	"math"
	"strconv"
	"testing"

	"loop.example/homeconsole/impl"
)

// notSteps has numbers of steps that cannot be executed together.
var notSteps = []int{-1, -2, -3, -500, -501, -512, 501, 502, 503, 512, 1000, 1001, 1024, 65536, 1<<32 + 3, -(1 << 32), math.MaxInt, math.MinInt}

// until is the least number of steps at which a walk of 500 steps has stopped or is at an address.
func until(path []impl.Machine, address int) int {
	if path[0].Stopped {
		return 0
	}
	for n := 1; n < 500; n++ {
		if path[n].Stopped || path[n].At == address {
			return n
		}
	}
	return 500
}

func TestP2CyclesBeyondTheirLimitDoNotEndRuns(t *testing.T) {
	for _, below := range []int{0, 1, 2, 100, 499, 500} {
		for _, steps := range []int{0, 1, 2, 3, 101, 499, 500} {
			y := impl.RunMachine(nearLimit(below), steps)
			if y.Cycles != 1000000000-below+steps || y.At != 512+steps || y.Stopped || len(y.Cells.Ram) != 256 {
				t.Error(below, steps, partsOf(y))
			}
		}
		y, n := impl.RunUntil(nearLimit(below), 900)
		if n != 388 || y.At != 900 || y.Cycles != 1000000000-below+388 {
			t.Error("until", below, n, partsOf(y))
		}
		y, n = impl.RunUntil(nearLimit(below), 0)
		if n != 500 || y.At != 1012 || y.Cycles != 1000000000-below+500 {
			t.Error("until, without an end", below, n, partsOf(y))
		}
	}
	for _, below := range []int{0, 1, 2, 3, 26, 27, 28} {
		x := machineWith(nearLimit(below), bytesOf(impl.OpCall, 3, 512))
		if y := impl.RunMachine(x, 500); !y.Stopped || len(y.Back) != 8 || y.Cycles != 1000000000-below+27 {
			t.Error("calls", below, partsOf(y))
		}
	}
}

// checkRuns compares the runs of a machine with the document's steps, and divides some of them.
func checkRuns(t *testing.T, x impl.Machine) {
	t.Helper()
	before := deepMachine(x)
	path := walk(x, 500)
	for n := 0; n <= 500; n += 1 + n/3 {
		whole := impl.RunMachine(x, n)
		if !sameMachine(whole, path[n]) {
			t.Fatal("run", n, "of", partsOf(x), "wanted", partsOf(path[n]), "got", partsOf(whole))
		}
		for _, part := range []int{0, 1, n / 2, n - 1, n} {
			if part < 0 || part > n {
				continue
			}
			if y := impl.RunMachine(impl.RunMachine(x, part), n-part); !sameMachine(y, whole) {
				t.Fatal("parts", part, n, "of", partsOf(x), "wanted", partsOf(whole), "got", partsOf(y))
			}
		}
	}
	if y := impl.RunMachine(x, 500); !sameMachine(y, path[500]) {
		t.Fatal("run 500", partsOf(x), partsOf(y))
	}
	if !sameMachine(impl.RunMachine(x, 1), impl.StepMachine(x)) || !sameMachine(impl.RunMachine(x, 0), x) {
		t.Fatal("one step or none", partsOf(x))
	}
	if !sameMachine(x, before) {
		t.Fatal("the machine itself", partsOf(before))
	}
}

func TestP2RunsCompose(t *testing.T) {
	count := 0
	forMachines(func(x impl.Machine) {
		count++
		if count%3 == 0 {
			checkRuns(t, x)
		}
	})
	for seed := range 60 {
		checkRuns(t, mixedMachine(seed))
	}
}

// TestP2MixedMachinesRun makes sure that the machines of the other tests do not all stop at once.
func TestP2MixedMachinesRun(t *testing.T) {
	long, stopped := 0, 0
	seen := map[int]bool{}
	for seed := range 60 {
		path := walk(mixedMachine(seed), 500)
		long += digit(!path[20].Stopped)
		stopped += digit(path[500].Stopped)
		for _, x := range path[:500] {
			if op, _, length := orderAt(x.Cells, x.At); length > 0 && !x.Stopped {
				seen[op] = true
			}
		}
	}
	if long < 15 || stopped < 15 || len(seen) != 16 {
		t.Error(long, stopped, len(seen))
	}
}

func TestP2EveryNumberOfSteps(t *testing.T) {
	x := loopMachine(t, 99)
	path := walk(x, 500)
	y := x
	for n := 0; n <= 500; n++ {
		if z := impl.RunMachine(x, n); !sameMachine(z, path[n]) || !sameMachine(z, y) {
			t.Fatal(n, partsOf(z), partsOf(y), partsOf(path[n]))
		}
		if z := impl.RunMachine(impl.RunMachine(x, n), 500-n); !sameMachine(z, path[500]) {
			t.Fatal("rest", n, partsOf(z))
		}
		y = impl.StepMachine(y)
	}
}

func TestP2OtherNumbersOfSteps(t *testing.T) {
	for _, steps := range notSteps {
		for _, stopped := range bothFlags {
			x := plainMachine()
			x.Stopped = stopped
			if y := impl.RunMachine(x, steps); !isNoMachine(y) {
				t.Error(steps, stopped, partsOf(y))
			}
		}
	}
	for steps := -20; steps <= 520; steps++ {
		y := impl.RunMachine(nearLimit(0), steps)
		if allowed := steps >= 0 && steps <= 500; isNoMachine(y) == allowed {
			t.Error(steps, partsOf(y))
		}
	}
}

// loopMachine counts the byte at 10 down from n to 0: it stops after 5*n + 5 steps. The byte at 512 is OpSet, 1.
func loopMachine(t *testing.T, n int) impl.Machine {
	t.Helper()
	return codeMachine(t, "set "+strconv.Itoa(n), "store 10", "load 10", "zero 532", "sub 512", "store 10", "jump 517", "stop")
}

func TestP2ProgramsOfTheDocument(t *testing.T) {
	x := codeMachine(t, "set 5", "store 10", "stop")
	for steps := range 20 {
		y := impl.RunMachine(x, steps)
		if y.Stopped != (steps >= 3) {
			t.Error(steps, partsOf(y))
		}
		if steps >= 3 && (y.Cycles != 6 || y.Cells.Ram[10] != 5 || y.A != 5 || y.At != 518) {
			t.Error(steps, partsOf(y), y.Cells.Ram[10])
		}
	}
}

func TestP2Loops(t *testing.T) {
	for n := 0; n <= 99; n++ {
		x := loopMachine(t, n)
		y := impl.RunMachine(x, 5*n+5)
		if !y.Stopped || y.A != 0 || y.Carry || y.At != 533 || y.Cells.Ram[10] != 0 || y.Cycles != 15*n+12 {
			t.Error(n, partsOf(y))
		}
		if z := impl.RunMachine(x, 5*n+4); z.Stopped || z.At != 532 {
			t.Error("one step less", n, partsOf(z))
		}
	}
	if y := impl.RunMachine(loopMachine(t, 100), 500); y.Stopped {
		t.Error("too long", partsOf(y))
	}
}

func TestP2Subroutines(t *testing.T) {
	// The call is at 512, the subroutine at 521.
	x := codeMachine(t, "call 521", "store 20", "jump 530", "set 42", "return")
	setBytes(x.Cells, 530, []int{impl.OpStop})
	y := impl.RunMachine(x, 500)
	if !y.Stopped || y.Cells.Ram[20] != 42 || len(y.Back) != 0 || y.At != 531 || y.Cycles != 13 {
		t.Error(partsOf(y))
	}
	if z, n := impl.RunUntil(x, 515); n != 3 || z.A != 42 || len(z.Back) != 0 {
		t.Error("behind the call", n, partsOf(z))
	}
}

// TestP2ProgramsThatSwitchTheirOwnBank: the instruction behind the one that switches is that of the other bank.
func TestP2ProgramsThatSwitchTheirOwnBank(t *testing.T) {
	rom := [][]int{make([]int, 256), make([]int, 256), make([]int, 256)}
	first, _ := impl.Assemble([]string{"set 4", "store 1000", "jump 768"})
	copy(rom[0], first)
	second, _ := impl.Assemble([]string{"set 5", "store 800", "stop"})
	copy(rom[1], second)
	third, _ := impl.Assemble([]string{"set 9", "set 8", "wait", "store 7", "stop"})
	copy(rom[2], third)
	path := walk(impl.NewMachine(rom), 20)
	y := impl.RunMachine(impl.NewMachine(rom), 20)
	// Bank 1 is switched on by 4 modulo 3, bank 2 by 5 modulo 3; 5 is still in A behind it.
	if !y.Stopped || y.Cells.Bank != 2 || y.A != 5 || y.Cells.Ram[7] != 5 || y.At != 777 || y.Cycles != 17 || !sameMachine(y, path[20]) {
		t.Error(partsOf(y), y.Cells.Ram[7])
	}
}

func TestP2ProgramsInTheWorkingMemory(t *testing.T) {
	list, _ := impl.Assemble([]string{"set 3", "store 100", "jump 356"})
	for _, first := range []int{0, 256} {
		x := codeMachine(t)
		setBytes(x.Cells, first, list)
		x.At = first
		// What is written at 100 is the operation store at 356, whose argument is 0.
		y := impl.RunMachine(x, 4)
		if y.Cells.Ram[0] != 3 || y.At != 359 || y.Cycles != 11 {
			t.Error(first, partsOf(y))
		}
	}
}

// TestP2ZerosLetMachinesWait goes through all addresses of a machine of zeros, and around.
func TestP2ZerosLetMachinesWait(t *testing.T) {
	for _, at := range edgeAddresses {
		x := codeMachine(t)
		x.At, x.A, x.Carry, x.Back = at, 17, true, []int{1, 2}
		for _, steps := range []int{0, 1, 2, 100, 499, 500} {
			want := deepMachine(x)
			want.At, want.Cycles = (at+steps)%1024, steps
			if y := impl.RunMachine(x, steps); !sameMachine(y, want) {
				t.Error(at, steps, partsOf(y))
			}
		}
		y := x
		for range 3 {
			y = impl.RunMachine(y, 500)
		}
		if y.At != (at+1500)%1024 || y.Cycles != 1500 || y.Stopped {
			t.Error("around", at, partsOf(y))
		}
	}
}

// TestP2ProgramsThatRunIntoZeros: behind a program without an end a machine waits, through the bank that is switched on and the working memory, back to the beginning.
func TestP2ProgramsThatRunIntoZeros(t *testing.T) {
	x := codeMachine(t, "set 5", "store 600", "left")
	y := impl.RunMachine(x, 500)
	if y.Stopped || y.At != 1018 || y.A != 10 || y.Cycles != 506 {
		t.Error(partsOf(y))
	}
	checkRuns(t, x)
	// There are 250 zeros behind the program, which is met again at 768, and then 250 zeros and the working memory.
	z, n := impl.RunUntil(x, 768)
	if n != 253 || z.A != 10 || z.Cycles != 256 {
		t.Error("to the switched bank", n, partsOf(z))
	}
	z, n = impl.RunUntil(z, 0)
	if n != 253 || z.A != 10 || z.Cycles != 512 {
		t.Error("to the working memory", n, partsOf(z))
	}
	z, n = impl.RunUntil(z, 512)
	if n != 500 || z.At != 500 || z.Cycles != 1012 {
		t.Error("too far", n, partsOf(z))
	}
	z, n = impl.RunUntil(z, 512)
	if n != 12 || z.At != 512 || z.A != 10 || z.Stopped {
		t.Error("to the beginning", n, partsOf(z))
	}
}

// checkUntil compares with the document's steps, and with the runs of the program.
func checkUntil(t *testing.T, x impl.Machine, path []impl.Machine, address int) {
	t.Helper()
	before := deepMachine(x)
	want := until(path, address)
	y, n := impl.RunUntil(x, address)
	if n != want || !sameMachine(y, path[n]) {
		t.Fatal("to", address, "of", partsOf(x), "wanted", want, partsOf(path[want]), "got", n, partsOf(y))
	}
	if !sameMachine(y, impl.RunMachine(x, n)) {
		t.Fatal("run", address, n, partsOf(x), partsOf(y))
	}
	if !y.Stopped && y.At != address && n != impl.MaxRun {
		t.Fatal("too early", address, n, partsOf(x), partsOf(y))
	}
	if !sameMachine(x, before) {
		t.Fatal("the machine itself", partsOf(before))
	}
}

func TestP39TheMachineIsHaltedAtTheFirstTime(t *testing.T) {
	check := func(x impl.Machine) {
		path := walk(x, 500)
		for _, address := range edgeAddresses {
			checkUntil(t, x, path, address)
		}
		for _, place := range []int{0, 1, 2, 3, 5, 10, 50, 100, 499, 500} {
			checkUntil(t, x, path, path[place].At)
		}
	}
	for seed := range 60 {
		check(mixedMachine(seed))
	}
	count := 0
	forMachines(func(x impl.Machine) {
		count++
		if count%5 == 0 {
			check(x)
		}
	})
	for _, n := range []int{0, 1, 2, 60, 98, 99, 100} {
		check(loopMachine(t, n))
	}
}

func TestP39AfterFewerStepsItIsNotAtTheAddress(t *testing.T) {
	for seed := range 12 {
		x := mixedMachine(seed)
		for address := 0; address <= 1023; address += 31 {
			_, n := impl.RunUntil(x, address)
			for fewer := 1; fewer < n; fewer += 1 + fewer/4 {
				if y := impl.RunMachine(x, fewer); y.At == address || y.Stopped {
					t.Fatal(seed, address, n, fewer, partsOf(y))
				}
			}
		}
	}
}

func TestP39MachinesThatStandAtTheAddress(t *testing.T) {
	// A loop of one instruction comes back after one step, the loop of the program after 5 of them.
	self := codeMachine(t, "jump 512")
	if y, n := impl.RunUntil(self, 512); n != 1 || y.At != 512 || y.Cycles != 3 || y.Stopped {
		t.Error("one instruction", n, partsOf(y))
	}
	loop := impl.RunMachine(loopMachine(t, 3), 2)
	if y, n := impl.RunUntil(loop, 517); loop.At != 517 || n != 5 || y.At != 517 || y.Cells.Ram[10] != 2 {
		t.Error("loop", n, partsOf(y))
	}
	// It stops where it stands, so it takes the step in which it stops.
	halt := machineWith(self, []int{16})
	if y, n := impl.RunUntil(halt, 512); n != 1 || y.At != 512 || !y.Stopped || y.Cycles != 0 {
		t.Error("no instruction", n, partsOf(y))
	}
	// Zeros do not come back within MaxRun steps.
	if y, n := impl.RunUntil(codeMachine(t), 512); n != 500 || y.At != 1012 || y.Stopped {
		t.Error("zeros", n, partsOf(y))
	}
}

func TestP39TheLastStepThatIsExecuted(t *testing.T) {
	for _, at := range edgeAddresses {
		x := codeMachine(t)
		x.At = at
		for distance := 1; distance <= 1024; distance++ {
			y, n := impl.RunUntil(x, (at+distance)%1024)
			if want := min(distance, 500); n != want || y.At != (at+want)%1024 || y.Cycles != want {
				t.Fatal(at, distance, n, partsOf(y))
			}
		}
	}
	// After 500 steps one of these has stopped, and the other one is about to.
	if y, n := impl.RunUntil(loopMachine(t, 99), 0); n != 500 || !y.Stopped {
		t.Error("stopped", n, partsOf(y))
	}
	if y, n := impl.RunUntil(loopMachine(t, 100), 0); n != 500 || y.Stopped {
		t.Error("not stopped", n, partsOf(y))
	}
}

func TestP39MachinesThatStopBeforeTheAddress(t *testing.T) {
	x := codeMachine(t, "set 5", "store 10", "stop", "wait")
	for address := 0; address <= 1023; address++ {
		want := 3
		switch address {
		case 514:
			want = 1
		case 517:
			want = 2
		}
		if y, n := impl.RunUntil(x, address); n != want || y.Stopped != (want == 3) || !sameMachine(y, impl.RunMachine(x, want)) {
			t.Error(address, n, partsOf(y))
		}
	}
	for address := 0; address <= 1023; address++ {
		y := impl.RunMachine(x, 3)
		if z, n := impl.RunUntil(y, address); n != 0 || !sameMachine(z, y) {
			t.Error("stopped", address, n, partsOf(z))
		}
	}
}

func TestP39OtherAddresses(t *testing.T) {
	for _, address := range notAddresses {
		for _, stopped := range bothFlags {
			x := plainMachine()
			x.Stopped = stopped
			if y, n := impl.RunUntil(x, address); !isNoMachine(y) || n != 0 {
				t.Error(address, stopped, n, partsOf(y))
			}
		}
	}
}

func TestP2CallsDependOnTheirArgumentsAlone(t *testing.T) {
	for seed := range 20 {
		x := mixedMachine(seed)
		first := impl.RunMachine(x, 100)
		other := impl.RunMachine(mixedMachine(seed+1), 100)
		want := deepMachine(first)
		spoilMachine(other)
		if again := impl.RunMachine(x, 100); !sameMachine(again, want) || !sameMachine(first, want) {
			t.Error(seed)
		}
		spoilMachine(first)
		if again := impl.RunMachine(x, 100); !sameMachine(again, want) {
			t.Error("kept", seed)
		}
	}
}
