package tests

import (
	"math"
	"slices"
	"strconv"
	"testing"

	"loop.example/homeconsole/impl"
)

// notAddresses has numbers that are addresses again modulo 1024, so that a missing check shows.
var notAddresses = []int{
	-1, -2, -255, -256, -512, -1023, -1024, -1025,
	1024, 1025, 1279, 1280, 1536, 2047, 2048, 65536,
	1<<32 + 5, -(1 << 32), math.MaxInt, math.MinInt,
}

// notCounts has numbers of bytes that cannot be copied together.
var notCounts = []int{-1, -2, -256, -257, 257, 258, 511, 512, 1024, 1<<32 + 1, math.MaxInt, math.MinInt}

// edgeAddresses are both ends of the four ranges and places inside them.
var edgeAddresses = []int{0, 1, 100, 254, 255, 256, 257, 400, 510, 511, 512, 513, 600, 766, 767, 768, 769, 900, 1022, 1023}

// bankOf fills a bank so that no two neighbours are equal and different banks differ at every place.
func bankOf(number int) []int {
	bank := make([]int, 256)
	for place := range bank {
		bank[place] = (7*place + 61*number + 13) % 256
	}
	return bank
}

func romOf(banks int) [][]int {
	rom := make([][]int, banks)
	for number := range rom {
		rom[number] = bankOf(number)
	}
	return rom
}

func memoryOf(banks int, bank int) impl.Memory {
	ram := make([]int, 256)
	for place := range ram {
		ram[place] = (5*place + 200) % 256
	}
	return impl.Memory{Ram: ram, Rom: romOf(banks), Bank: bank}
}

// forMemories calls a check for every number of banks with every one of them switched on.
func forMemories(check func(m impl.Memory)) {
	for banks := 1; banks <= 4; banks++ {
		for bank := range banks {
			check(memoryOf(banks, bank))
		}
	}
}

func deepCopy(m impl.Memory) impl.Memory {
	return impl.Memory{Ram: slices.Clone(m.Ram), Rom: deepBanks(m.Rom), Bank: m.Bank}
}

func deepBanks(rom [][]int) [][]int {
	var banks [][]int
	for _, bank := range rom {
		banks = append(banks, slices.Clone(bank))
	}
	return banks
}

func sameBanks(a [][]int, b [][]int) bool {
	return slices.EqualFunc(a, b, slices.Equal[[]int])
}

func sameMemory(a impl.Memory, b impl.Memory) bool {
	return slices.Equal(a.Ram, b.Ram) && sameBanks(a.Rom, b.Rom) && a.Bank == b.Bank
}

func isNothing(m impl.Memory) bool {
	return len(m.Ram) == 0 && len(m.Rom) == 0 && m.Bank == 0
}

// byteAt, written and copied are written from the document, to check the program against something that is not the program.
func byteAt(m impl.Memory, at int) int {
	switch {
	case at <= 255:
		return m.Ram[at]
	case at <= 511:
		return m.Ram[at-256]
	case at <= 767:
		return m.Rom[0][at-512]
	default:
		return m.Rom[m.Bank][at-768]
	}
}

func written(m impl.Memory, at int, value int) impl.Memory {
	after := deepCopy(m)
	switch {
	case at <= 255:
		after.Ram[at] = value
	case at <= 511:
		after.Ram[at-256] = value
	case at >= 768:
		after.Bank = value % len(m.Rom)
	}
	return after
}

func copied(m impl.Memory, from int, to int, n int) impl.Memory {
	after := deepCopy(m)
	for i := range n {
		after.Ram[(to+i)%256] = byteAt(after, (from+i)%1024)
	}
	return after
}

// brokenLists has lists that are not 256 bytes.
func brokenLists() map[string][]int {
	broken := map[string][]int{
		"nil":       nil,
		"empty":     {},
		"one":       {1},
		"too short": bankOf(1)[:255],
		"too long":  append(bankOf(1), 0),
		"double":    append(bankOf(1), bankOf(2)...),
	}
	for name, value := range map[string]int{"-1": -1, "256": 256, "least": math.MinInt, "greatest": math.MaxInt} {
		for where, place := range map[string]int{"first ": 0, "middle ": 128, "last ": 255} {
			list := bankOf(1)
			list[place] = value
			broken[where+name] = list
		}
	}
	return broken
}

// brokenBanks has lists of banks that no valid memory has.
func brokenBanks() map[string][][]int {
	broken := map[string][][]int{
		"nil":   nil,
		"empty": {},
		"five":  romOf(5),
		"eight": romOf(8),
	}
	for name, list := range brokenLists() {
		broken["first of four "+name] = [][]int{list, bankOf(1), bankOf(2), bankOf(3)}
		broken["third of four "+name] = [][]int{bankOf(0), bankOf(1), list, bankOf(3)}
		broken["last of four "+name] = [][]int{bankOf(0), bankOf(1), bankOf(2), list}
		broken["only "+name] = [][]int{list}
	}
	return broken
}

// brokenMemories has memories that differ from a valid one in one part.
func brokenMemories() map[string]impl.Memory {
	broken := map[string]impl.Memory{"zero": {}}
	for name, list := range brokenLists() {
		m := memoryOf(4, 0)
		m.Ram = list
		broken["ram "+name] = m
	}
	for name, rom := range brokenBanks() {
		m := memoryOf(4, 0)
		m.Rom = rom
		broken["rom "+name] = m
	}
	for banks := 1; banks <= 4; banks++ {
		for _, bank := range []int{-1, -banks, banks, banks + 1, 256, math.MaxInt, math.MinInt} {
			broken["bank number "+strconv.Itoa(bank)+" of "+strconv.Itoa(banks)] = memoryOf(banks, bank)
		}
	}
	return broken
}

func TestP24MemoriesHaveCompleteBanks(t *testing.T) {
	forMemories(func(m impl.Memory) {
		if !impl.MemoryValid(m) {
			t.Error("valid", len(m.Rom), m.Bank)
		}
		for number := range m.Rom {
			short := deepCopy(m)
			short.Rom[number] = short.Rom[number][:255]
			if impl.MemoryValid(short) {
				t.Error("short", len(m.Rom), m.Bank, number)
			}
		}
		for _, bank := range []int{-1, len(m.Rom), len(m.Rom) + 1, 256, math.MaxInt, math.MinInt} {
			other := deepCopy(m)
			other.Bank = bank
			if impl.MemoryValid(other) {
				t.Error("number", len(m.Rom), bank)
			}
		}
	})
}

func TestP24OtherMemoriesAreInvalid(t *testing.T) {
	for name, m := range brokenMemories() {
		if impl.MemoryValid(m) {
			t.Error(name)
		}
	}
}

func TestP24AllBytesAreAllowed(t *testing.T) {
	m := memoryOf(1, 0)
	for place := range 256 {
		m.Ram[place] = place
		m.Rom[0][place] = 255 - place
	}
	if !impl.MemoryValid(m) {
		t.Error("all bytes")
	}
	if !impl.MemoryValid(impl.Memory{Ram: make([]int, 256), Rom: [][]int{make([]int, 256)}}) {
		t.Error("zeros")
	}
}

func TestP25NewMemoriesHaveEmptyWorkingMemory(t *testing.T) {
	for banks := 1; banks <= 4; banks++ {
		m := impl.NewMemory(romOf(banks))
		if !impl.MemoryValid(m) || m.Bank != 0 || !sameBanks(m.Rom, romOf(banks)) {
			t.Error("banks", banks, m.Bank)
		}
		if !slices.Equal(m.Ram, make([]int, 256)) {
			t.Error("working memory", banks, m.Ram)
		}
	}
}

func TestP25OtherBanksMakeNoMemory(t *testing.T) {
	for name, rom := range brokenBanks() {
		if m := impl.NewMemory(rom); !isNothing(m) || impl.MemoryValid(m) {
			t.Error(name, m)
		}
	}
}

func TestP25ChangingTheBanksAfterwardsChangesNothing(t *testing.T) {
	for banks := 1; banks <= 4; banks++ {
		rom := romOf(banks)
		m := impl.NewMemory(rom)
		for number := range rom {
			for place := range rom[number] {
				rom[number][place] = 99
			}
			rom[number] = nil
		}
		if !sameBanks(m.Rom, romOf(banks)) || !impl.MemoryValid(m) {
			t.Error(banks)
		}
	}
}

func TestP26TheWorkingMemoryIsMirrored(t *testing.T) {
	forMemories(func(m impl.Memory) {
		for at := 0; at <= 255; at++ {
			if a, b := impl.ReadMemory(m, at), impl.ReadMemory(m, at+256); a != m.Ram[at] || b != a {
				t.Fatal("mirror", at, a, b)
			}
			if a := impl.ReadMemory(m, at+768); a != m.Rom[m.Bank][at] {
				t.Fatal("switched", len(m.Rom), m.Bank, at, a)
			}
		}
	})
}

func TestP26EveryAddressHasItsByte(t *testing.T) {
	forMemories(func(m impl.Memory) {
		before := deepCopy(m)
		for at := 0; at <= 1023; at++ {
			if a := impl.ReadMemory(m, at); a != byteAt(m, at) {
				t.Fatal(len(m.Rom), m.Bank, at, a)
			}
		}
		if !sameMemory(m, before) {
			t.Error("changed", len(m.Rom), m.Bank)
		}
	})
}

func TestP26EndsOfTheRanges(t *testing.T) {
	m := impl.Memory{Ram: make([]int, 256), Rom: [][]int{make([]int, 256), make([]int, 256), make([]int, 256)}, Bank: 2}
	m.Ram[0], m.Ram[255] = 11, 12
	m.Rom[0][0], m.Rom[0][255] = 21, 22
	m.Rom[1][0], m.Rom[1][255] = 31, 32
	m.Rom[2][0], m.Rom[2][255] = 41, 42
	for _, c := range [][2]int{{0, 11}, {255, 12}, {256, 11}, {511, 12}, {512, 21}, {767, 22}, {768, 41}, {1023, 42}, {1, 0}, {510, 0}, {766, 0}, {1022, 0}} {
		if a := impl.ReadMemory(m, c[0]); a != c[1] {
			t.Error(c, a)
		}
	}
}

func TestP26OtherArgumentsAreReadAsZero(t *testing.T) {
	forMemories(func(m impl.Memory) {
		for _, at := range notAddresses {
			if a := impl.ReadMemory(m, at); a != 0 {
				t.Error("address", at, a)
			}
		}
	})
	for name, m := range brokenMemories() {
		for _, at := range slices.Concat(edgeAddresses, notAddresses) {
			if a := impl.ReadMemory(m, at); a != 0 {
				t.Error("memory", name, at, a)
			}
		}
	}
}

// checkWrite writes a byte and checks all that a write may and may not do.
func checkWrite(t *testing.T, m impl.Memory, at int, value int) {
	t.Helper()
	before := deepCopy(m)
	after := impl.WriteMemory(m, at, value)
	if !impl.MemoryValid(after) || !sameMemory(after, written(m, at, value)) {
		t.Fatal("result", len(m.Rom), m.Bank, at, value, after.Bank)
	}
	if !sameMemory(m, before) {
		t.Fatal("the memory itself", at, value)
	}
	if at <= 511 && (impl.ReadMemory(after, at%256) != value || impl.ReadMemory(after, at%256+256) != value) {
		t.Fatal("read", at, value)
	}
	changes := 0
	for place := range after.Ram {
		changes += digit(after.Ram[place] != m.Ram[place])
	}
	if changes > 1 || !sameBanks(after.Rom, m.Rom) {
		t.Fatal("changes", at, value, changes)
	}
}

func TestP27WrittenBytesAreRead(t *testing.T) {
	forMemories(func(m impl.Memory) {
		for at := 0; at <= 1023; at++ {
			checkWrite(t, m, at, (3*at+m.Bank)%256)
		}
	})
}

func TestP27EdgesOfWriting(t *testing.T) {
	forMemories(func(m impl.Memory) {
		for _, at := range edgeAddresses {
			for _, value := range edgeBytes {
				checkWrite(t, m, at, value)
			}
		}
	})
}

func TestP27AllBytesCanBeWritten(t *testing.T) {
	for _, at := range []int{0, 300, 700, 800} {
		for value := 0; value <= 255; value++ {
			checkWrite(t, memoryOf(3, 1), at, value)
		}
	}
}

func TestP27WritingAtBankZeroDoesNothing(t *testing.T) {
	forMemories(func(m impl.Memory) {
		for at := 512; at <= 767; at++ {
			if after := impl.WriteMemory(m, at, at%251); !sameMemory(after, m) {
				t.Fatal(len(m.Rom), m.Bank, at)
			}
		}
	})
}

func TestP27WritingAtTheSwitchedBankOnlySwitches(t *testing.T) {
	forMemories(func(m impl.Memory) {
		for at := 768; at <= 1023; at++ {
			value := (5*at + 3) % 256
			after := impl.WriteMemory(m, at, value)
			if after.Bank != value%len(m.Rom) || !slices.Equal(after.Ram, m.Ram) || !sameBanks(after.Rom, m.Rom) {
				t.Fatal(len(m.Rom), m.Bank, at, value, after.Bank)
			}
		}
	})
}

func TestP27WritingWithOtherArguments(t *testing.T) {
	m := memoryOf(4, 2)
	for _, at := range notAddresses {
		for _, value := range slices.Concat(edgeBytes, notBytes) {
			if after := impl.WriteMemory(m, at, value); !isNothing(after) {
				t.Error("address", at, value)
			}
		}
	}
	for _, at := range edgeAddresses {
		for _, value := range notBytes {
			if after := impl.WriteMemory(m, at, value); !isNothing(after) {
				t.Error("value", at, value)
			}
		}
	}
	for name, broken := range brokenMemories() {
		for _, at := range edgeAddresses {
			if after := impl.WriteMemory(broken, at, 1); !isNothing(after) {
				t.Error("memory", name, at)
			}
		}
	}
}

// checkCopy copies bytes and checks the result against the document's rule.
func checkCopy(t *testing.T, m impl.Memory, from int, to int, n int) {
	t.Helper()
	before := deepCopy(m)
	after := impl.CopyMemory(m, from, to, n)
	if !impl.MemoryValid(after) || !sameMemory(after, copied(m, from, to, n)) {
		t.Fatal("result", len(m.Rom), m.Bank, from, to, n)
	}
	if !sameMemory(m, before) {
		t.Fatal("the memory itself", from, to, n)
	}
}

func TestP28CopiesFromABankAreEqual(t *testing.T) {
	forMemories(func(m impl.Memory) {
		if after := impl.CopyMemory(m, 512, 0, 256); !slices.Equal(after.Ram, m.Rom[0]) {
			t.Error("bank 0", len(m.Rom), m.Bank)
		}
		if after := impl.CopyMemory(m, 768, 0, 256); !slices.Equal(after.Ram, m.Rom[m.Bank]) {
			t.Error("switched bank", len(m.Rom), m.Bank)
		}
		for _, n := range []int{1, 2, 100, 199} {
			after := impl.CopyMemory(m, 768+57, 57, n)
			if !slices.Equal(after.Ram[57:57+n], m.Rom[m.Bank][57:57+n]) {
				t.Error("part", n)
			}
			if !slices.Equal(after.Ram[:57], m.Ram[:57]) || !slices.Equal(after.Ram[57+n:], m.Ram[57+n:]) {
				t.Error("around the part", n)
			}
			if !sameBanks(after.Rom, m.Rom) || after.Bank != m.Bank {
				t.Error("banks", n)
			}
		}
	})
}

func TestP28CopyingNothingChangesNothing(t *testing.T) {
	forMemories(func(m impl.Memory) {
		for _, from := range edgeAddresses {
			for _, to := range edgeAddresses {
				if after := impl.CopyMemory(m, from, to, 0); !sameMemory(after, m) {
					t.Fatal(from, to)
				}
			}
		}
	})
}

func TestP28CopyingTheWholeWorkingMemoryOntoItselfChangesNothing(t *testing.T) {
	forMemories(func(m impl.Memory) {
		for _, to := range []int{0, 256, 512, 768} {
			for _, from := range []int{0, 256} {
				if after := impl.CopyMemory(m, from, to, 256); !sameMemory(after, m) {
					t.Fatal(from, to)
				}
			}
		}
		for from := 0; from <= 256; from++ {
			if after := impl.CopyMemory(m, from, from, 256); !sameMemory(after, m) {
				t.Fatal("from inside", from)
			}
		}
	})
}

func TestP28CopiesFollowTheRuleEverywhere(t *testing.T) {
	forMemories(func(m impl.Memory) {
		for _, from := range edgeAddresses {
			for _, to := range edgeAddresses {
				for _, n := range []int{1, 2, 3, 128, 255, 256} {
					checkCopy(t, m, from, to, n)
				}
			}
		}
	})
	for from := 0; from <= 1023; from++ {
		checkCopy(t, memoryOf(2, 1), from, (7*from+3)%1024, from%257)
	}
}

func TestP28AddressesOfCopiesWrap(t *testing.T) {
	m := memoryOf(2, 1)
	after := impl.CopyMemory(m, 1023, 254, 3)
	if after.Ram[254] != m.Rom[1][255] || after.Ram[255] != m.Ram[0] || after.Ram[0] != m.Ram[1] {
		t.Error("reading behind the last address", after.Ram[254:], after.Ram[0])
	}
	after = impl.CopyMemory(m, 520, 1023, 2)
	if after.Ram[255] != m.Rom[0][8] || after.Ram[0] != m.Rom[0][9] || after.Bank != 1 || !sameBanks(after.Rom, m.Rom) {
		t.Error("writing behind the last address", after.Ram[255], after.Ram[0], after.Bank)
	}
	after = impl.CopyMemory(m, 767, 512, 2)
	if after.Ram[0] != m.Rom[0][255] || after.Ram[1] != m.Rom[1][0] {
		t.Error("reading across two banks", after.Ram[:2])
	}
	after = impl.CopyMemory(m, 511, 3, 2)
	if after.Ram[3] != m.Ram[255] || after.Ram[4] != m.Rom[0][0] {
		t.Error("reading behind the mirror", after.Ram[3:5])
	}
}

func TestP28CopyingWithOtherArguments(t *testing.T) {
	m := memoryOf(4, 3)
	for _, bad := range notAddresses {
		for _, n := range []int{0, 1, 256, 257} {
			for _, good := range edgeAddresses {
				if !isNothing(impl.CopyMemory(m, bad, good, n)) || !isNothing(impl.CopyMemory(m, good, bad, n)) {
					t.Error("address", bad, good, n)
				}
			}
			if !isNothing(impl.CopyMemory(m, bad, bad, n)) {
				t.Error("addresses", bad, n)
			}
		}
	}
	for _, n := range notCounts {
		for _, at := range edgeAddresses {
			if !isNothing(impl.CopyMemory(m, at, 0, n)) || !isNothing(impl.CopyMemory(m, 0, at, n)) {
				t.Error("number", at, n)
			}
		}
	}
	for name, broken := range brokenMemories() {
		for _, n := range []int{-1, 0, 1, 256, 257} {
			if !isNothing(impl.CopyMemory(broken, 512, 0, n)) || !isNothing(impl.CopyMemory(broken, 0, 1, n)) {
				t.Error("memory", name, n)
			}
		}
	}
}

func TestP112OverlappingCopiesFill(t *testing.T) {
	m := memoryOf(2, 1)
	for from := 0; from <= 255; from++ {
		for n := 0; n <= 256; n++ {
			want := deepCopy(m)
			for i := 1; i <= n; i++ {
				want.Ram[(from+i)%256] = m.Ram[from]
			}
			if after := impl.CopyMemory(m, from, from+1, n); !sameMemory(after, want) {
				t.Fatal(from, n)
			}
		}
	}
}

func TestP112CopiesFromTheMirrorFill(t *testing.T) {
	m := memoryOf(2, 1)
	for from := 256; from <= 511; from++ {
		n := 512 - from
		after := impl.CopyMemory(m, from, from+1, n)
		for i := 1; i <= n; i++ {
			if after.Ram[(from+i)%256] != m.Ram[from-256] {
				t.Fatal(from, i)
			}
		}
	}
}

func TestP112CopiesBackwardDoNotFill(t *testing.T) {
	m := memoryOf(2, 1)
	for from := 1; from <= 255; from++ {
		n := 256 - from
		after := impl.CopyMemory(m, from, from-1, n)
		if !slices.Equal(after.Ram[from-1:255], m.Ram[from:]) || after.Ram[255] != m.Ram[255] {
			t.Fatal(from)
		}
	}
}

// checkSeen checks that the addresses from 768 on show one bank and those from 512 on still bank 0.
func checkSeen(t *testing.T, m impl.Memory, rom [][]int, bank int) {
	t.Helper()
	for place := range 256 {
		if a := impl.ReadMemory(m, 768+place); a != rom[bank][place] {
			t.Fatal("switched", len(rom), bank, place, a)
		}
		if a := impl.ReadMemory(m, 512+place); a != rom[0][place] {
			t.Fatal("bank 0", len(rom), bank, place, a)
		}
	}
}

func TestP113SwitchedBanksAreSeen(t *testing.T) {
	for banks := 1; banks <= 4; banks++ {
		m := impl.NewMemory(romOf(banks))
		for value := 0; value <= 255; value++ {
			m = impl.WriteMemory(m, 1000, value)
			if m.Bank != value%banks {
				t.Fatal(banks, value, m.Bank)
			}
			checkSeen(t, m, romOf(banks), value%banks)
		}
	}
}

func TestP113EveryAddressOfTheSwitchedBankSwitches(t *testing.T) {
	for banks := 1; banks <= 4; banks++ {
		m := impl.NewMemory(romOf(banks))
		for at := 768; at <= 1023; at++ {
			value := (7*at + 2) % 256
			m = impl.WriteMemory(m, at, value)
			checkSeen(t, m, romOf(banks), value%banks)
		}
	}
}

// makers returns every way in which a new memory comes from another one.
func makers() map[string]func(m impl.Memory) impl.Memory {
	write := func(at int, value int) func(m impl.Memory) impl.Memory {
		return func(m impl.Memory) impl.Memory { return impl.WriteMemory(m, at, value) }
	}
	move := func(from int, to int, n int) func(m impl.Memory) impl.Memory {
		return func(m impl.Memory) impl.Memory { return impl.CopyMemory(m, from, to, n) }
	}
	return map[string]func(m impl.Memory) impl.Memory{
		"new":              func(m impl.Memory) impl.Memory { return impl.NewMemory(m.Rom) },
		"write":            write(44, 7),
		"write in mirror":  write(300, 7),
		"write in bank 0":  write(600, 7),
		"write and switch": write(1000, 2),
		"copy nothing":     move(0, 0, 0),
		"copy some":        move(900, 17, 5),
		"copy all":         move(512, 0, 256),
	}
}

// packedMemory returns a valid memory whose lists are neighbours in one array, each with the next ones as its spare capacity.
func packedMemory() impl.Memory {
	all := make([]int, 0, 6*256)
	m := memoryOf(4, 1)
	for _, list := range slices.Concat([][]int{m.Ram}, m.Rom) {
		all = append(all, list...)
	}
	rom := make([][]int, 4, 8)
	for number := range rom {
		rom[number] = all[256*(number+1) : 256*(number+2)]
	}
	return impl.Memory{Ram: all[:256], Rom: rom, Bank: 1}
}

// spoilList overwrites a list and what an append to it could reach.
func spoilList(list []int) {
	list = list[:cap(list)]
	for place := range list {
		list[place] = -7
	}
}

func spoil(m impl.Memory) {
	spoilList(m.Ram)
	for _, bank := range m.Rom {
		spoilList(bank)
	}
	clear(m.Rom[:cap(m.Rom)])
}

func TestP25AndP27ResultsShareNoMemoryWithArguments(t *testing.T) {
	for name, build := range makers() {
		m := packedMemory()
		before := deepCopy(m)
		spoil(build(m))
		if !sameMemory(m, before) {
			t.Error("argument changed by the result", name)
		}
		result := build(m)
		want := deepCopy(result)
		spoil(m)
		if !sameMemory(result, want) {
			t.Error("result changed by the argument", name)
		}
	}
}

// checkApart overwrites one list of a memory, 0 for the working memory, and checks that the others stay as they are.
func checkApart(t *testing.T, name string, m impl.Memory, number int) {
	t.Helper()
	lists := slices.Concat([][]int{m.Ram}, m.Rom)
	want := deepBanks(lists)
	spoilList(lists[number])
	for other := range lists {
		if other != number && !slices.Equal(lists[other], want[other]) {
			t.Error(name, number, other)
		}
	}
}

func TestP25AndP27ListsOfAResultShareNoMemory(t *testing.T) {
	for name, build := range makers() {
		for number := range 4 {
			same := bankOf(3)
			checkApart(t, name, build(impl.Memory{Ram: same, Rom: [][]int{same, same, same}, Bank: 2}), number)
			checkApart(t, name, build(packedMemory()), number)
		}
	}
}
