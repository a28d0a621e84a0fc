package tests

import (
	"math"
	"slices"
	"strconv"
	"strings"
	"testing"

	"loop.example/homeconsole/impl"
)

// textOf writes an instruction as the document says, without asking the program.
func textOf(o impl.Order) string {
	c := lengthsOfOperations[o.Op]
	if c.length == 1 {
		return c.name
	}
	return c.name + " " + strconv.Itoa(o.Arg)
}

// ordersOfTexts has every text that is an instruction, and no other.
func ordersOfTexts() map[string]impl.Order {
	all := map[string]impl.Order{}
	forOrders(func(o impl.Order, _ []int) {
		all[textOf(o)] = o
	})
	return all
}

// checkParsed compares with a table of all instructions, so that it also finds texts that are accepted wrongly.
func checkParsed(t *testing.T, all map[string]impl.Order, s string) {
	t.Helper()
	want, known := all[s]
	if o, ok := impl.ParseOrder(s); o != want || ok != known {
		t.Fatalf("%.80q: got %v %v, wanted %v %v", s, o, ok, want, known)
	}
}

func checkNotParsed(t *testing.T, s string) {
	t.Helper()
	if o, ok := impl.ParseOrder(s); ok || o != (impl.Order{}) {
		t.Fatalf("%.80q: got %v %v", s, o, ok)
	}
}

// checkAssembled checks the bytes of a program, and that the lines stay as they are.
func checkAssembled(t *testing.T, lines []string, want []int) {
	t.Helper()
	before := slices.Clone(lines)
	list, bad := impl.Assemble(lines)
	if bad != 0 || !slices.Equal(list, want) {
		t.Fatal(len(lines), lines, "wanted", want, "got", list, bad)
	}
	if !slices.Equal(lines, before) {
		t.Fatal("lines changed", before, lines)
	}
}

func checkNotAssembled(t *testing.T, lines []string, want int) {
	t.Helper()
	before := slices.Clone(lines)
	if list, bad := impl.Assemble(lines); bad != want || len(list) != 0 {
		t.Fatal(len(lines), "wanted line", want, "got", list, bad)
	}
	if !slices.Equal(lines, before) {
		t.Fatal("lines changed", before, lines)
	}
}

// checkDisassembled checks the lines of a program, and that the list stays as it is.
func checkDisassembled(t *testing.T, list []int, want []string) {
	t.Helper()
	before := slices.Clone(list)
	lines, ok := impl.Disassemble(list)
	if !ok || !slices.Equal(lines, want) {
		t.Fatal(list, "wanted", want, "got", lines, ok)
	}
	if !slices.Equal(list, before) {
		t.Fatal("list changed", before, list)
	}
}

func checkNotDisassembled(t *testing.T, list []int) {
	t.Helper()
	before := slices.Clone(list)
	if lines, ok := impl.Disassemble(list); ok || len(lines) != 0 {
		t.Fatal(list, lines, ok)
	}
	if !slices.Equal(list, before) {
		t.Fatal("list changed", before, list)
	}
}

// program is lines and the bytes that the document gives them.
type program struct {
	lines []string
	list  []int
}

// programOf takes n instructions from all of them, with steps that reach every operation.
func programOf(n int, first int) program {
	var p program
	for i := range n {
		c := lengthsOfOperations[(first+7*i)%16]
		o := impl.Order{Op: c.op, Arg: (first*31 + i*389) % (largestArgument(c.length) + 1)}
		p.lines = append(p.lines, textOf(o))
		p.list = append(p.list, bytesOf(c.op, c.length, o.Arg)...)
	}
	return p
}

// notInstructions has lines that are nearly instructions, and some that are far from it.
var notInstructions = []string{
	"", " ", "x", "set", "set ", "set 07", "set 256", "set 1 2", "wait 0", "stop ", " stop", "Stop", "add 1024", "add -1", "st", "\xff", "stop\n",
}

func TestP33TextsOfInstructions(t *testing.T) {
	forOrders(func(o impl.Order, _ []int) {
		if s := impl.FormatOrder(o); s != textOf(o) {
			t.Fatal(o, s, textOf(o))
		}
	})
	for _, c := range []struct {
		o    impl.Order
		text string
	}{
		{impl.Order{}, "wait"},
		{impl.Order{Op: impl.OpSet}, "set 0"},
		{impl.Order{Op: impl.OpSet, Arg: 255}, "set 255"},
		{impl.Order{Op: impl.OpLoad}, "load 0"},
		{impl.Order{Op: impl.OpStore, Arg: 10}, "store 10"},
		{impl.Order{Op: impl.OpAdd, Arg: 500}, "add 500"},
		{impl.Order{Op: impl.OpSub, Arg: 1023}, "sub 1023"},
		{impl.Order{Op: impl.OpAnd, Arg: 256}, "and 256"},
		{impl.Order{Op: impl.OpXor, Arg: 9}, "xor 9"},
		{impl.Order{Op: impl.OpLeft}, "left"},
		{impl.Order{Op: impl.OpRight}, "right"},
		{impl.Order{Op: impl.OpJump, Arg: 512}, "jump 512"},
		{impl.Order{Op: impl.OpZero, Arg: 1}, "zero 1"},
		{impl.Order{Op: impl.OpCarry, Arg: 100}, "carry 100"},
		{impl.Order{Op: impl.OpCall, Arg: 1000}, "call 1000"},
		{impl.Order{Op: impl.OpReturn}, "return"},
		{impl.Order{Op: impl.OpStop}, "stop"},
	} {
		if s := impl.FormatOrder(c.o); s != c.text {
			t.Error(c.o, s, c.text)
		}
	}
}

func TestP33OtherInstructionsHaveNoText(t *testing.T) {
	forOtherOrders(func(o impl.Order) {
		if s := impl.FormatOrder(o); s != "" {
			t.Fatal(o, s)
		}
	})
}

func TestP33FormattedInstructionsCanBeRead(t *testing.T) {
	seen := map[string]impl.Order{}
	forOrders(func(o impl.Order, _ []int) {
		s := impl.FormatOrder(o)
		if got, ok := impl.ParseOrder(s); !ok || got != o {
			t.Fatal(s, "wanted", o, "got", got, ok)
		}
		if other, ok := seen[s]; ok {
			t.Fatal("same text", s, o, other)
		}
		seen[s] = o
	})
}

// variantsOf has texts that are nearly the given one: with something put in at every place, with something left out, and with other letters.
func variantsOf(s string) []string {
	var list []string
	for place := 0; place <= len(s); place++ {
		for _, more := range []string{" ", "  ", "\t", "\n", "\r\n", "\x00", "0", "00", "1", "9", "+", "-", "_", ".", ",", "x", "e", "\xff", "é", "\u00a0", "٣"} {
			list = append(list, s[:place]+more+s[place:])
		}
		list = append(list, s[:place], s[place:])
	}
	for place := range len(s) {
		list = append(list, s[:place]+s[place+1:])
		for _, other := range []byte{s[place] ^ 32, s[place] ^ 128, s[place] + 1, s[place] - 1} {
			list = append(list, s[:place]+string([]byte{other})+s[place+1:])
		}
	}
	return append(list, strings.ToUpper(s), strings.ToUpper(s[:1])+s[1:], s+" "+s, s+"\n"+s)
}

func TestP34NearlyInstructions(t *testing.T) {
	all := ordersOfTexts()
	for _, c := range lengthsOfOperations {
		top := largestArgument(c.length)
		for _, arg := range []int{0, 1, 9, 10, 99, 100, 255, 256, 999, 1000, top} {
			if arg > top {
				continue
			}
			for _, s := range variantsOf(textOf(impl.Order{Op: c.op, Arg: arg})) {
				checkParsed(t, all, s)
			}
		}
	}
}

// checkCanonicalText compares with what the document says of any text.
func checkCanonicalText(t *testing.T, s string) {
	t.Helper()
	o, ok := impl.ParseOrder(s)
	if !ok {
		if o != (impl.Order{}) {
			t.Fatalf("not read, but %v: %.80q", o, s)
		}
		return
	}
	if !impl.OrderValid(o) || impl.FormatOrder(o) != s {
		t.Fatalf("%.80q is not the text of %v", s, o)
	}
	checkNotParsed(t, s+" ")
}

func TestP34AcceptedTextsAreCanonical(t *testing.T) {
	names := []string{"", "x", "Set", "setx", "se", "mul"}
	for _, c := range lengthsOfOperations {
		names = append(names, c.name)
	}
	for _, name := range names {
		checkCanonicalText(t, name)
		for arg := -1100; arg <= 1100; arg++ {
			number := strconv.Itoa(arg)
			for _, between := range []string{"", " ", "  ", " 0", " +", "\t"} {
				checkCanonicalText(t, name+between+number)
			}
			checkCanonicalText(t, name+" "+number+" ")
		}
	}
}

func TestP34WithASpaceAppendedTextsAreRejected(t *testing.T) {
	forOrders(func(o impl.Order, _ []int) {
		checkNotParsed(t, textOf(o)+" ")
		checkNotParsed(t, " "+textOf(o))
	})
}

func TestP34LeadingZerosAndSignsAreRejected(t *testing.T) {
	for _, c := range lengthsOfOperations {
		for _, number := range []string{
			"00", "000", "01", "007", "0255", "00000000000000000001", strings.Repeat("0", 1000), strings.Repeat("0", 1000) + "1",
			"+0", "-0", "+1", "-1", "+255", "--1", "+-1", "- 1", "+", "-", "-00", "+01", "−1", "1-", "1+",
		} {
			checkNotParsed(t, c.name+" "+number)
			checkNotParsed(t, c.name+number)
		}
	}
}

// wrapping has numbers that fit again after they wrapped around some power of two.
var wrapping = []string{
	"65536", "65541", "4294967296", "4294967301", "9223372036854775807", "9223372036854775808", "9223372036854775813",
	"18446744073709551615", "18446744073709551616", "18446744073709551621", "36893488147419103232",
	"340282366920938463463374607431768211456", "340282366920938463463374607431768211461", "-9223372036854775808", "-9223372036854775809", "-18446744073709551611",
}

func TestP34NumbersThatDoNotFitAreRejected(t *testing.T) {
	for _, c := range lengthsOfOperations {
		top := largestArgument(c.length)
		for arg := top + 1; arg <= 3000; arg++ {
			checkNotParsed(t, c.name+" "+strconv.Itoa(arg))
		}
		for _, number := range wrapping {
			checkNotParsed(t, c.name+" "+number)
		}
		for _, digits := range []int{4, 5, 10, 19, 20, 21, 100, 100000} {
			checkNotParsed(t, c.name+" "+strings.Repeat("9", digits))
			checkNotParsed(t, c.name+" 1"+strings.Repeat("0", digits))
			checkNotParsed(t, c.name+" "+strings.Repeat("1", digits)+"x")
		}
	}
}

func TestP34NumbersAreDecimal(t *testing.T) {
	for _, c := range lengthsOfOperations {
		for _, number := range []string{
			"0x1", "0X1", "0b1", "0o7", "1e1", "1e0", "1.0", "1.", ".1", "1_0", "_1", "1_", "1,0", "a", "A", "f", "x", "5x", "x5", "0x",
			"1n", "1\x00", "\x001", "1\n", "\n1", "1\t", "\t1", "٣", "１", "²", "\xb2", "\"1\"", "'1'", "(1)", "$1", "#1",
		} {
			checkNotParsed(t, c.name+" "+number)
		}
	}
}

func TestP34MissingAndSuperfluousArgumentsAreRejected(t *testing.T) {
	for _, c := range lengthsOfOperations {
		checkNotParsed(t, c.name+" ")
		if c.length > 1 {
			checkNotParsed(t, c.name)
			for _, more := range []string{"1 2", "1 0", "0 0", "1 1", "1,2", "1 x", "1 ;", "1 add 1"} {
				checkNotParsed(t, c.name+" "+more)
			}
			continue
		}
		for _, more := range []string{"0", "1", "5", "255", "x", "wait", "0 0", "\x00"} {
			checkNotParsed(t, c.name+" "+more)
			checkNotParsed(t, c.name+more)
		}
	}
}

func TestP34SpacesAndCapitalLettersAreRejected(t *testing.T) {
	for _, c := range lengthsOfOperations {
		s := textOf(impl.Order{Op: c.op, Arg: largestArgument(c.length)})
		for _, space := range []string{" ", "  ", "\t", "\n", "\r", "\v", "\f", "\u00a0", "\u2003", "\x00", "\ufeff"} {
			checkNotParsed(t, s+space)
			checkNotParsed(t, space+s)
			checkNotParsed(t, space+s+space)
			if c.length > 1 {
				checkNotParsed(t, strings.Replace(s, " ", " "+space, 1))
				checkNotParsed(t, strings.Replace(s, " ", space+" ", 1))
			}
			if c.length > 1 && space != " " {
				checkNotParsed(t, strings.Replace(s, " ", space, 1))
			}
		}
		checkNotParsed(t, strings.ToUpper(s))
		checkNotParsed(t, "Op"+strings.ToUpper(s[:1])+s[1:])
		checkNotParsed(t, "op"+s)
		for place := range c.name {
			checkNotParsed(t, s[:place]+strings.ToUpper(s[place:place+1])+s[place+1:])
		}
	}
}

func TestP34PartsOfNamesAreRejected(t *testing.T) {
	for _, c := range lengthsOfOperations {
		for length := range c.name {
			for _, back := range []string{"", " ", " 0", " 1", " 255"} {
				checkNotParsed(t, c.name[:length]+back)
				checkNotParsed(t, c.name[length+1:]+back)
			}
		}
		for _, more := range []string{"s", "e", "t", "0", "1", "_", ":", ".", "\x00", "\xff", c.name} {
			for _, back := range []string{"", " 0", " 1"} {
				checkNotParsed(t, c.name+more+back)
				checkNotParsed(t, more+c.name+back)
			}
		}
	}
}

func TestP34NumbersOfOperationsAreNoNames(t *testing.T) {
	for op := -1; op <= 16; op++ {
		for _, back := range []string{"", " 0", " 1"} {
			checkNotParsed(t, strconv.Itoa(op)+back)
		}
	}
}

// TestP34ShortTexts goes through all texts with one or two bytes, and all with three of the bytes that texts have.
func TestP34ShortTexts(t *testing.T) {
	checkNotParsed(t, "")
	for a := range 256 {
		checkNotParsed(t, string([]byte{byte(a)}))
		for b := range 256 {
			checkNotParsed(t, string([]byte{byte(a), byte(b)}))
		}
	}
	const letters = " +-0123456789abcdefghijklmnopqrstuvwxyz\xff"
	for a := range len(letters) {
		for b := range len(letters) {
			for c := range len(letters) {
				// No instruction is so short: the three letters of a name still need an argument.
				checkNotParsed(t, string([]byte{letters[a], letters[b], letters[c]}))
			}
		}
	}
}

// TestP34ArbitraryBytes replaces every byte of a text by every other one.
func TestP34ArbitraryBytes(t *testing.T) {
	all := ordersOfTexts()
	for _, c := range lengthsOfOperations {
		s := []byte(textOf(impl.Order{Op: c.op, Arg: largestArgument(c.length)}))
		for place := range s {
			for value := range 256 {
				text := slices.Clone(s)
				text[place] = byte(value)
				checkParsed(t, all, string(text))
			}
		}
	}
	for _, s := range []string{"\xff\xfe", "\x00\x00\x00\x00", "set \xc3\x28", "\xe2\x82 1", strings.Repeat(" ", 10000), strings.Repeat("a", 100000), strings.Repeat("set 1 ", 10000)} {
		checkNotParsed(t, s)
	}
}

func TestP1ProgramsCanBeDisassembled(t *testing.T) {
	for n := 0; n <= impl.MaxOrders; n++ {
		for first := range 32 {
			p := programOf(n, first)
			checkAssembled(t, p.lines, p.list)
			list, _ := impl.Assemble(p.lines)
			checkDisassembled(t, list, p.lines)
		}
	}
}

func TestP1ProgramsOfTheDocument(t *testing.T) {
	checkAssembled(t, []string{"add 500"}, []int{4, 244, 1})
	checkAssembled(t, []string{"set 5", "store 10", "stop"}, []int{1, 5, 3, 10, 0, 15})
	checkDisassembled(t, []int{4, 244, 1}, []string{"add 500"})
	checkDisassembled(t, []int{1, 5, 3, 10, 0, 15}, []string{"set 5", "store 10", "stop"})
}

func TestP1EveryInstructionIsAProgram(t *testing.T) {
	forOrders(func(o impl.Order, list []int) {
		checkAssembled(t, []string{textOf(o)}, list)
		checkDisassembled(t, list, []string{textOf(o)})
	})
}

func TestP1NoLinesAndNoBytes(t *testing.T) {
	for _, lines := range [][]string{nil, {}, make([]string, 0, 8)} {
		checkAssembled(t, lines, nil)
	}
	for _, list := range [][]int{nil, {}, make([]int, 0, 8)} {
		checkDisassembled(t, list, nil)
	}
	// The bytes behind the end are no part of the list.
	checkDisassembled(t, []int{15, 1, 16}[:0], nil)
	checkDisassembled(t, []int{15, 1, 16}[:1], []string{"stop"})
	checkAssembled(t, []string{"stop", "x"}[:1], []int{15})
}

func TestP1TwoListsOfLines(t *testing.T) {
	for n := 0; n <= impl.MaxOrders; n++ {
		for m := 0; m <= impl.MaxOrders; m++ {
			a := programOf(n, m)
			b := programOf(m, n+3)
			first, _ := impl.Assemble(a.lines)
			second, _ := impl.Assemble(b.lines)
			both := slices.Concat(a.lines, b.lines)
			if n+m > impl.MaxOrders {
				checkNotAssembled(t, both, impl.MaxOrders+1)
				checkNotDisassembled(t, slices.Concat(first, second))
				continue
			}
			checkAssembled(t, both, slices.Concat(first, second))
			checkDisassembled(t, slices.Concat(first, second), both)
		}
	}
}

func TestP1AsManyLinesAsAllowed(t *testing.T) {
	for _, c := range lengthsOfOperations {
		for _, arg := range []int{0, largestArgument(c.length)} {
			line := textOf(impl.Order{Op: c.op, Arg: arg})
			list := bytesOf(c.op, c.length, arg)
			for _, n := range []int{59, 60} {
				checkAssembled(t, slices.Repeat([]string{line}, n), slices.Repeat(list, n))
				checkDisassembled(t, slices.Repeat(list, n), slices.Repeat([]string{line}, n))
			}
			for _, n := range []int{61, 62, 100, 120, 256, 1000, 70000} {
				checkNotAssembled(t, slices.Repeat([]string{line}, n), 61)
				checkNotDisassembled(t, slices.Repeat(list, n))
			}
		}
	}
}

func TestP1TheFirstLineThatIsNoInstruction(t *testing.T) {
	for _, n := range []int{1, 2, 3, 10, 59, 60, 61, 62, 100} {
		for place := range n {
			lines := programOf(n, place).lines
			lines[place] = notInstructions[place%len(notInstructions)]
			checkNotAssembled(t, lines, place+1)
		}
	}
}

func TestP1EveryWrongLineIsFound(t *testing.T) {
	for _, bad := range notInstructions {
		for _, place := range []int{0, 1, 30, 58, 59} {
			lines := programOf(60, place).lines
			lines[place] = bad
			checkNotAssembled(t, lines, place+1)
		}
		checkNotAssembled(t, []string{bad}, 1)
		checkNotAssembled(t, []string{bad, bad, bad}, 1)
	}
}

// TestP1WrongLinesBehindTheLimit: a line that is no instruction is reported before the number of lines, wherever it stands.
func TestP1WrongLinesBehindTheLimit(t *testing.T) {
	for _, n := range []int{61, 62, 70, 200, 1000} {
		for _, place := range []int{0, 29, 58, 59, 60, 61, 62, 69, 199, 998, 999} {
			if place >= n {
				continue
			}
			lines := programOf(n, n).lines
			lines[place] = "set 07"
			checkNotAssembled(t, lines, place+1)
			// Of several ones the first counts.
			for later := place + 1; later < n; later += 5 {
				lines[later] = "x"
			}
			checkNotAssembled(t, lines, place+1)
		}
		checkNotAssembled(t, programOf(n, n).lines, 61)
	}
}

func TestP1LinesAreNotJoined(t *testing.T) {
	checkNotAssembled(t, []string{"set", "5"}, 1)
	checkNotAssembled(t, []string{"stop", "set 5\nstop"}, 2)
	checkNotAssembled(t, []string{"stop", "stop stop"}, 2)
	checkNotAssembled(t, []string{"stop", "", "stop"}, 2)
	checkNotAssembled(t, []string{"stop", "stop", ""}, 3)
}

// canBeRead reads a list as the document says, without asking the program, and counts the instructions.
func canBeRead(list []int) (int, bool) {
	count := 0
	for at := 0; at < len(list); count++ {
		op := list[at]
		if op < 0 || op > 15 {
			return 0, false
		}
		length := lengthsOfOperations[op].length
		if at+length > len(list) {
			return 0, false
		}
		if length > 1 && !isByte(list[at+1]) || length > 2 && (list[at+2] < 0 || list[at+2] > 3) {
			return 0, false
		}
		at += length
	}
	return count, count <= 60
}

// checkProgram compares Disassemble with what the document says of any list of numbers.
func checkProgram(t *testing.T, list []int) {
	t.Helper()
	count, readable := canBeRead(list)
	lines, ok := impl.Disassemble(list)
	if ok != readable {
		t.Fatal(list, lines, ok)
	}
	if !ok {
		if len(lines) != 0 {
			t.Fatal("lines", list, lines)
		}
		return
	}
	if len(lines) != count {
		t.Fatal("count", list, lines, count)
	}
	checkAssembled(t, lines, list)
}

func TestP35AcceptedBytesArePrograms(t *testing.T) {
	numbers := []int{-1, 0, 1, 2, 3, 4, 8, 10, 14, 15, 16, 255, 256}
	for _, a := range numbers {
		checkProgram(t, []int{a})
		for _, b := range numbers {
			checkProgram(t, []int{a, b})
			for _, c := range numbers {
				checkProgram(t, []int{a, b, c})
				for _, d := range numbers {
					checkProgram(t, []int{a, b, c, d})
				}
			}
		}
	}
}

// TestP35ChangedPrograms changes every number of a program, one at a time.
func TestP35ChangedPrograms(t *testing.T) {
	for _, n := range []int{1, 2, 20, 60} {
		p := programOf(n, n)
		for place := range p.list {
			for _, value := range slices.Concat(edgeBytes, notBytes, []int{2, 3, 4, 5, 8, 14, 15, 16, 17}) {
				list := slices.Clone(p.list)
				list[place] = value
				checkProgram(t, list)
			}
		}
	}
}

// TestP35BytesWithoutOrder reads lists whose bytes follow a rule that knows nothing of instructions.
func TestP35BytesWithoutOrder(t *testing.T) {
	accepted := 0
	state := 1
	for round := range 20000 {
		list := make([]int, round%9)
		for i := range list {
			state = (state*1103515245 + 12345) % (1 << 31)
			list[i] = state / 65536 % 18
		}
		checkProgram(t, list)
		if _, ok := impl.Disassemble(list); ok && len(list) > 0 {
			accepted++
		}
	}
	if accepted < 500 {
		t.Error("too few programs among the lists", accepted)
	}
}

func TestP35ListsThatEndInsideAnInstruction(t *testing.T) {
	for _, c := range lengthsOfOperations {
		whole := bytesOf(c.op, c.length, largestArgument(c.length))
		for length := 1; length < c.length; length++ {
			for _, n := range []int{0, 1, 5, 58, 59, 60} {
				all := slices.Concat(programOf(n, c.op).list, whole)
				cut := all[:len(all)-c.length+length]
				// Once with the missing bytes in the spare capacity, once without.
				checkNotDisassembled(t, cut)
				checkNotDisassembled(t, slices.Clip(slices.Clone(cut)))
			}
		}
	}
}

func TestP35NumbersThatAreNoInstructions(t *testing.T) {
	for _, n := range []int{0, 1, 30, 59, 60} {
		front := programOf(n, n).list
		for _, bad := range slices.Concat(notOperations, notBytes) {
			checkNotDisassembled(t, slices.Concat(front, []int{bad}))
			checkNotDisassembled(t, slices.Concat(front, []int{bad}, []int{15}))
			checkNotDisassembled(t, slices.Concat([]int{bad}, front))
		}
		for _, bad := range notBytes {
			checkNotDisassembled(t, slices.Concat(front, []int{1, bad}))
			checkNotDisassembled(t, slices.Concat(front, []int{4, bad, 1}))
			checkNotDisassembled(t, slices.Concat(front, []int{4, 1, bad}))
		}
		for _, high := range []int{4, 5, 128, 255} {
			checkNotDisassembled(t, slices.Concat(front, []int{10, 0, high}))
		}
		checkNotDisassembled(t, slices.Concat(front, []int{10, math.MinInt, 1 << 55}))
	}
}

func TestP1AndP35ResultsAreNewMemory(t *testing.T) {
	for _, n := range []int{1, 2, 3, 17, 59, 60} {
		p := programOf(n, n)
		first, _ := impl.Assemble(p.lines)
		spoilList(first)
		checkAssembled(t, p.lines, p.list)

		lines, _ := impl.Disassemble(p.list)
		lines = lines[:cap(lines)]
		for i := range lines {
			lines[i] = "spoilt"
		}
		checkDisassembled(t, p.list, p.lines)
	}
	kept := programOf(4, 1)
	list := slices.Clone(kept.list)
	lines, _ := impl.Disassemble(list)
	spoilList(list)
	if !slices.Equal(lines, kept.lines) {
		t.Error("lines follow the list", lines)
	}
}
