package mill

import (
	"fmt"
	"strings"
	"sync"
	"testing"
)

// registersText are those that are not 0, in base 16.
func registersText(regs [32]int) string {
	var told []string
	for i, number := range regs {
		if number != 0 {
			told = append(told, fmt.Sprintf("%d:%x", i, number))
		}
	}
	return strings.Join(told, " ")
}

// ran is what a run is to answer: registers as registersText has them.
type ran struct {
	out            string
	end, steps, pc int
	registers      string
}

func assembled(t testing.TB, text string) string {
	t.Helper()
	image, errno, line := Asm(text)
	if errno != OK {
		t.Fatalf("P6: Asm(%q): %d, line %d", text, errno, line)
	}
	return image
}

func checkState(t *testing.T, told, image string, fuel int, want ran) {
	t.Helper()
	s, errno := Run(image, fuel)
	got := ran{s.Out, s.End, s.Steps, s.Pc, registersText(s.Regs)}
	if got != want || errno != OK {
		t.Errorf("P7, P8: Run of %q, %d = %+v, %d, want %+v", told, fuel, got, errno, want)
	}
}

// checkFueled: a run with so much fuel and no more.
func checkFueled(t *testing.T, text string, fuel int, want ran) {
	t.Helper()
	checkState(t, text, assembled(t, text), fuel, want)
}

// checkRun: a run that ends of itself. With fuel for one more word than are
// done it ends the same; with fuel for just these it is spent, there and then.
func checkRun(t *testing.T, text string, want ran) {
	t.Helper()
	image := assembled(t, text)
	checkState(t, text, image, 2000, want)
	checkState(t, text, image, want.steps+1, want)
	want.end = Spent
	checkState(t, text, image, want.steps, want)
	for fuel := range want.steps {
		if s, errno := Run(image, fuel); s.End != Spent || s.Steps != fuel || errno != OK {
			t.Errorf("P7: Run of %q, %d = %+v, %d", text, fuel, s, errno)
		}
	}
}

// setTo is the lines that set a register to a number: two words.
func setTo(register int, number uint32) string {
	return fmt.Sprintf("lui $%d, %d\nori $%d, $%d, %d\n", register, number>>16, register, register, number&0xffff)
}

func TestExampleRuns(t *testing.T) {
	checkRun(t, example, ran{"5\n4\n3\n2\n1\n0\n", Exit, 31, 24, "2:a"})
	checkFueled(t, example, 4, ran{"5\n", Spent, 4, 16, "2:1 4:5"})
	checkFueled(t, example, 5, ran{"5\n", Spent, 5, 20, "2:1 4:5"})
	checkFueled(t, example, 6, ran{"5\n", Spent, 6, 4, "2:a 4:5"})
}

// overflows stands for the number that is not made.
const overflows = -1

// What each instruction that sets a register makes of two numbers.
func TestNumbersMade(t *testing.T) {
	seen := map[string]bool{}
	for _, c := range []struct {
		name string
		a, b uint32
		want int
	}{
		{"add", 2, 3, 5}, {"add", 0, 0, 0}, {"add", 0xffffffff, 1, 0}, {"add", 0xffffffff, 0xffffffff, 0xfffffffe},
		{"add", 0x7fffffff, 0, 0x7fffffff}, {"add", 0x7ffffffe, 1, 0x7fffffff}, {"add", 0x7fffffff, 1, overflows}, {"add", 1, 0x7fffffff, overflows},
		{"add", 0x7fffffff, 0x7fffffff, overflows}, {"add", 0x80000000, 0xffffffff, overflows}, {"add", 0x80000001, 0xffffffff, 0x80000000},
		{"add", 0x80000000, 0x80000000, overflows}, {"add", 0x80000000, 0x7fffffff, 0xffffffff}, {"add", 0x40000000, 0x40000000, overflows},
		{"add", 0xc0000000, 0xc0000000, 0x80000000}, {"add", 0xbfffffff, 0xc0000000, overflows},
		{"addu", 2, 3, 5}, {"addu", 0x7fffffff, 1, 0x80000000}, {"addu", 0x80000000, 0x80000000, 0}, {"addu", 0xffffffff, 0xffffffff, 0xfffffffe},
		{"addu", 0x80000000, 0xffffffff, 0x7fffffff},
		{"sub", 5, 3, 2}, {"sub", 3, 5, 0xfffffffe}, {"sub", 0, 0x80000000, overflows}, {"sub", 0xffffffff, 0x80000000, 0x7fffffff},
		{"sub", 0, 0x7fffffff, 0x80000001}, {"sub", 0x80000000, 1, overflows}, {"sub", 0x80000001, 1, 0x80000000}, {"sub", 0x7fffffff, 0xffffffff, overflows},
		{"sub", 0x7ffffffe, 0xffffffff, 0x7fffffff}, {"sub", 0x80000000, 0x80000000, 0}, {"sub", 0x80000000, 0x7fffffff, overflows}, {"sub", 0x7fffffff, 0x80000000, overflows},
		{"subu", 5, 3, 2}, {"subu", 3, 5, 0xfffffffe}, {"subu", 0, 0x80000000, 0x80000000}, {"subu", 0x80000000, 1, 0x7fffffff}, {"subu", 0, 0xffffffff, 1},
		{"and", 0xff00ff00, 0xf0f0f0f0, 0xf000f000}, {"or", 0xff00ff00, 0xf0f0f0f0, 0xfff0fff0}, {"xor", 0xff00ff00, 0xf0f0f0f0, 0x0ff00ff0},
		{"nor", 0xff00ff00, 0xf0f0f0f0, 0x000f000f}, {"nor", 0, 0, 0xffffffff}, {"nor", 0xffffffff, 0, 0}, {"and", 0xffffffff, 0x80000001, 0x80000001},
		{"slt", 1, 2, 1}, {"slt", 2, 1, 0}, {"slt", 2, 2, 0}, {"slt", 0xffffffff, 0, 1}, {"slt", 0, 0xffffffff, 0}, {"slt", 0x80000000, 0x7fffffff, 1},
		{"slt", 0x7fffffff, 0x80000000, 0}, {"slt", 0x80000000, 0x80000001, 1}, {"slt", 0xfffffffe, 0xffffffff, 1},
		{"sltu", 1, 2, 1}, {"sltu", 2, 1, 0}, {"sltu", 2, 2, 0}, {"sltu", 0xffffffff, 0, 0}, {"sltu", 0, 0xffffffff, 1}, {"sltu", 0x80000000, 0x7fffffff, 0},
		{"sltu", 0x7fffffff, 0x80000000, 1}, {"sltu", 0xfffffffe, 0xffffffff, 1},
		{"sllv", 0x80000001, 0, 0x80000001}, {"sllv", 0x80000001, 1, 2}, {"sllv", 3, 31, 0x80000000}, {"sllv", 3, 32, 3}, {"sllv", 3, 33, 6}, {"sllv", 3, 63, 0x80000000},
		{"sllv", 3, 64, 3}, {"sllv", 3, 0xffffffff, 0x80000000}, {"sllv", 3, 0x80000000, 3}, {"sllv", 0x12345678, 0x104, 0x23456780},
		{"srlv", 0x80000001, 0, 0x80000001}, {"srlv", 0x80000001, 1, 0x40000000}, {"srlv", 0x80000000, 31, 1}, {"srlv", 0x80000000, 32, 0x80000000}, {"srlv", 0x80000000, 33, 0x40000000},
		{"srlv", 0xffffffff, 0xffffffff, 1}, {"srlv", 0x12345678, 0x104, 0x01234567},
		{"srav", 0x80000001, 0, 0x80000001}, {"srav", 0x80000001, 1, 0xc0000000}, {"srav", 0x80000000, 31, 0xffffffff}, {"srav", 0x80000000, 32, 0x80000000}, {"srav", 0x7fffffff, 31, 0},
		{"srav", 0x7fffffff, 1, 0x3fffffff}, {"srav", 0x80000000, 0xffffffff, 0xffffffff}, {"srav", 0x92345678, 0x104, 0xf9234567},
	} {
		seen[c.name] = true
		// each register other than the others, then the first one over itself
		checkMade(t, setTo(8, c.a)+setTo(9, c.b)+c.name+" $10, $8, $9\nbreak", 10, c.want)
		checkMade(t, setTo(8, c.a)+setTo(9, c.b)+c.name+" $8, $8, $9\nbreak", 8, c.want)
		checkMade(t, setTo(31, c.a)+setTo(1, c.b)+c.name+" $1, $31, $1\nbreak", 1, c.want)
	}
	for _, name := range []string{"add", "addu", "sub", "subu", "and", "or", "xor", "nor", "slt", "sltu", "sllv", "srlv", "srav"} {
		if !seen[name] {
			t.Errorf("%s was never done", name)
		}
	}
}

// checkMade: behind four words, the fifth sets a register, or overflows; a
// sixth breaks.
func checkMade(t *testing.T, text string, register, want int) {
	t.Helper()
	image := assembled(t, text)
	before, _ := Run(image, 4)
	s, errno := Run(image, 6)
	wanted := State{End: Break, Steps: 5, Pc: 20, Regs: before.Regs}
	if want == overflows {
		wanted.End, wanted.Steps, wanted.Pc = Overflow, 4, 16
	} else {
		wanted.Regs[register] = want
	}
	if s != wanted || errno != OK {
		t.Errorf("P8: Run of %q = %+v, %d, want %+v", text, s, errno, wanted)
	}
}

func TestNumbersMadeOfHalves(t *testing.T) {
	for _, c := range []struct {
		name string
		a    uint32
		half int
		want int
	}{
		{"addi", 2, 3, 5}, {"addi", 2, -3, 0xffffffff}, {"addi", 0x7fffffff, 1, overflows}, {"addi", 0x7fffffff, 0, 0x7fffffff}, {"addi", 0x7fffffff, -1, 0x7ffffffe},
		{"addi", 0x80000000, -1, overflows}, {"addi", 0x80000000, 1, 0x80000001}, {"addi", 0x80008000, -32768, 0x80000000}, {"addi", 0x80007fff, -32768, overflows},
		{"addi", 0x7fff8000, 32767, 0x7fffffff}, {"addi", 0x7fff8001, 32767, overflows}, {"addi", 0xffffffff, 1, 0},
		{"addiu", 2, 3, 5}, {"addiu", 2, -3, 0xffffffff}, {"addiu", 0x7fffffff, 1, 0x80000000}, {"addiu", 0x80000000, -1, 0x7fffffff}, {"addiu", 0xffffffff, 1, 0},
		{"addiu", 0, -32768, 0xffff8000}, {"addiu", 0, 32767, 0x7fff},
		{"slti", 1, 2, 1}, {"slti", 2, 2, 0}, {"slti", 0xffffffff, 0, 1}, {"slti", 0, -1, 0}, {"slti", 0xfffffffe, -1, 1}, {"slti", 0x80000000, -32768, 1}, {"slti", 0x7fffffff, 32767, 0},
		{"slti", 0xffff8000, -32768, 0}, {"slti", 0xffff7fff, -32768, 1},
		{"sltiu", 1, 2, 1}, {"sltiu", 2, 2, 0}, {"sltiu", 0xffffffff, 0, 0}, {"sltiu", 0, -1, 1}, {"sltiu", 0xfffffffe, -1, 1}, {"sltiu", 0xffffffff, -1, 0}, {"sltiu", 0x80000000, -32768, 1},
		{"sltiu", 0xffff8000, -32768, 0}, {"sltiu", 0xffff7fff, -32768, 1}, {"sltiu", 0x10000, -1, 1}, {"sltiu", 0x80000000, 32767, 0},
		{"andi", 0xffffffff, 65535, 0xffff}, {"andi", 0xff00ff00, 0xf0f0, 0xf000}, {"andi", 0xffffffff, 0x8000, 0x8000},
		{"ori", 0xff00ff00, 0xf0f0, 0xff00fff0}, {"ori", 0, 65535, 0xffff}, {"ori", 0, 0x8000, 0x8000},
		{"xori", 0xff00ff00, 0xf0f0, 0xff000ff0}, {"xori", 0xffffffff, 65535, 0xffff0000}, {"xori", 0, 0x8000, 0x8000},
		{"sll", 0x80000001, 0, 0x80000001}, {"sll", 0x80000001, 1, 2}, {"sll", 3, 31, 0x80000000}, {"sll", 0x12345678, 16, 0x56780000},
		{"srl", 0x80000001, 0, 0x80000001}, {"srl", 0x80000001, 1, 0x40000000}, {"srl", 0x80000000, 31, 1}, {"srl", 0x92345678, 16, 0x9234},
		{"sra", 0x80000001, 0, 0x80000001}, {"sra", 0x80000001, 1, 0xc0000000}, {"sra", 0x80000000, 31, 0xffffffff}, {"sra", 0x7fffffff, 31, 0}, {"sra", 0x92345678, 16, 0xffff9234},
	} {
		other := setTo(9, 0xdeadbeef)
		checkMade(t, setTo(8, c.a)+other+fmt.Sprintf("%s $10, $8, %d\nbreak", c.name, c.half), 10, c.want)
		checkMade(t, setTo(8, c.a)+other+fmt.Sprintf("%s $8, $8, %d\nbreak", c.name, c.half), 8, c.want)
	}
	for half, want := range map[int]int{0: 0, 1: 0x10000, 0x8000: 0x80000000, 0x7fff: 0x7fff0000, 65535: 0xffff0000} {
		checkMade(t, setTo(8, 0xffffffff)+setTo(9, 0xffffffff)+fmt.Sprintf("lui $8, %d\nbreak", half), 8, want)
	}
}

// Register 0 is always 0, whatever sets it; what would end the run still does.
func TestRegisterZero(t *testing.T) {
	prelude := setTo(8, 0xffffffff) + setTo(9, 31)
	for _, line := range []string{"add $0, $8, $9", "addu $0, $8, $9", "sub $0, $8, $9", "subu $0, $8, $9", "and $0, $8, $9", "or $0, $8, $9", "xor $0, $8, $9", "nor $0, $0, $0",
		"slt $0, $8, $9", "sltu $0, $9, $8", "sll $0, $8, 1", "srl $0, $8, 1", "sra $0, $8, 1", "sllv $0, $8, $9", "srlv $0, $8, $9", "srav $0, $8, $9",
		"addi $0, $0, 5", "addiu $0, $0, 5", "slti $0, $0, 5", "sltiu $0, $0, 5", "andi $0, $8, 5", "ori $0, $0, 5", "xori $0, $0, 5", "lui $0, 5",
		"lb $0, 0($0)", "lh $0, 0($0)", "lw $0, 0($0)", "lbu $0, 0($0)", "lhu $0, 0($0)"} {
		// as a number, as what a branch is held against, as a place
		text := prelude + line + "\naddu $10, $0, $0\nlw $11, 16($0)\nbeq $0, $10, a\naddu $12, $9, $0\na: break"
		word := numberOf([]byte(assembled(t, text)[16:20]))
		checkRun(t, text, ran{"", Break, 9, 36, fmt.Sprintf("8:ffffffff 9:1f 11:%x 12:1f", word)})
	}
	checkRun(t, setTo(8, 0x7fffffff)+"addi $0, $8, 1", ran{"", Overflow, 2, 8, "8:7fffffff"})
	checkRun(t, setTo(8, 0x7fffffff)+"add $0, $8, $8", ran{"", Overflow, 2, 8, "8:7fffffff"})
	checkRun(t, "lw $0, 1024($0)", ran{"", Address, 0, 0, ""})
	// jalr with register 0 as $d, and as $s
	checkRun(t, "addiu $8, $0, 16\njalr $0, $8\nsll $0, $0, 0\nbreak\naddu $9, $0, $8\nbreak", ran{"", Break, 4, 20, "8:10 9:10"})
	checkRun(t, "addiu $8, $0, 1\njalr $0, $0\nbreak", ran{"", Break, 2, 8, "8:1"})
}

func TestBranches(t *testing.T) {
	for _, c := range []struct {
		name string
		a    uint32
		goes bool
	}{
		{"blez", 0, true}, {"blez", 1, false}, {"blez", 0xffffffff, true}, {"blez", 0x80000000, true}, {"blez", 0x7fffffff, false},
		{"bgtz", 0, false}, {"bgtz", 1, true}, {"bgtz", 0xffffffff, false}, {"bgtz", 0x80000000, false}, {"bgtz", 0x7fffffff, true},
		{"bltz", 0, false}, {"bltz", 1, false}, {"bltz", 0xffffffff, true}, {"bltz", 0x80000000, true}, {"bltz", 0x7fffffff, false},
		{"bgez", 0, true}, {"bgez", 1, true}, {"bgez", 0xffffffff, false}, {"bgez", 0x80000000, false}, {"bgez", 0x7fffffff, true},
	} {
		checkBranch(t, setTo(8, c.a)+setTo(1, 5), c.name+" $8", c.goes)
		checkBranch(t, setTo(8, c.a)+setTo(1, 0xfffffff0), c.name+" $8", c.goes)
	}
	for _, c := range []struct {
		a, b  uint32
		equal bool
	}{{0, 0, true}, {1, 0, false}, {0, 1, false}, {0xffffffff, 0xffffffff, true}, {0x80000000, 0x80000000, true}, {0x80000000, 0, false}, {0x7fffffff, 0xffffffff, false}, {0x10001, 1, false}} {
		checkBranch(t, setTo(8, c.a)+setTo(9, c.b), "beq $8, $9", c.equal)
		checkBranch(t, setTo(8, c.a)+setTo(9, c.b), "bne $8, $9", !c.equal)
	}
	checkBranch(t, setTo(8, 7)+setTo(9, 7), "beq $8, $8", true)
	checkBranch(t, setTo(8, 7)+setTo(9, 7), "bne $9, $9", false)
}

// checkBranch: behind four words a branch, forwards and backwards; whether it
// goes or not, the word behind it is done, and no register is set by it.
func checkBranch(t *testing.T, prelude, branch string, goes bool) {
	t.Helper()
	before, _ := Run(assembled(t, prelude), 4)
	kept := registersText(before.Regs)
	forwards := prelude + branch + ", a\naddiu $20, $0, 1\nbreak\na: break"
	backwards := prelude + "j b\na: addiu $20, $20, 1\nbreak\nb: " + branch + ", a\naddiu $21, $0, 1\nbreak"
	if goes {
		checkRun(t, forwards, ran{"", Break, 6, 28, strings.TrimSpace(kept + " 20:1")})
		checkRun(t, backwards, ran{"", Break, 9, 24, strings.TrimSpace(kept + " 20:2 21:1")})
	} else {
		checkRun(t, forwards, ran{"", Break, 6, 24, strings.TrimSpace(kept + " 20:1")})
		checkRun(t, backwards, ran{"", Break, 8, 36, strings.TrimSpace(kept + " 20:1 21:1")})
	}
}

func TestLoads(t *testing.T) {
	const data = "lui $9, %d\nori $9, $9, %d\n%s $8, %d($9)\nbreak\n.word 0x80017fff\n.word 0xff7e0280\n"
	for _, c := range []struct {
		name  string
		place int
		want  int // below 0: the end is Address
	}{
		{"lb", 16, 0xffffff80}, {"lb", 17, 1}, {"lb", 18, 0x7f}, {"lb", 19, 0xffffffff}, {"lb", 20, 0xffffffff}, {"lb", 23, 0xffffff80},
		{"lbu", 16, 0x80}, {"lbu", 17, 1}, {"lbu", 18, 0x7f}, {"lbu", 19, 0xff}, {"lbu", 20, 0xff}, {"lbu", 23, 0x80},
		{"lh", 16, 0xffff8001}, {"lh", 18, 0x7fff}, {"lh", 20, 0xffffff7e}, {"lh", 22, 0x280}, {"lh", 17, -1}, {"lh", 19, -1},
		{"lhu", 16, 0x8001}, {"lhu", 18, 0x7fff}, {"lhu", 20, 0xff7e}, {"lhu", 22, 0x280}, {"lhu", 17, -1}, {"lhu", 19, -1},
		{"lw", 16, 0x80017fff}, {"lw", 20, 0xff7e0280}, {"lw", 17, -1}, {"lw", 18, -1}, {"lw", 19, -1},
		{"lb", 1022, 0}, {"lb", 1023, 0}, {"lb", 1024, -1}, {"lb", 1025, -1}, {"lb", -1, -1}, {"lb", -1024, -1}, {"lb", 1 << 31, -1},
		{"lbu", 1023, 0}, {"lbu", 1024, -1}, {"lbu", -1, -1}, {"lbu", 1 << 30, -1},
		{"lh", 1020, 0}, {"lh", 1022, 0}, {"lh", 1023, -1}, {"lh", 1024, -1}, {"lh", -1, -1}, {"lh", -2, -1}, {"lh", 1 << 31, -1},
		{"lhu", 1022, 0}, {"lhu", 1023, -1}, {"lhu", 1024, -1}, {"lhu", -1, -1}, {"lhu", -2, -1},
		{"lw", 1016, 0}, {"lw", 1020, 0}, {"lw", 1021, -1}, {"lw", 1022, -1}, {"lw", 1023, -1}, {"lw", 1024, -1}, {"lw", -1, -1}, {"lw", -2, -1}, {"lw", -4, -1}, {"lw", 1 << 31, -1},
	} {
		for _, half := range []int{0, 4, -4, 1, -1, 32767, -32768} {
			base := uint32(c.place - half)
			text := fmt.Sprintf(data, base>>16, base&0xffff, c.name, half)
			regs := [32]int{8: c.want, 9: int(base)}
			want := ran{"", Break, 3, 12, registersText(regs)}
			if c.want < 0 {
				regs[8] = 0
				want = ran{"", Address, 2, 8, registersText(regs)}
			}
			checkRun(t, text, want)
		}
	}
	// over the register of the place
	checkRun(t, "addiu $9, $0, 8\nlw $9, 0($9)\nbreak", ran{"", Break, 2, 8, "9:d"})
}

// What a store leaves in the last two words of the memory, which have been
// 11223344 and aabbccdd.
func TestStores(t *testing.T) {
	prelude := setTo(8, 0x11223344) + setTo(9, 0xaabbccdd) + "sw $8, 1016($0)\nsw $9, 1020($0)\n" + setTo(8, 0x92345678)
	for _, c := range []struct {
		name        string
		place       int
		first, last int
	}{
		{"sb", 1016, 0x78223344, 0xaabbccdd}, {"sb", 1017, 0x11783344, 0xaabbccdd}, {"sb", 1018, 0x11227844, 0xaabbccdd}, {"sb", 1019, 0x11223378, 0xaabbccdd},
		{"sb", 1020, 0x11223344, 0x78bbccdd}, {"sb", 1021, 0x11223344, 0xaa78ccdd}, {"sb", 1022, 0x11223344, 0xaabb78dd}, {"sb", 1023, 0x11223344, 0xaabbcc78},
		{"sh", 1016, 0x56783344, 0xaabbccdd}, {"sh", 1018, 0x11225678, 0xaabbccdd}, {"sh", 1020, 0x11223344, 0x5678ccdd}, {"sh", 1022, 0x11223344, 0xaabb5678},
		{"sw", 1016, 0x92345678, 0xaabbccdd}, {"sw", 1020, 0x11223344, 0x92345678},
	} {
		for _, half := range []int{0, 1020, 1023, -1, -32768} {
			text := fmt.Sprintf("%saddiu $9, $0, %d\n%s $8, %d($9)\nlw $10, 1016($0)\nlw $11, 1020($0)\nbreak", prelude, c.place-half, c.name, half)
			if c.place-half > 32767 {
				text = strings.Replace(text, "addiu $9", "ori $9", 1)
			}
			regs := [32]int{8: 0x92345678, 9: int(uint32(c.place - half)), 10: c.first, 11: c.last}
			checkRun(t, text, ran{"", Break, 12, 48, registersText(regs)})
		}
	}
	for _, line := range []string{"sb $8, 1024($0)", "sb $8, 1025($0)", "sb $8, -1($0)", "sh $8, 1023($0)", "sh $8, 1021($0)", "sh $8, 1024($0)", "sh $8, -1($0)", "sh $8, -2($0)", "sh $8, 1($0)",
		"sw $8, 1021($0)", "sw $8, 1022($0)", "sw $8, 1023($0)", "sw $8, 1024($0)", "sw $8, -1($0)", "sw $8, -4($0)", "sw $8, 1($0)", "sw $8, 2($0)", "sw $8, 3($0)",
		"sb $8, 0($8)", "sh $8, 0($8)", "sw $8, 0($8)", "sw $0, 32764($0)", "sw $0, -32768($0)"} {
		checkRun(t, prelude+line, ran{"", Address, 8, 32, "8:92345678 9:aabbccdd"})
	}
	// register 0, and the places around the whole of 2^32
	checkRun(t, "addiu $8, $0, -1\nsw $8, 512($0)\nsb $0, 513($0)\nlw $9, 512($0)\nbreak", ran{"", Break, 4, 16, "8:ffffffff 9:ff00ffff"})
	checkRun(t, "addiu $8, $0, -4\nsw $8, 516($8)\nlw $9, 512($0)\nbreak", ran{"", Break, 3, 12, "8:fffffffc 9:fffffffc"})
}

func TestJumps(t *testing.T) {
	for _, c := range []struct {
		text string
		want ran
	}{
		// the word behind is done first, and once
		{"j a\naddiu $8, $8, 1\naddiu $9, $9, 1\na: break", ran{"", Break, 2, 12, "8:1"}},
		{"jal a\naddiu $8, $8, 1\naddiu $9, $9, 1\na: break", ran{"", Break, 2, 12, "8:1 31:8"}},
		{"addiu $7, $0, 16\njr $7\naddiu $8, $8, 1\naddiu $9, $9, 1\nbreak", ran{"", Break, 3, 16, "7:10 8:1"}},
		{"addiu $7, $0, 16\njalr $6, $7\naddiu $8, $8, 1\naddiu $9, $9, 1\nbreak", ran{"", Break, 3, 16, "6:c 7:10 8:1"}},
		// to the very word behind: it is done twice
		{"j a\na: addiu $8, $8, 1\nbreak", ran{"", Break, 3, 8, "8:2"}},
		{"beq $0, $0, a\na: addiu $8, $8, 1\nbreak", ran{"", Break, 3, 8, "8:2"}},
		{"bne $0, $0, a\na: addiu $8, $8, 1\nbreak", ran{"", Break, 2, 8, "8:1"}},
		{"addiu $7, $0, 8\njr $7\naddiu $8, $8, 1\nbreak", ran{"", Break, 4, 12, "7:8 8:2"}},
		// behind the word behind, as if none had been
		{"j a\naddiu $8, $8, 1\na: break", ran{"", Break, 2, 8, "8:1"}},
		// and back to the jump itself, till a register says no more
		{"addiu $8, $0, 3\na: bgtz $8, a\naddiu $8, $8, -1\nbreak", ran{"", Break, 9, 12, "8:ffffffff"}},
		// what $s is ahead of the word behind, and ahead of $d
		{"addiu $7, $0, 16\njr $7\naddiu $7, $0, 24\nbreak\nbreak\nbreak\nbreak", ran{"", Break, 3, 16, "7:18"}},
		{"addiu $7, $0, 16\njalr $7, $7\nsll $0, $0, 0\nbreak\nbreak", ran{"", Break, 3, 16, "7:c"}},
		{"addiu $7, $0, 16\njalr $7, $7\naddiu $7, $7, 1\nbreak\nbreak", ran{"", Break, 3, 16, "7:d"}},
		{"addiu $31, $0, 16\njalr $31, $31\nsll $0, $0, 0\nbreak\nbreak", ran{"", Break, 3, 16, "31:c"}},
		// what branches are held against, too
		{"beq $8, $0, a\naddiu $8, $0, 1\nbreak\na: break", ran{"", Break, 2, 12, "8:1"}},
		{"bne $8, $0, a\naddiu $8, $0, 1\nbreak\na: break", ran{"", Break, 2, 8, "8:1"}},
		// the word behind has register 31 already, and may set it anew
		{"jal a\naddu $8, $31, $0\nbreak\na: break", ran{"", Break, 2, 12, "8:8 31:8"}},
		{"jal a\naddiu $31, $0, 5\nbreak\na: break", ran{"", Break, 2, 12, "31:5"}},
		// there and back
		{"jal f\naddiu $4, $0, 7\nbreak\nf: jr $31\naddu $4, $4, $4", ran{"", Break, 4, 8, "4:e 31:8"}},
		{"jal f\nsll $0, $0, 0\njal f\nsll $0, $0, 0\nbreak\nf: jalr $30, $31\naddiu $8, $8, 1\nbreak", ran{"", Break, 8, 16, "8:2 30:1c 31:10"}},
	} {
		checkRun(t, c.text, c.want)
	}
}

// Where jumps go that leave the memory: the word behind is done, then the run
// ends there.
func TestJumpsOutOfMemory(t *testing.T) {
	for _, c := range []struct {
		words     string
		steps, pc int
		registers string
	}{
		{"10007fff 00000000", 2, 4 + 4*32767, ""},
		{"10008000 00000000", 2, 1<<32 + 4 - 4*32768, ""},
		{"1000fffe 00000000", 2, 1<<32 - 4, ""},
		{"00000000 1000fffd 00000000", 3, 1<<32 - 4, ""},
		{"100000fe 00000000", 3, 1024, ""},
		{"100000ff 00000000", 2, 1024, ""},
		{"08000100 00000000", 2, 1024, ""},
		{"080000ff 00000000", 3, 1024, ""},
		{"0bffffff 00000000", 2, 1<<28 - 4, ""},
		{"0a000000 00000000", 2, 1 << 27, ""},
		{"0fffffff 00000000", 2, 1<<28 - 4, "31:8"},
		{"24080001 01000008 00000000", 3, 1, "8:1"},
		{"24080002 01000008 00000000", 3, 2, "8:2"},
		{"24080003 01000008 00000000", 3, 3, "8:3"},
		{"240803fc 01000008 00000000", 4, 1024, "8:3fc"},
		{"240803fd 01000008 00000000", 3, 1021, "8:3fd"},
		{"24080400 01000008 00000000", 3, 1024, "8:400"},
		{"2408ffff 01000008 00000000", 3, 1<<32 - 1, "8:ffffffff"},
		{"2408fffc 01000008 00000000", 3, 1<<32 - 4, "8:fffffffc"},
		{"3c088000 01004809 00000000", 3, 1 << 31, "8:80000000 9:c"},
	} {
		given := image(t, c.words)
		want := ran{"", Address, c.steps, c.pc, c.registers}
		checkState(t, c.words, given, 2000, want)
		checkState(t, c.words, given, c.steps+1, want)
		want.end = Spent
		checkState(t, c.words, given, c.steps, want)
	}
}

// A jump as the last word of the memory: it is done, and no word is behind it.
func TestJumpAsLastWord(t *testing.T) {
	for _, c := range []struct {
		word      uint32
		registers string
	}{{0x1000ffff, ""}, {0x1400ffff, ""}, {0x08000000, ""}, {0x0c000000, " 31:404"}, {0x01000008, ""}, {0x01005009, " 10:404"}} {
		text := setTo(8, c.word) + "sw $8, 1020($0)\naddiu $9, $0, 1020\njr $9\nsll $0, $0, 0"
		checkRun(t, text, ran{"", Address, 7, 1024, fmt.Sprintf("8:%x 9:3fc%s", c.word, c.registers)})
	}
	// as the last but one, with the last word behind it
	checkRun(t, setTo(8, 0x24070001)+"sw $8, 1020($0)\naddiu $9, $0, 1016\n"+setTo(10, 0x0800000a)+"sw $10, 1016($0)\njr $9\nsll $0, $0, 0\nbreak\nbreak",
		ran{"", Break, 11, 40, "7:1 8:24070001 9:3f8 10:800000a"})
}

// The word behind a jump may be the end: then the jump was done, and the run
// stands at the word that ended it.
func TestEndsBehindJumps(t *testing.T) {
	ahead := []struct{ text, registers string }{
		{"j a", ""}, {"jal a", " 31:18"}, {"jr $8", ""}, {"jalr $9, $8", " 9:18"}, {"beq $0, $0, a", ""}, {"bne $0, $0, a", ""},
		{"blez $0, a", ""}, {"blez $8, a", ""}, {"bgtz $8, a", ""}, {"bgtz $0, a", ""}, {"bltz $0, a", ""}, {"bltz $2, a", ""}, {"bgez $0, a", ""}, {"bgez $8, a", ""},
	}
	for _, j := range ahead {
		for _, c := range []struct {
			behind string
			end    int
		}{
			{"break", Break}, {"syscall", Exit}, {".word 0xffffffff", Reserved}, {".word 0x0000004c", Reserved}, {"lw $8, 1($0)", Address}, {"sb $8, 1024($0)", Address}, {"addi $10, $7, 1", Overflow},
			{"j a", Slot}, {"jal a", Slot}, {"jr $8", Slot}, {"jalr $8, $8", Slot}, {"beq $0, $0, a", Slot}, {"bne $0, $0, a", Slot}, {"blez $0, a", Slot}, {"bgtz $0, a", Slot}, {"bltz $0, a", Slot}, {"bgez $0, a", Slot},
		} {
			text := setTo(7, 0x7fffffff) + "addiu $2, $0, 10\naddiu $8, $0, 24\n" + j.text + "\n" + c.behind + "\na: break"
			checkRun(t, text, ran{"", c.end, 5, 20, "2:a 7:7fffffff 8:18" + j.registers})
		}
	}
}

// A jump may come where the word ahead of it, in time, did not jump: where
// another one went, and behind one that was jumped over.
func TestJumpsThatAreNoSlots(t *testing.T) {
	checkRun(t, "j a\nsll $0, $0, 0\na: j b\nsll $0, $0, 0\nb: break", ran{"", Break, 4, 16, ""})
	checkRun(t, "bne $0, $0, a\nsll $0, $0, 0\na: beq $0, $0, b\nsll $0, $0, 0\nb: break", ran{"", Break, 4, 16, ""})
	// backwards
	checkRun(t, "j b\nsll $0, $0, 0\na: break\nb: j a\nsll $0, $0, 0", ran{"", Break, 4, 8, ""})
	// a word that jumps stands ahead of the goal, but was not done
	checkRun(t, "j b\nsll $0, $0, 0\na: j a\nb: j c\nsll $0, $0, 0\nc: break", ran{"", Break, 4, 20, ""})
}

func TestEnds(t *testing.T) {
	for _, c := range []struct {
		text string
		want ran
	}{
		{"break", ran{"", Break, 0, 0, ""}},
		{"sll $0, $0, 0\nbreak", ran{"", Break, 1, 4, ""}},
		{".word 1", ran{"", Reserved, 0, 0, ""}},
		{".word 0xffffffff", ran{"", Reserved, 0, 0, ""}},
		{"sll $0, $0, 0\n.word 0x00200000", ran{"", Reserved, 1, 4, ""}},
		{"lw $8, 2($0)", ran{"", Address, 0, 0, ""}},
		{"addiu $2, $0, 10\nsyscall", ran{"", Exit, 1, 4, "2:a"}},
		{"addiu $2, $0, 10\naddiu $4, $0, 10\nsyscall\nbreak", ran{"", Exit, 2, 8, "2:a 4:a"}},
		{setTo(8, 0x7fffffff) + "addi $8, $8, 1", ran{"", Overflow, 2, 8, "8:7fffffff"}},
		{setTo(8, 0x80000000) + "addi $8, $8, -1", ran{"", Overflow, 2, 8, "8:80000000"}},
	} {
		checkRun(t, c.text, c.want)
	}
	// words that nearly mean something
	for _, word := range []string{"00000001", "00000005", "00200000", "00200002", "00000044", "0000000e", "0000004c", "0001000d", "00010008", "00000808", "00010009",
		"04020000", "04100000", "18010000", "1c1f0000", "3c280000", "40000000", "88000000", "98000000", "a8000000", "b8000000", "c0000000", "fc000000"} {
		checkState(t, word, image(t, word), 9, ran{"", Reserved, 0, 0, ""})
		checkState(t, word, image(t, "24080001"+word), 9, ran{"", Reserved, 1, 4, "8:1"})
	}
}

func TestWriting(t *testing.T) {
	for _, c := range []struct {
		number uint32
		want   string
	}{{0, "0\n"}, {1, "1\n"}, {0xffffffff, "-1\n"}, {0x7fffffff, "2147483647\n"}, {0x80000000, "-2147483648\n"}, {0x80000001, "-2147483647\n"}, {1000000, "1000000\n"}} {
		regs := registersText([32]int{2: 1, 4: int(c.number)})
		checkRun(t, setTo(4, c.number)+"addiu $2, $0, 1\nsyscall\nbreak", ran{c.want, Break, 4, 16, regs})
		checkRun(t, setTo(4, c.number)+"addiu $2, $0, 1\nsyscall\nsyscall\nbreak", ran{c.want + c.want, Break, 5, 20, regs})
	}
	// all but 1 and 10 in register 2 write nothing, and end nothing
	for _, call := range []uint32{0, 2, 4, 5, 9, 11, 12, 0xffffffff, 0x80000001, 0x8000000a, 0x10001, 0x1000a, 257, 266, 65537, 65546} {
		regs := registersText([32]int{2: int(call), 4: 7})
		checkRun(t, setTo(2, call)+"addiu $4, $0, 7\nsyscall\nbreak", ran{"", Break, 4, 16, regs})
	}
	// what is written as long as there is fuel
	text := "lui $4, 0x8000\naddiu $2, $0, 1\na: beq $0, $0, a\nsyscall"
	checkFueled(t, text, 2000, ran{strings.Repeat("-2147483648\n", 999), Spent, 2000, 8, "2:1 4:80000000"})
	checkFueled(t, text, 1999, ran{strings.Repeat("-2147483648\n", 998), Spent, 1999, 12, "2:1 4:80000000"})
	checkFueled(t, text, 3, ran{"", Spent, 3, 12, "2:1 4:80000000"})
}

func TestImagesThatWriteOverThemselves(t *testing.T) {
	for _, c := range []struct {
		text string
		want ran
	}{
		// the next word
		{"lw $8, 12($0)\nsw $8, 8($0)\nbreak\naddiu $9, $0, 3\nbreak", ran{"", Break, 4, 16, "8:24090003 9:3"}},
		// the word behind a jump, by the word ahead of the jump
		{"lw $8, 20($0)\nsw $8, 12($0)\nj a\nbreak\na: break\naddiu $9, $0, 3", ran{"", Break, 4, 16, "8:24090003 9:3"}},
		// where a jump goes, by the word behind it
		{"lw $8, 16($0)\nj a\nsw $8, 12($0)\na: break\naddiu $9, $0, 3\nbreak", ran{"", Break, 5, 20, "8:24090003 9:3"}},
		// a jump that is no more is one that was
		{"lw $8, 16($0)\nj a\nsw $8, 4($0)\na: break\naddiu $9, $0, 3\nbreak", ran{"", Break, 3, 12, "8:24090003"}},
		// itself, which is done already
		{"addiu $8, $0, -1\nsw $8, 4($0)\nlw $9, 4($0)\nbreak", ran{"", Break, 3, 12, "8:ffffffff 9:ffffffff"}},
		// one byte: addiu $9, $0, 3 to addiu $9, $0, 7
		{"addiu $8, $0, 7\nsb $8, 11($0)\naddiu $9, $0, 3\nbreak", ran{"", Break, 3, 12, "8:7 9:7"}},
		// behind the image
		{"lw $8, 20($0)\nsw $8, 1020($0)\naddiu $9, $0, 1020\njr $9\nsll $0, $0, 0\naddiu $10, $0, 3", ran{"", Address, 6, 1024, "8:240a0003 9:3fc 10:3"}},
		// to a word that means nothing
		{"addiu $8, $0, -1\nsw $8, 8($0)\nbreak", ran{"", Reserved, 2, 8, "8:ffffffff"}},
	} {
		checkRun(t, c.text, c.want)
	}
}

// An image stands from 0 on, behind it zeros, which are words that do nothing.
func TestImagesInMemory(t *testing.T) {
	checkState(t, "", "", 0, ran{"", Spent, 0, 0, ""})
	checkState(t, "", "", 1, ran{"", Spent, 1, 4, ""})
	checkState(t, "", "", 255, ran{"", Spent, 255, 1020, ""})
	checkState(t, "", "", 256, ran{"", Spent, 256, 1024, ""})
	checkState(t, "", "", 257, ran{"", Address, 256, 1024, ""})
	checkState(t, "", "", 2000, ran{"", Address, 256, 1024, ""})
	full := strings.Repeat("\x00\x00\x00\x00", 63) + "\x24\x08\x00\x05"
	checkState(t, "a full image", full, 63, ran{"", Spent, 63, 252, ""})
	checkState(t, "a full image", full, 64, ran{"", Spent, 64, 256, "8:5"})
	checkState(t, "a full image", full, 2000, ran{"", Address, 256, 1024, "8:5"})
	// no multiple of 4: the rest of the last word is zeros
	for _, c := range []struct {
		image string
		want  ran
	}{
		{"\x24", ran{"", Address, 256, 1024, ""}},
		{"\x24\x08", ran{"", Address, 256, 1024, ""}},
		{"\x24\x08\x01", ran{"", Address, 256, 1024, "8:100"}},
		{"\x3c", ran{"", Address, 256, 1024, ""}},
		{"\xff", ran{"", Reserved, 0, 0, ""}},
		{"abc", ran{"", Reserved, 0, 0, ""}},
		{"\x24\x08\x01\x02\x24\x09\x03", ran{"", Address, 256, 1024, "8:102 9:300"}},
		{full[:255], ran{"", Address, 256, 1024, ""}},
		{full[:255] + "\x06", ran{"", Address, 256, 1024, "8:6"}},
	} {
		checkState(t, fmt.Sprintf("%x", c.image), c.image, 2000, c.want)
	}
	// all bytes of an image, read by it
	checkRun(t, "lw $8, 16($0)\nlbu $9, 16($0)\nlbu $10, 19($0)\nbreak\n.word 0x01020304", ran{"", Break, 3, 12, "8:1020304 9:1 10:4"})
}

func TestFuel(t *testing.T) {
	const forever = "a: j a\naddiu $8, $8, 1"
	for _, fuel := range []int{0, 1, 2, 3, 4, 5, 1000, 1998, 1999, 2000} {
		checkFueled(t, forever, fuel, ran{"", Spent, fuel, 4 * (fuel % 2), registersText([32]int{8: fuel / 2})})
	}
}

func TestRefusedRuns(t *testing.T) {
	for _, c := range []struct {
		size, fuel int
		want       Errno
	}{
		{0, -1, ErrArg}, {0, 2001, ErrArg}, {0, 1<<63 - 1, ErrArg}, {0, -1 << 63, ErrArg}, {4, -1, ErrArg}, {256, 2001, ErrArg}, {3, -2000, ErrArg}, {0, 1 << 32, ErrArg}, {0, 1<<32 + 5, ErrArg},
		{257, 0, ErrLong}, {257, 2000, ErrLong}, {260, 5, ErrLong}, {1 << 20, 5, ErrLong},
		{257, -1, ErrLong}, {257, 2001, ErrLong}, {1024, -1 << 63, ErrLong}, {1025, 1<<63 - 1, ErrLong},
	} {
		for _, piece := range []string{"\x00", "\xff", "\x24"} {
			if s, errno := Run(strings.Repeat(piece, c.size), c.fuel); errno != c.want || s != (State{}) {
				t.Errorf("P7: Run of %d bytes, %d = %+v, %d, want %d", c.size, c.fuel, s, errno, c.want)
			}
		}
	}
}

// P2: what one run writes, sets or stores is not kept for another.
func TestNoRunIsKept(t *testing.T) {
	type asked struct {
		image string
		fuel  int
	}
	type answer struct {
		state State
		errno Errno
	}
	overItself := assembled(t, "lw $8, 12($0)\nsw $8, 8($0)\nbreak\naddiu $9, $9, 3\nsw $9, 600($0)\nsyscall")
	reader := assembled(t, "lw $9, 600($0)\nlw $8, 1020($0)\nbreak")
	all := []asked{{assembled(t, example), 2000}, {assembled(t, example), 9}, {overItself, 2000}, {reader, 2000}, {"", 2000}, {"", 2001}, {"abc", 3}, {strings.Repeat("\x00", 257), 0}, {strings.Repeat("\xff", 256), 5}}
	first := map[asked]answer{}
	for _, a := range all {
		s, errno := Run(a.image, a.fuel)
		first[a] = answer{s, errno}
	}
	var group sync.WaitGroup
	for offset := range 8 {
		group.Go(func() {
			for i := range 10 * len(all) {
				a := all[(i*(2*offset+1)+offset)%len(all)]
				Asm(example)
				Disasm(a.image, 0)
				if s, errno := Run(a.image, a.fuel); (answer{s, errno}) != first[a] {
					t.Errorf("P2: Run(%x, %d) answers %+v, then %+v, %d", a.image, a.fuel, first[a], s, errno)
				}
			}
		})
	}
	group.Wait()
}
