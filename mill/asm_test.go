package mill

import (
	"fmt"
	"math/rand"
	"strings"
	"sync"
	"testing"
)

const example = "\taddiu $4, $0, 6\n" +
	"again: addiu $4, $4, -1\n" +
	"\taddiu $2, $0, 1\n" +
	"\tsyscall\n" +
	"\tbgtz $4, again\n" +
	"\taddiu $2, $0, 10\n" +
	"\tsyscall # the end\n"

const exampleImage = "24040006" + "2484ffff" + "24020001" + "0000000c" + "1c80fffc" + "2402000a" + "0000000c"

func check(t *testing.T, text, wantImage string, wantErrno Errno, wantLine int) {
	t.Helper()
	image, errno, line := Asm(text)
	if got := fmt.Sprintf("%x", image); got != wantImage || errno != wantErrno || line != wantLine {
		t.Errorf("P6: Asm(%q) = %s, %d, %d, want %s, %d, %d", text, got, errno, line, wantImage, wantErrno, wantLine)
	}
}

func checkWords(t *testing.T, text, want string) {
	t.Helper()
	check(t, text, want, OK, 0)
}

func checkRefused(t *testing.T, text string, errno Errno, line int) {
	t.Helper()
	check(t, text, "", errno, line)
}

func TestExample(t *testing.T) {
	checkWords(t, example, exampleImage)
	checkWords(t, strings.TrimSuffix(example, "\n"), exampleImage)
}

func TestEveryInstruction(t *testing.T) {
	for _, c := range []struct{ text, want string }{
		{"add $1, $2, $3", "00430820"}, {"add $31, $0, $0", "0000f820"}, {"add $0, $31, $0", "03e00020"}, {"add $0, $0, $31", "001f0020"},
		{"addu $1, $2, $3", "00430821"}, {"sub $1, $2, $3", "00430822"}, {"subu $1, $2, $3", "00430823"},
		{"and $1, $2, $3", "00430824"}, {"or $1, $2, $3", "00430825"}, {"xor $1, $2, $3", "00430826"},
		{"nor $1, $2, $3", "00430827"}, {"slt $1, $2, $3", "0043082a"}, {"sltu $1, $2, $3", "0043082b"},
		{"sll $0, $0, 0", "00000000"}, {"sll $1, $2, 3", "000208c0"}, {"srl $1, $2, 3", "000208c2"}, {"sra $31, $31, 31", "001fffc3"},
		{"sllv $1, $2, $3", "00620804"}, {"srlv $1, $2, $3", "00620806"}, {"srav $1, $2, $3", "00620807"},
		{"jr $31", "03e00008"}, {"jalr $31, $2", "0040f809"}, {"jalr $2, $31", "03e01009"},
		{"syscall", "0000000c"}, {"break", "0000000d"},
		{"addi $1, $2, -3", "2041fffd"}, {"addiu $1, $2, 3", "24410003"}, {"slti $1, $2, -3", "2841fffd"}, {"sltiu $1, $2, -3", "2c41fffd"},
		{"andi $1, $2, 3", "30410003"}, {"ori $1, $2, 3", "34410003"}, {"xori $1, $2, 3", "38410003"}, {"lui $31, 3", "3c1f0003"},
		{"lb $1, -4($2)", "8041fffc"}, {"lh $1, -4($2)", "8441fffc"}, {"lw $8, -4($29)", "8fa8fffc"}, {"lbu $1, -4($2)", "9041fffc"},
		{"lhu $1, -4($2)", "9441fffc"}, {"sb $1, 4($2)", "a0410004"}, {"sh $1, 4($2)", "a4410004"}, {"sw $1, 4($2)", "ac410004"},
		{"a: beq $1, $2, a", "1022ffff"}, {"a: bne $1, $2, a", "1422ffff"}, {"a: blez $1, a", "1820ffff"},
		{"a: bgtz $1, a", "1c20ffff"}, {"a: bltz $1, a", "0420ffff"}, {"a: bgez $1, a", "0421ffff"},
		{"j a\na:", "08000001"}, {"jal a\na:", "0c000001"},
		{".word 0x12345678", "12345678"}, {".word 12345678", "00bc614e"},
	} {
		checkWords(t, c.text, c.want)
		checkWords(t, c.text+"\n", c.want)
	}
}

// Each row of the table at the ends of its operands' ranges, against the
// table as the tests have it.
func TestEveryRowAtItsEnds(t *testing.T) {
	for _, r := range rows {
		for low := range 2 {
			texts := []string{}
			want := r.bare
			for _, o := range r.operands {
				number := letterRange[o][low]
				switch {
				case strings.ContainsRune("dst", o):
					texts = append(texts, fmt.Sprintf("$%d", 31*low))
					want |= uint32(31*low) << letterShift[o]
				case o == 'm':
					texts = append(texts, fmt.Sprintf("%d($%d)", number, 31*low))
					want |= uint32(31*low)<<21 | uint32(number)&0xffff
				case o == 'b' || o == 'p':
					texts = append(texts, "z")
				default:
					texts = append(texts, fmt.Sprint(number))
					want |= uint32(number) & 0xffff << letterShift[o]
				}
			}
			if strings.Contains(r.operands, "p") {
				want |= 1
			}
			checkWords(t, r.name+" "+strings.Join(texts, ",")+"\nz:", fmt.Sprintf("%08x", want))
		}
	}
}

func TestNumbersOfOperands(t *testing.T) {
	for _, r := range rows {
		full := []string{}
		for _, o := range r.operands {
			switch {
			case strings.ContainsRune("dst", o):
				full = append(full, "$1")
			case o == 'm':
				full = append(full, "1($1)")
			case o == 'b' || o == 'p':
				full = append(full, "a")
			default:
				full = append(full, "1")
			}
		}
		checkRefused(t, "a:"+r.name+" "+strings.Join(append(full, "$1"), ","), ErrForm, 1)
		checkRefused(t, "a:"+r.name+" "+strings.Join(full, ",")+",", ErrForm, 1)
		if len(full) > 0 {
			checkRefused(t, "a:"+r.name+" "+strings.Join(full[1:], ","), ErrForm, 1)
			checkRefused(t, "a:"+r.name, ErrForm, 1)
			checkRefused(t, "a:"+r.name+" ,"+strings.Join(full, ","), ErrForm, 1)
		}
		for i := range full {
			for _, wrong := range []string{"", "x(", "$32", "9a", "1()", "1 1", "$1 $1", "a a", "(1)", "*"} {
				changed := append(append(append([]string{}, full[:i]...), wrong), full[i+1:]...)
				checkRefused(t, "a:"+r.name+" "+strings.Join(changed, ","), ErrForm, 1)
			}
		}
	}
}

func TestLines(t *testing.T) {
	for _, c := range []struct{ text, want string }{
		{"", ""}, {"\n", ""}, {"\n\n\n", ""}, {" \t ", ""}, {"#", ""}, {"# a: a: * \r\x00\xff", ""}, {"a:#", ""},
		{"syscall", "0000000c"}, {"syscall\n", "0000000c"}, {"\nsyscall", "0000000c"}, {"syscall\n\nbreak", "0000000c0000000d"},
		{"syscall#break", "0000000c"}, {"syscall # # \nbreak", "0000000c0000000d"}, {"#syscall\nbreak", "0000000d"},
		{"jr $1#, $2", "00200008"}, {"a:\nb:\nc: j b", "08000000"}, {"add: j add", "08000000"},
	} {
		checkWords(t, c.text, c.want)
	}
	for _, text := range []string{"syscall break", "syscall;", "syscall\r", "\rsyscall", "\r", "\x00", "\v", "\f", "\u00a0", "\xff",
		"syscall\x00", "syscall,", "syscall ,", ",", "$1", "1", "nop", "Syscall", "SYSCALL", "sys call", "syscal", "syscalls", "word 1", ".WORD 1", ". word 1",
		".word1", "jr$1", "jr,$1", "j,a", "a j a", "// x", "; x"} {
		checkRefused(t, text, ErrForm, 1)
		checkRefused(t, "\n\n"+text+"\n\n", ErrForm, 3)
	}
}

func TestBlanks(t *testing.T) {
	for _, c := range []struct{ text, want string }{
		{"add $1,$2,$3", "00430820"}, {" \tadd \t$1 \t, \t$2 \t, \t$3 \t", "00430820"}, {"add\t$1,$2,$3\t#", "00430820"},
		{"a:syscall", "0000000c"}, {" \ta \t: \tsyscall \t", "0000000c"}, {"\ta\t:\t", ""},
		{"lw $1,4($2)", "8c410004"}, {"lw $1 , \t-4 \t( \t$2 \t) \t#", "8c41fffc"},
		{"a:beq $1 , $2 , a ", "1022ffff"}, {"a: j \t a \t", "08000000"}, {".word \t-1 \t", "ffffffff"},
	} {
		checkWords(t, c.text, c.want)
	}
	for _, text := range []string{"jr $ 1", "jr $1 1", "a b: syscall", ".word - 1", ".word 1 1", ".word 0 x1", ".word 0x 1", ". word 1",
		"lw $1, - 4($2)", "lw $1, 4($ 2)", "lw $1, 4 4($2)", "lw $1, 4($2 2)", "a: j a a", "jr\n$1", "jr\v$1", "jr\r$1", "a\u00a0: syscall"} {
		checkRefused(t, text, ErrForm, 1)
	}
}

func TestLabels(t *testing.T) {
	for _, label := range []string{"a", "z", "A", "Z", "a0", "Z9", "aBcDeFgH", "a1234567"} {
		checkWords(t, label+": j "+label, "08000000")
	}
	for _, label := range []string{"", "0", "9a", "a_", "_a", "a.b", "a-b", "$1", "@", "[", "`", "{", "a/", "a@", "a[", "\xe4", "ä", "a23456789"} {
		checkRefused(t, label+": syscall", ErrForm, 1)
		checkRefused(t, "j "+label, ErrForm, 1)
	}
	checkRefused(t, "a: a: syscall", ErrForm, 1)
	checkRefused(t, "a:: syscall", ErrForm, 1)
	checkRefused(t, "j a:", ErrForm, 1)
	checkRefused(t, "a: j a: b", ErrForm, 1)
	checkRefused(t, "a: j A", ErrName, 1)
	checkWords(t, "a:\nA: syscall", "0000000c")
}

func TestLabelsStandForPlaces(t *testing.T) {
	checkWords(t, "b: beq $0, $0, b\nbeq $0, $0, e\nsyscall\ne:", "1000ffff"+"10000001"+"0000000c")
	checkWords(t, "j e\na: j a\nb:\nc: jal b\nd: j c\ne: # behind the last", "08000004"+"08000001"+"0c000002"+"08000002")
	long := strings.Repeat("syscall\n", 62)
	calls := strings.Repeat("0000000c", 62)
	checkWords(t, "a: bgez $1, z\n"+long+"bltz $1, a\nz:", "0421003f"+calls+"0420ffc0")
	checkWords(t, "a: j z\n"+long+"j a\nz:", "08000040"+calls+"08000000")
}

func TestRegisters(t *testing.T) {
	for n := range 32 {
		checkWords(t, fmt.Sprintf("jr $%d", n), fmt.Sprintf("%08x", n<<21|8))
	}
	for _, register := range []string{"$32", "$99", "$00", "$03", "$031", "$-1", "$-0", "$+1", "$", "1", "$0x1", "$1$", "$$1", "$a", "$1_0", "$4294967297", "$18446744073709551617", "zero", "$zero"} {
		checkRefused(t, "jr "+register, ErrForm, 1)
		checkRefused(t, "add $1, "+register+", $2", ErrForm, 1)
		checkRefused(t, "lw $1, 4("+register+")", ErrForm, 1)
	}
}

func TestNumbers(t *testing.T) {
	for _, c := range []struct{ number, want string }{
		{"0", "00000000"}, {"-0", "00000000"}, {"0x0", "00000000"}, {"-0x0", "00000000"}, {"00000007", "00000007"}, {"0x00000007", "00000007"},
		{"1", "00000001"}, {"-1", "ffffffff"}, {"99999999", "05f5e0ff"}, {"-99999999", "fa0a1f01"}, {"010", "0000000a"},
		{"0x89abcdef", "89abcdef"}, {"0xffffffff", "ffffffff"}, {"0x80000000", "80000000"}, {"-0x80000000", "80000000"}, {"-0x7fffffff", "80000001"},
	} {
		checkWords(t, ".word "+c.number, c.want)
	}
	for _, number := range []string{"", "-", "--1", "+1", "0x", "-0x", "0X1", "0xA", "0xg", "x1", "1x", "a", "1a", "0b1", "1_0", "1.0", "1e1",
		"123456789", "000000000", "0x123456789", "0x000000000", "-123456789", "0x-1", "'a'", "$1", "0x1h", "1/", "1:", "0x1`"} {
		checkRefused(t, ".word "+number, ErrForm, 1)
		checkRefused(t, "ori $1, $2, "+number, ErrForm, 1)
		checkRefused(t, "lw $1, "+number+"($2)", ErrForm, 1)
	}
	checkRefused(t, ".word -0x80000001", ErrRange, 1)
	checkRefused(t, ".word -0xffffffff", ErrRange, 1)
	checkRefused(t, ".word a", ErrForm, 1)
	checkRefused(t, "a: .word a", ErrForm, 1)
}

func TestRanges(t *testing.T) {
	for _, c := range []struct{ ahead, behind, least, most, below, above string }{
		{"sll $1, $2, ", "", "0", "31", "-1", "32"},
		{"srl $1, $2, ", "", "-0", "0x1f", "-0x1", "0x20"},
		{"sra $1, $2, ", "", "0", "31", "-99999999", "99999999"},
		{"addi $1, $2, ", "", "-32768", "32767", "-32769", "32768"},
		{"addiu $1, $2, ", "", "-0x8000", "0x7fff", "-0x8001", "0xffff"},
		{"slti $1, $2, ", "", "-32768", "32767", "-32769", "32768"},
		{"sltiu $1, $2, ", "", "-32768", "32767", "-32769", "65535"},
		{"andi $1, $2, ", "", "0", "65535", "-1", "65536"},
		{"ori $1, $2, ", "", "0", "0xffff", "-1", "0x10000"},
		{"xori $1, $2, ", "", "0", "65535", "-32768", "0xffffffff"},
		{"lui $1, ", "", "0", "65535", "-1", "65536"},
		{"lb $1, ", "($2)", "-32768", "32767", "-32769", "32768"},
		{"lhu $1, ", "($2)", "-32768", "32767", "-32769", "32768"},
		{"sw $1, ", "($2)", "-32768", "32767", "-32769", "65535"},
	} {
		for _, number := range []string{c.least, c.most} {
			if _, errno, line := Asm(c.ahead + number + c.behind); errno != OK || line != 0 {
				t.Errorf("P6: Asm(%q) refuses: %d, %d", c.ahead+number+c.behind, errno, line)
			}
		}
		checkRefused(t, c.ahead+c.below+c.behind, ErrRange, 1)
		checkRefused(t, "\n"+c.ahead+c.above+c.behind, ErrRange, 2)
	}
}

func TestBrackets(t *testing.T) {
	for _, operand := range []string{"4", "$2", "($2)", "4($2", "4$2)", "4()", "4(2)", "(4)$2", "4($2))", "4(($2))", "4($2)4", "4($2) ($2)", "4[$2]", "a($2)", "4)$2("} {
		checkRefused(t, "lw $1, "+operand, ErrForm, 1)
	}
	checkRefused(t, "add $1, $2, 4($3)", ErrForm, 1)
	checkRefused(t, "addi $1, 4($3)", ErrForm, 1)
}

func TestFirstError(t *testing.T) {
	calls := strings.Repeat("syscall\n", 64)
	for _, c := range []struct {
		text  string
		errno Errno
		line  int
	}{
		// in one line: form, twice, range, many
		{"a:\na: addi $1, $2", ErrForm, 2},
		{"a:\na: addi $1, $2, 99999", ErrTwice, 2},
		{"lw $1, 40000(x)", ErrForm, 1},
		{"lw $32, 40000($1)", ErrForm, 1},
		{"sll $1, $2, 32, 1", ErrForm, 1},
		{calls + "*", ErrForm, 65},
		{"a:" + calls + "a: syscall", ErrTwice, 65},
		{calls + "addi $1, $2, 99999", ErrRange, 65},
		{"a:" + calls + "a: addi $1, $2, 99999", ErrTwice, 65},
		{calls + "j nowhere", ErrMany, 65},
		// of several lines, the first
		{"addi $1, $2, 99999\n*", ErrRange, 1},
		{"*\naddi $1, $2, 99999", ErrForm, 1},
		{"a:\na:\n*", ErrTwice, 2},
		{"a:\nsll $1, $2, 32\na:", ErrRange, 2},
		{calls + "syscall\n*", ErrMany, 65},
		{"a:\na:\na:", ErrTwice, 2},
		{"a: b: c:\n*", ErrForm, 1},
		// names behind all of these
		{"j b\n*", ErrForm, 2},
		{"j b\na:\na:", ErrTwice, 3},
		{"j b\nsll $1, $2, 32", ErrRange, 2},
		{"j b\n" + calls, ErrMany, 65},
		{"j b\nj c", ErrName, 1},
		{"j a\n\nbeq $1, $2, b\nj c\na:", ErrName, 3},
		{"a: blez $1, b # b:", ErrName, 1},
	} {
		checkRefused(t, c.text, c.errno, c.line)
	}
}

func TestMany(t *testing.T) {
	calls := strings.Repeat("syscall\n", 64)
	words := strings.Repeat("0000000c", 64)
	checkWords(t, calls, words)
	checkWords(t, calls+"\n# none\n \na:\nb:\n", words)
	checkWords(t, strings.Repeat("\n", 100)+calls, words)
	checkRefused(t, calls+"syscall", ErrMany, 65)
	checkRefused(t, calls+"\n\n.word 1\nsyscall", ErrMany, 67)
	checkRefused(t, calls+"a: syscall", ErrMany, 65)
}

func TestLong(t *testing.T) {
	for _, piece := range []string{"\n", "#", " ", "\t"} {
		checkWords(t, strings.Repeat(piece, 2000), "")
		checkRefused(t, strings.Repeat(piece, 2001), ErrLong, 0)
	}
	checkWords(t, strings.Repeat("\n", 1993)+"syscall", "0000000c")
	checkRefused(t, strings.Repeat("*", 2000), ErrForm, 1)
	checkRefused(t, strings.Repeat("\n", 1999)+"*", ErrForm, 2000)
	for _, text := range []string{"*", "a:\na:\n", "syscall\n", "sll $1, $2, 32\n", "j b\n"} {
		checkRefused(t, strings.Repeat(text, 2001), ErrLong, 0)
	}
	checkRefused(t, strings.Repeat("*", 1<<26), ErrLong, 0)
}

// P2: labels, words and lines of one call are not those of another.
func TestNothingIsKept(t *testing.T) {
	texts := []string{"a: j a", "j a", example, "b: syscall", "*", strings.Repeat("syscall\n", 64), "j b", "again:", ""}
	type answer struct {
		image string
		errno Errno
		line  int
	}
	first := make([]answer, len(texts))
	for i, text := range texts {
		first[i].image, first[i].errno, first[i].line = Asm(text)
	}
	var group sync.WaitGroup
	for offset := range 8 {
		group.Go(func() {
			for i := range 10 * len(texts) {
				at := (i*(offset+1) + offset) % len(texts)
				image, errno, line := Asm(texts[at])
				if (answer{image, errno, line}) != first[at] {
					t.Errorf("P2: Asm(%q) answers %x, %d, %d, then %v", texts[at], image, errno, line, first[at])
				}
			}
		})
	}
	group.Wait()
}

// P3: the highest byte first, and no word out of its order.
func TestBytesOfAnImage(t *testing.T) {
	image, _, _ := Asm(".word 0x01020304\n.word 0x05060708\n\n.word 0xfcfdfeff")
	if image != "\x01\x02\x03\x04\x05\x06\x07\x08\xfc\xfd\xfe\xff" {
		t.Errorf("P3: the bytes are %x", image)
	}
}

// P4: the words that Asm makes mean the instructions that it was told.
func TestWordsMeanWhatWasTold(t *testing.T) {
	for _, r := range rows {
		operands := []string{}
		for _, o := range r.operands {
			operands = append(operands, map[rune]string{'d': "$21", 's': "$10", 't': "$31", 'n': "17", 'i': "-2", 'u': "43690", 'm': "-2($10)", 'b': "a", 'p': "a"}[o])
		}
		text := "a: " + r.name + " " + strings.Join(operands, ", ")
		image, errno, _ := Asm(text)
		if errno != OK || len(image) != 4 {
			t.Fatalf("P4: Asm(%q) = %x, %d", text, image, errno)
		}
		word := uint32(image[0])<<24 | uint32(image[1])<<16 | uint32(image[2])<<8 | uint32(image[3])
		if in, means := meaning(word); !means || in.name != r.name {
			t.Errorf("P4: Asm(%q) = %x, which means %q, %v", text, image, in.name, means)
		}
	}
}

// P1: the other calls, too, end without a panic.
func TestNoCallPanics(t *testing.T) {
	for _, image := range []string{"", "\x00", "\x00\x00\x00\x0c", "\xff\xff\xff\xff", strings.Repeat("\x00", 256), strings.Repeat("\xff", 257)} {
		for _, number := range []int{0, 1, 4, -1, -4, 256, 2000, 2001, 1<<63 - 1, -1 << 63} {
			Disasm(image, number)
			Run(image, number)
		}
	}
}

var pieces = []string{"a", "b", "again", "abcdefgh", "abcdefghi", ":", ":", ": ", " ", " ", "\t", "\n", "\n", "\n", ",", ", ", ", ", "#", "(", ")", "($1)",
	"$", "$0", "$1", "$31", "$32", "$03", "-", "0", "1", "31", "32", "-1", "0x", "0xf", "0xffff", "65536", "-32768", "32768", "99999999", "999999999",
	"a:", "b:", "j a\n", "j b\n", "beq $1, $2, a\n", "bltz $1, b\n", "syscall\n", ".word ", ".word 1\n", "lw $1, ", "\r", "\x00", "\xff"}

func randomText(random *rand.Rand) string {
	var text strings.Builder
	for range random.Intn(12) {
		if random.Intn(3) == 0 {
			text.WriteString(rows[random.Intn(len(rows))].name + " ")
		} else {
			text.WriteString(pieces[random.Intn(len(pieces))])
		}
	}
	return text.String()
}

// randomLines have the form of lines, nearly always, so that what comes
// behind form is come to as well.
func randomLines(random *rand.Rand) string {
	var text strings.Builder
	pick := func(from ...string) string { return from[random.Intn(len(from))] }
	blank := func() string { return pick("", "", " ", "\t", " \t ") }
	number := func() string {
		return pick("0", "1", "-1", "31", "0x1f", "-0", pick("32", "32767", "-32768", "0x7fff", pick("32768", "65535", "65536", "-32769", "0xffffffff", "-0x80000000", "-0x80000001")))
	}
	label := func() string { return pick("a", "b", "c", "D", "e9", "abcdefgh", fmt.Sprint("x", random.Intn(1000))) }
	for range random.Intn(90) {
		if random.Intn(8) == 0 {
			text.WriteString(blank() + label() + blank() + ":")
		}
		r := wordRow
		if random.Intn(10) > 0 {
			r = rows[random.Intn(len(rows))]
		}
		text.WriteString(blank() + r.name + pick(" ", "\t"))
		for i, o := range r.operands {
			if i > 0 {
				text.WriteString(blank() + ",")
			}
			text.WriteString(blank())
			switch {
			case strings.ContainsRune("dst", o):
				text.WriteString(fmt.Sprint("$", random.Intn(32)))
			case strings.ContainsRune("bp", o):
				text.WriteString(pick("a", "b", label()))
			case o == 'm':
				text.WriteString(number() + blank() + "(" + blank() + fmt.Sprint("$", random.Intn(32)) + blank() + ")")
			default:
				text.WriteString(number())
			}
		}
		text.WriteString(blank() + pick("", "", "", "# x, y: (") + "\n" + pick("", "", "", "\n"))
	}
	return text.String()
}

func compare(t *testing.T, ref reference, text string) Errno {
	t.Helper()
	image, errno, line := Asm(text)
	wantImage, wantErrno, wantLine := ref.asm(text)
	if image != wantImage || errno != wantErrno || line != wantLine {
		t.Fatalf("P6: Asm(%q) = %x, %d, %d, want %x, %d, %d", text, image, errno, line, wantImage, wantErrno, wantLine)
	}
	return errno
}

// P1 and P6: texts of all kinds, against the reference.
func TestAgainstReference(t *testing.T) {
	ref := newReference()
	random := rand.New(rand.NewSource(1))
	seen := map[Errno]int{}
	for range 4000 {
		seen[compare(t, ref, randomText(random))]++
	}
	for range 1500 {
		seen[compare(t, ref, randomLines(random))]++
	}
	for _, errno := range []Errno{OK, ErrLong, ErrForm, ErrRange, ErrTwice, ErrMany, ErrName} {
		if seen[errno] == 0 {
			t.Errorf("no text was answered with %d", errno)
		}
	}
	t.Log(seen)
}

func FuzzAsm(f *testing.F) {
	f.Add(example)
	for _, text := range pieces {
		f.Add(text)
	}
	ref := newReference()
	f.Fuzz(func(t *testing.T, text string) { compare(t, ref, text) })
}
