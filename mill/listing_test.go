package mill

import (
	"encoding/binary"
	"encoding/hex"
	"fmt"
	"math/rand"
	"strings"
	"sync"
	"testing"
)

// image is that of words in base 16; blanks between them are for the eye.
func image(t testing.TB, words string) string {
	t.Helper()
	bytes, err := hex.DecodeString(strings.ReplaceAll(words, " ", ""))
	if err != nil {
		t.Fatal(err)
	}
	return string(bytes)
}

func checkListing(t *testing.T, words string, entry int, want string) {
	t.Helper()
	given := image(t, words)
	if got, errno := Disasm(given, entry); got != want || errno != OK {
		t.Errorf("P5: Disasm(%s, %d) = %q, %d, want %q", words, entry, got, errno, want)
	}
	checkBack(t, given, entry)
}

// checkBack: a listing, put together, is the image again.
func checkBack(t *testing.T, given string, entry int) {
	t.Helper()
	listing, errno := Disasm(given, entry)
	back, asmErrno, line := Asm(listing)
	if errno != OK || back != given || asmErrno != OK || line != 0 {
		t.Fatalf("P5: %x, from %d, is listed as %q, %d, and put together to %x, %d, %d", given, entry, listing, errno, back, asmErrno, line)
	}
}

func TestListedExample(t *testing.T) {
	checkListing(t, exampleImage, 0, "\taddiu $4, $0, 6\n"+
		"L4:\n\taddiu $4, $4, -1\n"+
		"\taddiu $2, $0, 1\n"+
		"\tsyscall\n"+
		"\tbgtz $4, L4\n"+
		"\taddiu $2, $0, 10\n"+
		"\tsyscall\n")
}

func TestEveryInstructionListed(t *testing.T) {
	seen := map[string]bool{}
	for _, c := range []struct{ word, want string }{
		{"00430820", "add $1, $2, $3"}, {"0000f820", "add $31, $0, $0"}, {"03e00020", "add $0, $31, $0"}, {"001f0020", "add $0, $0, $31"},
		{"00430821", "addu $1, $2, $3"}, {"00430822", "sub $1, $2, $3"}, {"00430823", "subu $1, $2, $3"},
		{"00430824", "and $1, $2, $3"}, {"00430825", "or $1, $2, $3"}, {"00430826", "xor $1, $2, $3"},
		{"00430827", "nor $1, $2, $3"}, {"0043082a", "slt $1, $2, $3"}, {"0043082b", "sltu $1, $2, $3"},
		{"00000000", "sll $0, $0, 0"}, {"000208c0", "sll $1, $2, 3"}, {"000208c2", "srl $1, $2, 3"}, {"001fffc3", "sra $31, $31, 31"},
		{"00620804", "sllv $1, $2, $3"}, {"00620806", "srlv $1, $2, $3"}, {"00620807", "srav $1, $2, $3"},
		{"03e00008", "jr $31"}, {"0040f809", "jalr $31, $2"}, {"03e01009", "jalr $2, $31"},
		{"0000000c", "syscall"}, {"0000000d", "break"},
		{"2041fffd", "addi $1, $2, -3"}, {"24410003", "addiu $1, $2, 3"}, {"24417fff", "addiu $1, $2, 32767"}, {"24418000", "addiu $1, $2, -32768"},
		{"2841ffff", "slti $1, $2, -1"}, {"2c410000", "sltiu $1, $2, 0"}, {"2c41fffd", "sltiu $1, $2, -3"},
		{"3041ffff", "andi $1, $2, 65535"}, {"34418000", "ori $1, $2, 32768"}, {"38417fff", "xori $1, $2, 32767"}, {"30410000", "andi $1, $2, 0"},
		{"3c1f0003", "lui $31, 3"}, {"3c01ffff", "lui $1, 65535"},
		{"8041fffc", "lb $1, -4($2)"}, {"8441fffc", "lh $1, -4($2)"}, {"8fa8fffc", "lw $8, -4($29)"}, {"9041fffc", "lbu $1, -4($2)"},
		{"9441fffc", "lhu $1, -4($2)"}, {"a0410004", "sb $1, 4($2)"}, {"a4410000", "sh $1, 0($2)"}, {"ac1f8000", "sw $31, -32768($0)"},
		{"afe07fff", "sw $0, 32767($31)"},
	} {
		checkListing(t, c.word, 0, "\t"+c.want+"\n")
		seen[strings.Fields(c.want)[0]] = true
	}
	for _, c := range []struct{ word, want string }{
		{"1022ffff", "beq $1, $2, L0"}, {"1403ffff", "bne $0, $3, L0"}, {"1be0ffff", "blez $31, L0"}, {"1c20ffff", "bgtz $1, L0"},
		{"0420ffff", "bltz $1, L0"}, {"0421ffff", "bgez $1, L0"}, {"08000000", "j L0"}, {"0c000000", "jal L0"},
	} {
		checkListing(t, c.word, 0, "L0:\n\t"+c.want+"\n")
		seen[strings.Fields(c.want)[0]] = true
	}
	for _, r := range rows {
		if !seen[r.name] {
			t.Errorf("%s is not tested", r.name)
		}
	}
}

// P5 by P4: what means no instruction is a number.
func TestWordsWithUntoldPartsListed(t *testing.T) {
	for _, word := range []string{
		"00430860", "00430861", // n of add, addu
		"002208c0", "002208c3", // s of sll, sra
		"00620844",                         // n of sllv
		"03e10008", "03e00808", "03e00048", // t, d, n of jr
		"03e1f809", "03e0f849", // t, n of jalr
		"0000004c", "0020000c", "0001000d", "0000080d", // of syscall, break
		"3c210003",             // s of lui
		"1821ffff", "1c3fffff", // t of blez, bgtz
		"0422ffff", "0430ffff", // no t of opcode 1
		"00000001", "00000005", "0000000a", "0000003f", "40000000", "88000000", "a8000000", "fc000000", "ffffffff",
	} {
		checkListing(t, word, 0, "\t.word 0x"+word+"\n")
		checkListing(t, "0000000c"+word+"0000000c", 0, "\tsyscall\n\t.word 0x"+word+"\n\t.word 0x0000000c\n")
	}
}

func TestNumbersOfWordsListed(t *testing.T) {
	for _, word := range []string{"00000000", "00000001", "0000000c", "00abcdef", "0fffffff", "12345678", "90abcdef", "ffffffff"} {
		checkListing(t, word, 4, "\t.word 0x"+word+"\n")
	}
}

func TestEntries(t *testing.T) {
	words := "0000000c 24420001 0000000d 0000000c"
	numbers := []string{"\t.word 0x0000000c\n", "\t.word 0x24420001\n", "\t.word 0x0000000d\n", "\t.word 0x0000000c\n"}
	checkListing(t, words, 0, "\tsyscall\n\taddiu $2, $2, 1\n\tbreak\n"+numbers[3])
	checkListing(t, words, 4, numbers[0]+"\taddiu $2, $2, 1\n\tbreak\n"+numbers[3])
	checkListing(t, words, 8, numbers[0]+numbers[1]+"\tbreak\n"+numbers[3])
	checkListing(t, words, 12, numbers[0]+numbers[1]+numbers[2]+"\tsyscall\n")
	for _, entry := range []int{1, 2, 3, 5, 6, 7, 13, 15, 16, 17, 20, 256, 1 << 32, 1<<62 - 1, 1<<63 - 1, 1<<63 - 4, -1, -2, -3, -4, -8, -16, -1 << 32, -1 << 63} {
		checkListing(t, words, entry, strings.Join(numbers, ""))
	}
}

func TestEmptyImage(t *testing.T) {
	for _, entry := range []int{0, 4, -4, 1, 1<<63 - 1, -1 << 63} {
		checkListing(t, "", entry, "")
	}
}

func TestRefusedImages(t *testing.T) {
	for _, c := range []struct {
		size int
		want Errno
	}{{1, ErrArg}, {2, ErrArg}, {3, ErrArg}, {5, ErrArg}, {253, ErrArg}, {254, ErrArg}, {255, ErrArg},
		{257, ErrLong}, {258, ErrLong}, {259, ErrLong}, {260, ErrLong}, {261, ErrLong}, {1 << 20, ErrLong}, {1<<20 + 1, ErrLong}} {
		for _, piece := range []string{"\x00", "\xff"} {
			for _, entry := range []int{0, 1, 4, -4, 256, 1<<63 - 1, -1 << 63} {
				if got, errno := Disasm(strings.Repeat(piece, c.size), entry); got != "" || errno != c.want {
					t.Errorf("P5: Disasm of %d bytes, %d = %q, %d, want %d", c.size, entry, got, errno, c.want)
				}
			}
		}
	}
}

func TestFullImages(t *testing.T) {
	checkListing(t, strings.Repeat("00000000", 64), 0, strings.Repeat("\tsll $0, $0, 0\n", 64))
	checkListing(t, strings.Repeat("00000000", 64), 252, strings.Repeat("\t.word 0x00000000\n", 63)+"\tsll $0, $0, 0\n")
	checkListing(t, strings.Repeat("00000000", 64), 256, strings.Repeat("\t.word 0x00000000\n", 64))
	// there and back over the whole of it
	numbers := strings.Repeat("\t.word 0xffffffff\n", 62)
	checkListing(t, "0421003e"+strings.Repeat("ffffffff", 62)+"0420ffc0", 0, "L0:\n\tbgez $1, L252\n"+numbers+"L252:\n\tbltz $1, L0\n")
	checkListing(t, "0800003f"+strings.Repeat("ffffffff", 62)+"0c000000", 0, "L0:\n\tj L252\n"+numbers+"L252:\n\tjal L0\n")
}

// A word can be told only if where it goes is in the image: from the first
// word to the last, not behind it.
func TestGoals(t *testing.T) {
	const behind = "\t.word 0x0000000d\n\t.word 0x0000000d\n"
	for _, c := range []struct{ word, want string }{
		{"1000ffff", "L0:\n\tbeq $0, $0, L0\n\tbreak\n\tbreak\n"},
		{"10000000", "\tbeq $0, $0, L4\nL4:\n\tbreak\n\tbreak\n"},
		{"10000001", "\tbeq $0, $0, L8\n\tbreak\nL8:\n\tbreak\n"},
		{"10000002", "\t.word 0x10000002\n" + behind},
		{"1000fffe", "\t.word 0x1000fffe\n" + behind},
		{"10007fff", "\t.word 0x10007fff\n" + behind},
		{"10008000", "\t.word 0x10008000\n" + behind},
		{"0420fffe", "\t.word 0x0420fffe\n" + behind},
		{"1c200002", "\t.word 0x1c200002\n" + behind},
		{"08000000", "L0:\n\tj L0\n\tbreak\n\t.word 0x0000000d\n"},
		{"08000001", "\tj L4\nL4:\n\tbreak\n\t.word 0x0000000d\n"},
		{"08000002", "\tj L8\n\tbreak\nL8:\n\tbreak\n"},
		{"08000003", "\t.word 0x08000003\n" + behind},
		{"0bffffff", "\t.word 0x0bffffff\n" + behind},
		{"0a000000", "\t.word 0x0a000000\n" + behind},
		{"0c000003", "\t.word 0x0c000003\n" + behind},
		{"0c000002", "\tjal L8\n\tbreak\nL8:\n\tbreak\n"},
	} {
		checkListing(t, c.word+"0000000d 0000000d", 0, c.want)
	}
	checkListing(t, "0000000c 1000fffd", 0, "\tsyscall\n\t.word 0x1000fffd\n")
	checkListing(t, "0000000c 1000fffe", 0, "L0:\n\tsyscall\n\tbeq $0, $0, L0\n")
	checkListing(t, "0000000c 1000ffff", 0, "\tsyscall\nL4:\n\tbeq $0, $0, L4\n")
	checkListing(t, "0000000c 10000000", 0, "\tsyscall\n\t.word 0x10000000\n")
}

func TestWhatComesBehind(t *testing.T) {
	for _, c := range []struct{ words, want string }{
		// all that does not jump, but break, goes on at the next word
		{"0000000c 0000000c", "\tsyscall\n\tsyscall\n"},
		{"0000000d 0000000c", "\tbreak\n\t.word 0x0000000c\n"},
		// j and jr: the next word, no more
		{"08000000 0000000c 0000000c", "L0:\n\tj L0\n\tsyscall\n\t.word 0x0000000c\n"},
		{"03e00008 0000000c 0000000c", "\tjr $31\n\tsyscall\n\t.word 0x0000000c\n"},
		// the others: the second word behind, too
		{"0c000000 0000000c 0000000c", "L0:\n\tjal L0\n\tsyscall\n\tsyscall\n"},
		{"0040f809 0000000c 0000000c", "\tjalr $31, $2\n\tsyscall\n\tsyscall\n"},
		{"1000ffff 0000000c 0000000c", "L0:\n\tbeq $0, $0, L0\n\tsyscall\n\tsyscall\n"},
		{"1400ffff 0000000c 0000000c", "L0:\n\tbne $0, $0, L0\n\tsyscall\n\tsyscall\n"},
		{"1800ffff 0000000c 0000000c", "L0:\n\tblez $0, L0\n\tsyscall\n\tsyscall\n"},
		{"1c00ffff 0000000c 0000000c", "L0:\n\tbgtz $0, L0\n\tsyscall\n\tsyscall\n"},
		{"0400ffff 0000000c 0000000c", "L0:\n\tbltz $0, L0\n\tsyscall\n\tsyscall\n"},
		{"0401ffff 0000000c 0000000c", "L0:\n\tbgez $0, L0\n\tsyscall\n\tsyscall\n"},
		// a break behind a jump does not end what comes behind the two
		{"0c000000 0000000d 0000000c", "L0:\n\tjal L0\n\tbreak\n\tsyscall\n"},
		// what can't be told ends it, and is no hindrance behind a jump
		{"0000000c ffffffff 0000000c", "\tsyscall\n\t.word 0xffffffff\n\t.word 0x0000000c\n"},
		{"0040f809 ffffffff 0000000c", "\tjalr $31, $2\n\t.word 0xffffffff\n\tsyscall\n"},
		{"03e00008 ffffffff 0000000c", "\tjr $31\n\t.word 0xffffffff\n\t.word 0x0000000c\n"},
		{"0040f809 10000009 0000000c", "\tjalr $31, $2\n\t.word 0x10000009\n\tsyscall\n"},
		// the last word
		{"0000000c 03e00008", "\tsyscall\n\tjr $31\n"},
		{"0000000c 0040f809", "\tsyscall\n\tjalr $31, $2\n"},
		{"0000000c 1000fffe", "L0:\n\tsyscall\n\tbeq $0, $0, L0\n"},
		{"0000000c 08000000", "L0:\n\tsyscall\n\tj L0\n"},
		{"0000000c 0c000001", "\tsyscall\nL4:\n\tjal L4\n"},
		{"0040f809 0000000c", "\tjalr $31, $2\n\tsyscall\n"},
	} {
		checkListing(t, c.words, 0, c.want)
	}
}

// A word that is told for the jump ahead of it is not gone on from: neither
// where it goes nor behind it, unless one comes to it otherwise.
func TestJumpsBehindJumps(t *testing.T) {
	for _, c := range []struct {
		words string
		entry int
		want  string
	}{
		{"03e00008 08000003 0000000c 0000000c", 0, "\tjr $31\n\tj L12\n\t.word 0x0000000c\nL12:\n\t.word 0x0000000c\n"},
		{"03e00008 10000001 0000000c 0000000c", 0, "\tjr $31\n\tbeq $0, $0, L12\n\t.word 0x0000000c\nL12:\n\t.word 0x0000000c\n"},
		{"03e00008 0040f809 0000000c 0000000c", 0, "\tjr $31\n\tjalr $31, $2\n\t.word 0x0000000c\n\t.word 0x0000000c\n"},
		{"03e00008 03e00008 0000000c 0000000c", 0, "\tjr $31\n\tjr $31\n\t.word 0x0000000c\n\t.word 0x0000000c\n"},
		// come to otherwise: by the first jump itself, and by a later one
		{"08000001 08000003 0000000c 0000000c", 0, "\tj L4\nL4:\n\tj L12\n\tsyscall\nL12:\n\tsyscall\n"},
		{"08000003 03e00008 0000000c 08000001 0000000c", 0, "\tj L12\nL4:\n\tjr $31\n\tsyscall\nL12:\n\tj L4\n\tsyscall\n"},
		{"08000003 0000000c 0000000d 08000001 0000000c", 0, "\tj L12\nL4:\n\tsyscall\n\tbreak\nL12:\n\tj L4\n\tsyscall\n"},
		// a label on a word that is none, and one of two words
		{"08000001 ffffffff", 0, "\tj L4\nL4:\n\t.word 0xffffffff\n"},
		{"1000ffff 1000fffe 0000000d", 0, "L0:\n\tbeq $0, $0, L0\n\tbeq $0, $0, L0\n\tbreak\n"},
		// what is a number goes nowhere
		{"0000000d 1000ffff 08000000", 0, "\tbreak\n\t.word 0x1000ffff\n\t.word 0x08000000\n"},
		// backwards from the entry
		{"0000000c 0000000d ffffffff 08000000 00000000", 12, "L0:\n\tsyscall\n\tbreak\n\t.word 0xffffffff\n\tj L0\n\tsll $0, $0, 0\n"},
	} {
		checkListing(t, c.words, c.entry, c.want)
	}
}

// tell is an instruction as P5 has it, by the letters of the tests' table.
func (r row) tell(word uint32, to int) string {
	var operands []string
	for _, o := range r.operands {
		half := binary.BigEndian.AppendUint32(nil, word)[2:]
		switch o {
		case 'd', 's', 't':
			operands = append(operands, fmt.Sprintf("$%d", word>>letterShift[o]%32))
		case 'n':
			operands = append(operands, fmt.Sprint(word>>6%32))
		case 'u':
			operands = append(operands, fmt.Sprint(binary.BigEndian.Uint16(half)))
		case 'i':
			operands = append(operands, fmt.Sprint(int16(binary.BigEndian.Uint16(half))))
		case 'm':
			operands = append(operands, fmt.Sprintf("%d($%d)", int16(binary.BigEndian.Uint16(half)), word>>21%32))
		case 'b', 'p':
			operands = append(operands, fmt.Sprintf("L%d", 4*to))
		}
	}
	return strings.TrimSpace(r.name + " " + strings.Join(operands, ", "))
}

// secondLister lists as P5 says, another way: by going over all words again
// till no more are found. It counts in words, not in bytes.
type secondLister struct {
	words []uint32
	rows  []*row // of the words that can be told
	to    []int  // where they go, -1 where that is not said
}

func newSecondLister(given string) secondLister {
	var l secondLister
	for at := range len(given) / 4 {
		word := binary.BigEndian.Uint32([]byte(given[4*at:]))
		l.words = append(l.words, word)
		l.rows, l.to = append(l.rows, nil), append(l.to, -1)
		for _, r := range rowsOf(word) {
			to := -1
			if strings.HasSuffix(r.operands, "b") {
				to = at + 1 + int(int16(word))
			} else if r.operands == "p" {
				to = int(word & 0x3ffffff)
			} else {
				l.rows[at] = &r
				continue
			}
			if to >= 0 && to < len(given)/4 {
				l.rows[at], l.to[at] = &r, to
			}
		}
	}
	return l
}

func (l secondLister) jumps(at int) bool {
	return l.to[at] >= 0 || l.rows[at].name == "jr" || l.rows[at].name == "jalr"
}

// comesTo is whether one goes on from one word at another.
func (l secondLister) comesTo(from, at int) bool {
	switch name := l.rows[from].name; {
	case l.to[from] == at:
		return true
	case name == "j" || name == "jr" || name == "break":
		return false
	case l.jumps(from):
		return at == from+2
	}
	return at == from+1
}

func (l secondLister) list(entry int) string {
	gone := map[int]bool{}
	for more := true; more; {
		more = false
		for at := range l.words {
			come := 4*at == entry
			for from := range gone {
				come = come || l.comesTo(from, at)
			}
			if come && l.rows[at] != nil && !gone[at] {
				gone[at], more = true, true
			}
		}
	}
	told, goals := map[int]bool{}, map[int]bool{}
	for at := range l.words {
		told[at] = gone[at] || gone[at-1] && l.jumps(at-1) && l.rows[at] != nil
		if told[at] {
			goals[l.to[at]] = true
		}
	}
	var text strings.Builder
	for at, word := range l.words {
		if goals[at] {
			fmt.Fprintf(&text, "L%d:\n", 4*at)
		}
		if told[at] {
			fmt.Fprintf(&text, "\t%s\n", l.rows[at].tell(word, l.to[at]))
		} else {
			fmt.Fprintf(&text, "\t.word 0x%08x\n", word)
		}
	}
	return text.String()
}

func compareListing(t *testing.T, given string, entry int) string {
	t.Helper()
	got, errno := Disasm(given, entry)
	want, wantErrno := "", OK
	if len(given) > 256 {
		wantErrno = ErrLong
	} else if len(given)%4 != 0 {
		wantErrno = ErrArg
	} else {
		want = newSecondLister(given).list(entry)
	}
	if got != want || errno != wantErrno {
		t.Fatalf("P5: Disasm(%x, %d) = %q, %d, want %q, %d", given, entry, got, errno, want, wantErrno)
	}
	if errno == OK {
		checkBack(t, given, entry)
	}
	return got
}

// randomImage has mostly words that mean something and go to near places, so
// that ways through it are long and cross each other.
func randomImage(random *rand.Rand) string {
	var bytes []byte
	size := 1 + random.Intn(64)
	for at := range size {
		r := rows[random.Intn(len(rows))]
		for random.Intn(3) == 0 && !strings.ContainsAny(r.operands, "bp") {
			r = rows[random.Intn(len(rows))]
		}
		word := r.bare | random.Uint32()&r.bits()
		near := random.Intn(size+2) - 1
		switch {
		case strings.Contains(r.operands, "b"):
			word = word&^0xffff | uint32(near-at-1)&0xffff
		case r.operands == "p":
			word = r.bare | uint32(near)&0x3ffffff
		}
		switch random.Intn(20) {
		case 0:
			word = random.Uint32()
		case 1:
			word ^= 1 << random.Intn(32)
		}
		bytes = binary.BigEndian.AppendUint32(bytes, word)
	}
	return string(bytes)
}

// P1, P3 and P5: images of all kinds, against the second lister.
func TestListingsAgainstSecond(t *testing.T) {
	random := rand.New(rand.NewSource(2))
	seen := map[string]bool{}
	for range 4000 {
		given := randomImage(random)
		for _, entry := range []int{0, 4 * random.Intn(64), random.Intn(270) - 8} {
			for _, line := range strings.Split(compareListing(t, given, entry), "\n") {
				if fields := strings.Fields(line); len(fields) > 0 {
					seen[fields[0]] = true
				}
			}
		}
	}
	for _, r := range rows {
		if !seen[r.name] {
			t.Errorf("%s was never listed", r.name)
		}
	}
}

// P5: no listing is too long to be put together again.
func TestLongestListings(t *testing.T) {
	var crossing []byte
	for at := range 64 {
		// bne $31, $31, each to another word, so that all have a label
		crossing = binary.BigEndian.AppendUint32(crossing, 0x17ff0000|uint32(63-at-at-1)&0xffff)
	}
	compareListing(t, strings.Repeat("\x2f\xff\x80\x00", 64), 0)
	listing := compareListing(t, string(crossing), 0)
	if strings.Count(listing, ":\n") != 64 || strings.Count(listing, "\tbne $31, $31, L") != 64 {
		t.Errorf("P5: the listing is %q", listing)
	}
}

// P2: what is come to in one image is not kept for another.
func TestNoListingIsKept(t *testing.T) {
	type asked struct {
		image string
		entry int
	}
	example := image(t, exampleImage)
	all := []asked{{example, 0}, {example, 16}, {example, 2}, {example[:16], 0}, {"", 0}, {"abc", 0}, {strings.Repeat("\x00", 256), 128}, {strings.Repeat("\x00", 260), 0}}
	first := map[asked]string{}
	for _, a := range all {
		first[a], _ = Disasm(a.image, a.entry)
	}
	var group sync.WaitGroup
	for offset := range 8 {
		group.Go(func() {
			for i := range 10 * len(all) {
				a := all[(i*(2*offset+1)+offset)%len(all)]
				if got, _ := Disasm(a.image, a.entry); got != first[a] {
					t.Errorf("P2: Disasm(%x, %d) answers %q, then %q", a.image, a.entry, first[a], got)
				}
			}
		})
	}
	group.Wait()
}

// P3: the first four bytes are the first word, the highest byte first.
func TestBytesListed(t *testing.T) {
	checkListing(t, "01020304 05060708 fcfdfeff", 12, "\t.word 0x01020304\n\t.word 0x05060708\n\t.word 0xfcfdfeff\n")
}

func FuzzDisasm(f *testing.F) {
	f.Add(image(f, exampleImage), 0)
	random := rand.New(rand.NewSource(3))
	for range 20 {
		f.Add(randomImage(random), 4*random.Intn(8))
	}
	f.Fuzz(func(t *testing.T, given string, entry int) { compareListing(t, given, entry) })
}
