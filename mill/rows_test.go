package mill

import (
	"regexp"
	"strconv"
	"strings"
)

// row is a row of the document's table of instructions, written down a second
// time, in another way than the program has it: the word with all operands 0,
// and the operands by letters.
type row struct {
	name string
	bare uint32
	// d, s, t: registers; n: a shift's number; i and u: halves with a sign and
	// without; m: a half with a sign and ($s); b and p: labels of a branch and
	// of a jump by place; w: behind .word.
	operands string
}

var rows = []row{
	{"add", 32, "dst"}, {"addu", 33, "dst"}, {"sub", 34, "dst"}, {"subu", 35, "dst"}, {"and", 36, "dst"},
	{"or", 37, "dst"}, {"xor", 38, "dst"}, {"nor", 39, "dst"}, {"slt", 42, "dst"}, {"sltu", 43, "dst"},
	{"sll", 0, "dtn"}, {"srl", 2, "dtn"}, {"sra", 3, "dtn"},
	{"sllv", 4, "dts"}, {"srlv", 6, "dts"}, {"srav", 7, "dts"},
	{"jr", 8, "s"}, {"jalr", 9, "ds"}, {"syscall", 12, ""}, {"break", 13, ""},
	{"addi", 0x20000000, "tsi"}, {"addiu", 0x24000000, "tsi"}, {"slti", 0x28000000, "tsi"}, {"sltiu", 0x2c000000, "tsi"},
	{"andi", 0x30000000, "tsu"}, {"ori", 0x34000000, "tsu"}, {"xori", 0x38000000, "tsu"}, {"lui", 0x3c000000, "tu"},
	{"lb", 0x80000000, "tm"}, {"lh", 0x84000000, "tm"}, {"lw", 0x8c000000, "tm"}, {"lbu", 0x90000000, "tm"},
	{"lhu", 0x94000000, "tm"}, {"sb", 0xa0000000, "tm"}, {"sh", 0xa4000000, "tm"}, {"sw", 0xac000000, "tm"},
	{"beq", 0x10000000, "stb"}, {"bne", 0x14000000, "stb"}, {"blez", 0x18000000, "sb"}, {"bgtz", 0x1c000000, "sb"},
	{"bltz", 0x04000000, "sb"}, {"bgez", 0x04010000, "sb"}, {"j", 0x08000000, "p"}, {"jal", 0x0c000000, "p"},
}

var wordRow = row{".word", 0, "w"}

var letterBits = map[rune]uint32{
	's': 31 << 21, 't': 31 << 16, 'd': 31 << 11, 'n': 31 << 6,
	'i': 0xffff, 'u': 0xffff, 'm': 31<<21 | 0xffff, 'b': 0xffff, 'p': 0x3ffffff,
}

var letterShift = map[rune]uint{'s': 21, 't': 16, 'd': 11, 'n': 6}

var letterRange = map[rune][2]int64{
	'n': {0, 31}, 'i': {-32768, 32767}, 'm': {-32768, 32767}, 'u': {0, 65535}, 'w': {-2147483648, 4294967295},
}

func (r row) bits() uint32 {
	bits := uint32(0)
	for _, o := range r.operands {
		bits |= letterBits[o]
	}
	return bits
}

const (
	blankForm  = `[ \t]*`
	labelForm  = `([A-Za-z][A-Za-z0-9]{0,7})`
	numberForm = `(-?(?:0x[0-9a-f]{1,8}|[0-9]{1,8}))`
	regForm    = `\$([0-9]|[12][0-9]|3[01])`
)

// form is a row's line as a regular expression: the label, then the operands.
func (r row) form() *regexp.Regexp {
	var operands []string
	for _, o := range r.operands {
		switch {
		case strings.ContainsRune("dst", o):
			operands = append(operands, regForm)
		case strings.ContainsRune("bp", o):
			operands = append(operands, labelForm)
		case o == 'm':
			operands = append(operands, numberForm+blankForm+`\(`+blankForm+regForm+blankForm+`\)`)
		default:
			operands = append(operands, numberForm)
		}
	}
	body := regexp.QuoteMeta(r.name)
	if len(operands) > 0 {
		body += `[ \t]+` + strings.Join(operands, blankForm+`,`+blankForm)
	}
	return lineForm(body)
}

func lineForm(body string) *regexp.Regexp {
	return regexp.MustCompile(`^` + blankForm + `(?:` + labelForm + blankForm + `:)?` + blankForm + body + blankForm + `$`)
}

type formedRow struct {
	row
	expression *regexp.Regexp
}

// reference puts texts together as P6 says, by regular expressions.
type reference struct {
	empty *regexp.Regexp
	rows  []formedRow
}

func newReference() reference {
	ref := reference{empty: lineForm("")}
	for _, r := range append([]row{wordRow}, rows...) {
		ref.rows = append(ref.rows, formedRow{r, r.form()})
	}
	return ref
}

func (ref reference) match(line string) (row, []string) {
	line, _, _ = strings.Cut(line, "#")
	if found := ref.empty.FindStringSubmatch(line); found != nil {
		return row{}, found[1:]
	}
	for _, f := range ref.rows {
		if found := f.expression.FindStringSubmatch(line); found != nil {
			return f.row, found[1:]
		}
	}
	return row{}, nil
}

func (ref reference) asm(text string) (string, Errno, int) {
	if len(text) > 2000 {
		return "", ErrLong, 0
	}
	type pending struct {
		line, at int
		label    string
		letter   rune
	}
	var words []uint32
	var goings []pending
	labels := map[string]int{}
	for i, line := range strings.Split(strings.TrimSuffix(text, "\n"), "\n") {
		r, found := ref.match(line)
		if found == nil {
			return "", ErrForm, i + 1
		}
		label, operands := found[0], found[1:]
		if _, there := labels[label]; there && label != "" {
			return "", ErrTwice, i + 1
		}
		labels[label] = len(words)
		if r.name == "" {
			continue
		}
		word := r.bare
		for _, o := range r.operands {
			text := operands[0]
			operands = operands[1:]
			switch {
			case strings.ContainsRune("dst", o):
				word |= uint32(mustNumber(text)) << letterShift[o]
			case strings.ContainsRune("bp", o):
				goings = append(goings, pending{i + 1, len(words), text, o})
			default:
				number := mustNumber(text)
				if number < letterRange[o][0] || number > letterRange[o][1] {
					return "", ErrRange, i + 1
				}
				if o == 'w' {
					word = uint32(number)
				} else {
					word |= uint32(number) & 0xffff << letterShift[o]
				}
				if o == 'm' {
					word |= uint32(mustNumber(operands[0])) << 21
				}
			}
		}
		if len(words) == 64 {
			return "", ErrMany, i + 1
		}
		words = append(words, word)
	}
	for _, g := range goings {
		to, there := labels[g.label]
		if !there {
			return "", ErrName, g.line
		}
		if g.letter == 'b' {
			words[g.at] |= uint32(to-g.at-1) & 0xffff
		} else {
			words[g.at] |= uint32(to)
		}
	}
	var image strings.Builder
	for _, w := range words {
		image.Write([]byte{byte(w >> 24), byte(w >> 16), byte(w >> 8), byte(w)})
	}
	return image.String(), OK, 0
}

func mustNumber(text string) int64 {
	digits := strings.TrimPrefix(text, "-")
	base := 10
	if strings.HasPrefix(digits, "0x") {
		digits, base = digits[2:], 16
	}
	number, err := strconv.ParseInt(digits, base, 64)
	if err != nil {
		panic(err)
	}
	if digits != text && text[0] == '-' {
		return -number
	}
	return number
}
