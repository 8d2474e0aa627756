package mill

import (
	"strconv"
	"strings"
)

const blanks = " \t"

// statement is what a line says.
type statement struct {
	label   string // "" where it has none
	hasWord bool
	word    uint32 // but for its number and where it goes
	shape   shape  // none behind .word
	number  int64
	field   field  // where the number stands
	goesTo  string // a label, "" where it goes to none
}

// readLine reads a line for its form alone: all else that may be wrong with
// it comes later, since ErrForm goes ahead.
func readLine(line string, names map[string]instruction) statement {
	var s statement
	code, _, _ := strings.Cut(line, "#")
	if label, rest, found := strings.Cut(code, ":"); found {
		s.label = readLabel(trim(label))
		code = rest
	}
	if code = trim(code); code != "" {
		s.readWord(code, names)
	}
	return s
}

func (s *statement) readWord(code string, names map[string]instruction) {
	s.hasWord = true
	name, rest := cutName(code)
	if name == ".word" {
		s.readOperands([]operand{wholeWord}, rest)
		return
	}
	in, there := names[name]
	if !there {
		panic(ErrForm)
	}
	s.word = in.bare()
	s.shape = in.shape
	s.readOperands(in.shape.operands(), rest)
}

func (s *statement) readOperands(kinds []operand, text string) {
	texts := splitOperands(text)
	if len(texts) != len(kinds) {
		panic(ErrForm)
	}
	for i, kind := range kinds {
		s.readOperand(kind, trim(texts[i]))
	}
}

func (s *statement) readOperand(kind operand, text string) {
	switch kind {
	case registerD, registerS, registerT:
		s.word |= kind.field().put(readRegister(text))
	case toLabel:
		s.goesTo = readLabel(text)
	case halfAtS:
		number, register := cutBrackets(text)
		s.word |= registerS.field().put(readRegister(register))
		s.number, s.field = readNumber(number), kind.field()
	default:
		s.number, s.field = readNumber(text), kind.field()
	}
}

func trim(text string) string {
	return strings.Trim(text, blanks)
}

// cutName parts a name from what is behind it.
func cutName(code string) (name, rest string) {
	if end := strings.IndexAny(code, blanks); end >= 0 {
		return code[:end], trim(code[end:])
	}
	return code, ""
}

// splitOperands parts operands at the commas; no text is no operand, not an
// empty one.
func splitOperands(text string) []string {
	if text == "" {
		return nil
	}
	return strings.Split(text, ",")
}

// cutBrackets parts what is ahead of a pair of brackets from what is in it.
func cutBrackets(text string) (ahead, within string) {
	ahead, rest, opened := strings.Cut(text, "(")
	within, closed := strings.CutSuffix(rest, ")")
	if !opened || !closed {
		panic(ErrForm)
	}
	return trim(ahead), trim(within)
}

func readLabel(text string) string {
	if text == "" || len(text) > maxLabel || !isLetter(text[0]) {
		panic(ErrForm)
	}
	for i := range len(text) {
		if !isLetter(text[i]) && !isDigit(text[i]) {
			panic(ErrForm)
		}
	}
	return text
}

// readRegister takes a register's number in its one way of being written:
// strconv alone would let signs and leading zeros pass.
func readRegister(text string) int64 {
	digits, found := strings.CutPrefix(text, "$")
	number, err := strconv.Atoi(digits)
	if !found || err != nil || number < 0 || number > 31 || strconv.Itoa(number) != digits {
		panic(ErrForm)
	}
	return int64(number)
}

func readNumber(text string) int64 {
	digits, negative := strings.CutPrefix(text, "-")
	base := int64(10)
	if rest, found := strings.CutPrefix(digits, "0x"); found {
		digits, base = rest, 16
	}
	number := readDigits(digits, base)
	if negative {
		return -number
	}
	return number
}

func readDigits(digits string, base int64) int64 {
	if len(digits) < 1 || len(digits) > 8 {
		panic(ErrForm)
	}
	number := int64(0)
	for i := range len(digits) {
		value := digitValue(digits[i])
		if value >= base {
			panic(ErrForm)
		}
		number = number*base + value
	}
	return number
}

// digitValue is what a digit counts, or, for any other byte, too much for
// every base.
func digitValue(c byte) int64 {
	switch {
	case isDigit(c):
		return int64(c - '0')
	case 'a' <= c && c <= 'f':
		return int64(c-'a') + 10
	}
	return 16
}

func isLetter(c byte) bool {
	return 'A' <= c && c <= 'Z' || 'a' <= c && c <= 'z'
}

func isDigit(c byte) bool {
	return '0' <= c && c <= '9'
}
