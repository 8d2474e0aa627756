package mill

// operand is a kind of operand, as a text tells it.
type operand int

const (
	registerD operand = iota
	registerS
	registerT
	shiftAmount
	halfWithSign
	halfWithout
	halfAtS // a half with a sign, and $s in brackets
	toLabel
	wholeWord // behind .word
)

// field is a run of bits in a word, and the numbers that may be told for it.
// The zero field takes 0 alone, and no bits.
type field struct {
	lowest, width int
	least, most   int64
}

// field is that of an operand's number; none for a label, since how that
// stands in a word hangs on the word's shape.
func (o operand) field() field {
	switch o {
	case registerS:
		return field{21, 5, 0, 31}
	case registerT:
		return field{16, 5, 0, 31}
	case registerD:
		return field{11, 5, 0, 31}
	case shiftAmount:
		return field{6, 5, 0, 31}
	case halfWithSign, halfAtS:
		return field{0, 16, -1 << 15, 1<<15 - 1}
	case halfWithout:
		return field{0, 16, 0, 1<<16 - 1}
	case wholeWord:
		return field{0, 32, -1 << 31, 1<<32 - 1}
	}
	return field{}
}

// bits are all those that an operand tells.
func (o operand) bits() uint32 {
	if o == halfAtS {
		return o.field().bits() | registerS.field().bits()
	}
	return o.field().bits()
}

func (f field) bits() uint32 {
	return ^uint32(0) >> (32 - f.width) << f.lowest
}

func (f field) takes(number int64) bool {
	return f.least <= number && number <= f.most
}

// put is a word with a number in the field, and zeros beside it.
func (f field) put(number int64) uint32 {
	return uint32(number) << f.lowest & f.bits()
}

// get is the number that stands in the field of a word. Where numbers below 0
// may stand, the field's highest bit is their sign.
func (f field) get(word uint32) int64 {
	number := int64(word & f.bits() >> f.lowest)
	if number > f.most {
		number -= 1 << f.width
	}
	return number
}
