package mill

// A shape is how the parts of an instruction stand in a word.
type shape interface {
	// bare is the instruction's word with all its operands 0.
	bare(number uint32) uint32
	// operands are those with which it is told, in their order.
	operands() []operand
}

// Where an instruction's number stands in its word: each shape embeds one.
type (
	numberInFunction struct{}
	numberInOpcode   struct{}
	numberInT        struct{}
)

func (numberInFunction) bare(number uint32) uint32 { return number }
func (numberInOpcode) bare(number uint32) uint32   { return number << 26 }
func (numberInT) bare(number uint32) uint32        { return 1<<26 | number<<16 }

type (
	threeRegisters  struct{ numberInFunction }
	shiftByNumber   struct{ numberInFunction }
	shiftByRegister struct{ numberInFunction }
	jumpToRegister  struct{ numberInFunction }
	linkToRegister  struct{ numberInFunction }
	noOperands      struct{ numberInFunction }
	signedHalf      struct{ numberInOpcode }
	plainHalf       struct{ numberInOpcode }
	upperHalf       struct{ numberInOpcode }
	memoryAccess    struct{ numberInOpcode }
	branchOnTwo     struct{ numberInOpcode }
	branchOnOne     struct{ numberInOpcode }
	branchOnSign    struct{ numberInT }
	jumpToPlace     struct{ numberInOpcode }
)

func (threeRegisters) operands() []operand  { return []operand{registerD, registerS, registerT} }
func (shiftByNumber) operands() []operand   { return []operand{registerD, registerT, shiftAmount} }
func (shiftByRegister) operands() []operand { return []operand{registerD, registerT, registerS} }
func (jumpToRegister) operands() []operand  { return []operand{registerS} }
func (linkToRegister) operands() []operand  { return []operand{registerD, registerS} }
func (noOperands) operands() []operand      { return nil }
func (signedHalf) operands() []operand      { return []operand{registerT, registerS, halfWithSign} }
func (plainHalf) operands() []operand       { return []operand{registerT, registerS, halfWithout} }
func (upperHalf) operands() []operand       { return []operand{registerT, halfWithout} }
func (memoryAccess) operands() []operand    { return []operand{registerT, halfAtS} }
func (branchOnTwo) operands() []operand     { return []operand{registerS, registerT, toLabel} }
func (branchOnOne) operands() []operand     { return []operand{registerS, toLabel} }
func (branchOnSign) operands() []operand    { return []operand{registerS, toLabel} }
func (jumpToPlace) operands() []operand     { return []operand{toLabel} }

// toldBits are the bits of a word that its operands tell.
func toldBits(s shape) uint32 {
	told := goingBits(s)
	for _, o := range s.operands() {
		told |= o.bits()
	}
	return told
}

// goingBits are the bits of a word that tell where it goes.
func goingBits(s shape) uint32 {
	switch s.(type) {
	case jumpToPlace:
		return 1<<26 - 1
	case branchOnTwo, branchOnOne, branchOnSign:
		return 1<<16 - 1
	}
	return 0
}

// going is what stands in those bits of a word at one place that goes to
// another.
func going(s shape, from, to int) uint32 {
	switch s.(type) {
	case jumpToPlace:
		return uint32(to/4) & goingBits(s)
	case branchOnTwo, branchOnOne, branchOnSign:
		return uint32((to-from)/4-1) & goingBits(s)
	}
	return 0
}

// goal is where a word at a place goes, if it says so itself: jr and jalr
// leave that to a register.
func goal(s shape, place int, word uint32) (int, bool) {
	switch s.(type) {
	case jumpToPlace:
		return 4 * int(word&goingBits(s)), true
	case branchOnTwo, branchOnOne, branchOnSign:
		return place + 4 + 4*int(int16(word&goingBits(s))), true
	}
	return 0, false
}

// jumps is whether words of a shape have the word that follows them done
// ahead of where they go.
func jumps(s shape) bool {
	switch s.(type) {
	case jumpToRegister, linkToRegister, jumpToPlace, branchOnTwo, branchOnOne, branchOnSign:
		return true
	}
	return false
}
