package mill

// instruction is what all words with one name have in common.
type instruction struct {
	number uint32
	shape  shape
}

func (in instruction) bare() uint32 {
	return in.shape.bare(in.number)
}

// instructions are all there are, by their names.
func instructions() map[string]instruction {
	return map[string]instruction{
		"add":     {32, threeRegisters{}},
		"addu":    {33, threeRegisters{}},
		"sub":     {34, threeRegisters{}},
		"subu":    {35, threeRegisters{}},
		"and":     {36, threeRegisters{}},
		"or":      {37, threeRegisters{}},
		"xor":     {38, threeRegisters{}},
		"nor":     {39, threeRegisters{}},
		"slt":     {42, threeRegisters{}},
		"sltu":    {43, threeRegisters{}},
		"sll":     {0, shiftByNumber{}},
		"srl":     {2, shiftByNumber{}},
		"sra":     {3, shiftByNumber{}},
		"sllv":    {4, shiftByRegister{}},
		"srlv":    {6, shiftByRegister{}},
		"srav":    {7, shiftByRegister{}},
		"jr":      {8, jumpToRegister{}},
		"jalr":    {9, linkToRegister{}},
		"syscall": {12, noOperands{}},
		"break":   {13, noOperands{}},
		"addi":    {8, signedHalf{}},
		"addiu":   {9, signedHalf{}},
		"slti":    {10, signedHalf{}},
		"sltiu":   {11, signedHalf{}},
		"andi":    {12, plainHalf{}},
		"ori":     {13, plainHalf{}},
		"xori":    {14, plainHalf{}},
		"lui":     {15, upperHalf{}},
		"lb":      {32, memoryAccess{}},
		"lh":      {33, memoryAccess{}},
		"lw":      {35, memoryAccess{}},
		"lbu":     {36, memoryAccess{}},
		"lhu":     {37, memoryAccess{}},
		"sb":      {40, memoryAccess{}},
		"sh":      {41, memoryAccess{}},
		"sw":      {43, memoryAccess{}},
		"beq":     {4, branchOnTwo{}},
		"bne":     {5, branchOnTwo{}},
		"blez":    {6, branchOnOne{}},
		"bgtz":    {7, branchOnOne{}},
		"bltz":    {0, branchOnSign{}},
		"bgez":    {1, branchOnSign{}},
		"j":       {2, jumpToPlace{}},
		"jal":     {3, jumpToPlace{}},
	}
}

// named is an instruction with its name.
type named struct {
	name string
	instruction
}

// byOpcode holds the instructions by their opcodes. The order of those that
// share one is that in which the map was gone through: nothing may hang on it.
var byOpcode [64][]named

func init() {
	for name, in := range instructions() {
		opcode := in.bare() >> 26
		byOpcode[opcode] = append(byOpcode[opcode], named{name, in})
	}
}

// meaning is the instruction that a word means, if it means one (P4). No word
// means two, so the first one found is the only one.
func meaning(word uint32) (named, bool) {
	for _, in := range byOpcode[word>>26] {
		if word&^toldBits(in.shape) == in.bare() {
			return in, true
		}
	}
	return named{}, false
}

// goesOnBehind is whether one may come from such a word to what is behind it
// (and, if it jumps, behind the word that follows it).
func (in named) goesOnBehind() bool {
	switch in.name {
	case "break", "j", "jr":
		return false
	}
	return true
}
