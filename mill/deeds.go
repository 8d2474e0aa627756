package mill

// A deed is what a word does to a machine. It answers goesOn; or an end of the
// run, and then has changed nothing.
type deed func(m *machine, word uint32) int

// A calculation makes a number of two, and says whether it has room for it.
type calculation func(a, b uint32) (uint32, bool)

// deedOf makes what an instruction does of what it does to numbers.
func deedOf(in named) deed {
	switch in.shape.(type) {
	case noOperands:
		return calling(in.name)
	case memoryAccess:
		return moving(in.name)
	case branchOnTwo, branchOnOne, branchOnSign:
		return branching(in.shape, conditionOf(in.name))
	case jumpToPlace:
		return jumpingToPlace(in.name)
	case jumpToRegister, linkToRegister:
		return jumpingToRegister()
	}
	return setting(in.shape.operands(), calculationOf(in.name))
}

// setting sets the first operand to what is made of the others. Where there is
// but one other (lui), it is both numbers.
func setting(operands []operand, calculate calculation) deed {
	target, first, second := operands[0], operands[1], operands[len(operands)-1]
	return func(m *machine, word uint32) int {
		number, fits := calculate(m.number(first, word), m.number(second, word))
		if !fits {
			return Overflow
		}
		m.set(target.field().get(word), number)
		return goesOn
	}
}

func calculationOf(name string) calculation {
	switch name {
	case "add", "addi":
		return exactly(func(a, b int64) int64 { return a + b })
	case "sub":
		return exactly(func(a, b int64) int64 { return a - b })
	case "addu", "addiu":
		return always(func(a, b uint32) uint32 { return a + b })
	case "subu":
		return always(func(a, b uint32) uint32 { return a - b })
	case "and", "andi":
		return always(func(a, b uint32) uint32 { return a & b })
	case "or", "ori":
		return always(func(a, b uint32) uint32 { return a | b })
	case "xor", "xori":
		return always(func(a, b uint32) uint32 { return a ^ b })
	case "nor":
		return always(func(a, b uint32) uint32 { return ^(a | b) })
	case "slt", "slti":
		return oneIf(func(a, b uint32) bool { return int32(a) < int32(b) })
	case "sltu", "sltiu":
		return oneIf(func(a, b uint32) bool { return a < b })
	case "sll", "sllv":
		return always(func(a, b uint32) uint32 { return a << (b % 32) })
	case "srl", "srlv":
		return always(func(a, b uint32) uint32 { return a >> (b % 32) })
	case "sra", "srav":
		return always(func(a, b uint32) uint32 { return uint32(int32(a) >> (b % 32)) })
	}
	return always(func(half, _ uint32) uint32 { return half << 16 }) // lui
}

// exactly makes a calculation with signs that has no room for more than 32
// bits.
func exactly(calculate func(a, b int64) int64) calculation {
	return func(a, b uint32) (uint32, bool) {
		number := calculate(int64(int32(a)), int64(int32(b)))
		return uint32(number), number == int64(int32(number))
	}
}

// always makes a calculation modulo 2^32, for which there is room.
func always(calculate func(a, b uint32) uint32) calculation {
	return func(a, b uint32) (uint32, bool) { return calculate(a, b), true }
}

func oneIf(holds func(a, b uint32) bool) calculation {
	return always(func(a, b uint32) uint32 {
		if holds(a, b) {
			return 1
		}
		return 0
	})
}

// branching goes where the word says, if a condition of its registers holds.
func branching(s shape, goes func(s, t int32) bool) deed {
	return func(m *machine, word uint32) int {
		to, _ := goal(s, int(m.here), word)
		if goes(int32(m.number(registerS, word)), int32(m.number(registerT, word))) {
			m.then = uint32(to)
		}
		return goesOn
	}
}

// conditionOf is when a branch goes. Those that tell no $t are held against 0:
// what stands in its part is none of theirs.
func conditionOf(name string) func(s, t int32) bool {
	switch name {
	case "beq":
		return func(s, t int32) bool { return s == t }
	case "bne":
		return func(s, t int32) bool { return s != t }
	case "blez":
		return func(s, _ int32) bool { return s <= 0 }
	case "bgtz":
		return func(s, _ int32) bool { return s > 0 }
	case "bltz":
		return func(s, _ int32) bool { return s < 0 }
	}
	return func(s, _ int32) bool { return s >= 0 } // bgez
}

// jumpingToPlace leaves behind where one would have gone on: in register 0,
// which does not take it, for j.
func jumpingToPlace(name string) deed {
	link := int64(0)
	if name == "jal" {
		link = 31
	}
	return func(m *machine, word uint32) int {
		to, _ := goal(jumpToPlace{}, int(m.here), word)
		m.set(link, m.then)
		m.then = m.next>>28<<28 | uint32(to)
		return goesOn
	}
}

// jumpingToRegister is for jr, too, whose $d is not told and so register 0.
// $s is taken first: it may be the register that is set.
func jumpingToRegister() deed {
	return func(m *machine, word uint32) int {
		to := m.number(registerS, word)
		m.set(registerD.field().get(word), m.then)
		m.then = to
		return goesOn
	}
}

func moving(name string) deed {
	whole := func(number uint32) uint32 { return number }
	switch name {
	case "lb":
		return loading(1, func(number uint32) uint32 { return uint32(int8(number)) })
	case "lh":
		return loading(2, func(number uint32) uint32 { return uint32(int16(number)) })
	case "lw":
		return loading(4, whole)
	case "lbu":
		return loading(1, whole)
	case "lhu":
		return loading(2, whole)
	case "sb":
		return storing(1)
	case "sh":
		return storing(2)
	}
	return storing(4) // sw
}

func loading(count uint32, widen func(number uint32) uint32) deed {
	return atPlace(count, func(m *machine, word uint32, bytes []byte) {
		m.set(registerT.field().get(word), widen(numberOf(bytes)))
	})
}

func storing(count uint32) deed {
	return atPlace(count, func(m *machine, word uint32, bytes []byte) {
		lay(bytes, m.number(registerT, word))
	})
}

// atPlace does something with the bytes at $s and the half, if there are any.
func atPlace(count uint32, move func(m *machine, word uint32, bytes []byte)) deed {
	return func(m *machine, word uint32) int {
		bytes, there := m.bytesAt(m.number(registerS, word)+m.number(halfAtS, word), count)
		if !there {
			return Address
		}
		move(m, word, bytes)
		return goesOn
	}
}

func calling(name string) deed {
	if name == "break" {
		return func(*machine, uint32) int { return Break }
	}
	return func(m *machine, _ uint32) int { return m.call() }
}
