package mill

import (
	"strconv"
	"strings"
)

// goesOn is what a word that is done answers where another would be an end.
const goesOn = -1

// machine is that of one run.
type machine struct {
	memory    [memorySize]byte
	registers [32]uint32
	here      uint32 // the place of the word that is done
	next      uint32 // that of the next one
	then      uint32 // that of the one behind the next: jumps set it
	jumped    bool   // the word done ahead of this one jumped
	steps     int
	out       strings.Builder
}

func newMachine(image string) *machine {
	m := &machine{next: 4}
	copy(m.memory[:], image)
	return m
}

// run does words till the end, and answers which it is.
func (m *machine) run(fuel int) int {
	for m.steps < fuel {
		if end := m.step(); end != goesOn {
			return end
		}
	}
	return Spent
}

// step does a word. What is to be seen in a State changes only if it goes on.
func (m *machine) step() int {
	bytes, there := m.bytesAt(m.here, 4)
	if !there {
		return Address
	}
	word := numberOf(bytes)
	in, means := meaning(word)
	if !means {
		return Reserved
	}
	jump := jumps(in.shape)
	if jump && m.jumped {
		return Slot
	}
	m.then = m.next + 4
	if end := deedOf(in)(m, word); end != goesOn {
		return end
	}
	m.here, m.next, m.jumped = m.next, m.then, jump
	m.steps++
	return goesOn
}

// bytesAt are bytes of the memory itself, if all of them are in it and they
// stand where that many may.
func (m *machine) bytesAt(place, count uint32) ([]byte, bool) {
	if place%count != 0 || place > memorySize-count {
		return nil, false
	}
	return m.memory[place : place+count], true
}

// numberOf is what bytes stand for, the highest first.
func numberOf(bytes []byte) uint32 {
	number := uint32(0)
	for _, b := range bytes {
		number = number<<8 | uint32(b)
	}
	return number
}

// lay has bytes stand for a number, or for the lowest part of it.
func lay(bytes []byte, number uint32) {
	for i := len(bytes) - 1; i >= 0; i-- {
		bytes[i] = byte(number)
		number >>= 8
	}
}

// number is what a word's operand stands for: what is in a register, or what
// the word itself has.
func (m *machine) number(o operand, word uint32) uint32 {
	number := uint32(o.field().get(word))
	switch o {
	case registerD, registerS, registerT:
		return m.registers[number]
	}
	return number
}

// set leaves register 0 alone, since that is always 0.
func (m *machine) set(register int64, number uint32) {
	if register != 0 {
		m.registers[register] = number
	}
}

// call is a syscall.
func (m *machine) call() int {
	switch m.registers[2] {
	case 1:
		m.out.WriteString(strconv.Itoa(int(int32(m.registers[4]))) + "\n")
	case 10:
		return Exit
	}
	return goesOn
}

func (m *machine) state(end int) State {
	s := State{Out: m.out.String(), End: end, Steps: m.steps, Pc: int(m.here)}
	for i, number := range m.registers {
		s.Regs[i] = int(number)
	}
	return s
}
