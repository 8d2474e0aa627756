// Package mill lists, puts together and runs words of a machine: see DOC.md.
package mill

// Errno is what a call answers: OK or the reason for a refusal.
type Errno int

const (
	OK       Errno = 0
	ErrLong  Errno = 1 // above a bound
	ErrArg   Errno = 2 // a length or number that may not be
	ErrForm  Errno = 3 // a line that is none
	ErrRange Errno = 4 // a number out of its range
	ErrTwice Errno = 5 // a label that is there already
	ErrMany  Errno = 6 // too many words
	ErrName  Errno = 7 // a label that is nowhere
)

// How a run ends.
const (
	Exit     int = 0
	Spent    int = 1
	Break    int = 2
	Address  int = 3
	Overflow int = 4
	Reserved int = 5
	Slot     int = 6
)

// Limits, in bytes, and in words that are done.
const (
	maxText    = 2000
	maxImage   = 256
	maxLabel   = 8
	memorySize = 1024
	maxFuel    = 2000
)

// State is that of the machine when it has ended.
type State struct {
	Out   string
	End   int
	Steps int
	Pc    int
	Regs  [32]int
}

// Asm puts a text together (P6).
func Asm(text string) (image string, errno Errno, line int) {
	if len(text) > maxText {
		return "", ErrLong, 0
	}
	a := newAssembly()
	defer func() {
		if given := recover(); given != nil {
			image, errno, line = "", reasonOf(given), a.line
		}
	}()
	a.addLines(text)
	a.settleLabels()
	return a.image(), OK, 0
}

// reasonOf is why a text was given up. Any other panic would be a fault of
// the program itself, which must not pass for an answer about the text.
func reasonOf(given any) Errno {
	reason, ok := given.(Errno)
	if !ok {
		panic(given)
	}
	return reason
}

// Disasm lists an image (P5).
func Disasm(image string, entry int) (string, Errno) {
	if len(image) > maxImage {
		return "", ErrLong
	}
	if len(image)%4 != 0 {
		return "", ErrArg
	}
	l := newListing(image)
	l.follow(entry)
	l.tellWords()
	l.placeLabels()
	return l.text(), OK
}

// Run runs an image (P7, P8).
func Run(image string, fuel int) (State, Errno) {
	if len(image) > maxImage {
		return State{}, ErrLong
	}
	if fuel < 0 || fuel > maxFuel {
		return State{}, ErrArg
	}
	m := newMachine(image)
	end := m.run(fuel)
	return m.state(end), OK
}
