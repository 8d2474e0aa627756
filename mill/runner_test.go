package mill

import (
	"encoding/binary"
	"fmt"
	"math/rand"
	"strings"
	"testing"
)

// secondRunner runs as P8 says, another way: by one list of what is done under
// each name of the tests' table, with numbers of 64 bits that are cut down to
// 32, and with a goal that waits while the word behind a jump is done.
type secondRunner struct {
	memory  [1024]byte
	regs    [32]int64
	place   int64
	waiting bool
	goal    int64
	out     string
	done    int
	seen    map[string]bool
}

func modulo(number int64) int64 {
	return number & 0xffffffff
}

// signed is a number of so many bits, taken with its sign.
func signed(number int64, bits int) int64 {
	if number >= 1<<(bits-1) {
		return number - 1<<bits
	}
	return number
}

func (r *secondRunner) run(image string, fuel int) State {
	for i := range len(image) {
		r.memory[i] = image[i]
	}
	end := -1
	for end < 0 {
		if r.done == fuel {
			end = Spent
			break
		}
		end = r.doOne()
	}
	s := State{Out: r.out, End: end, Steps: r.done, Pc: int(r.place)}
	for i := range s.Regs {
		s.Regs[i] = int(r.regs[i])
	}
	return s
}

func (r *secondRunner) doOne() int {
	if r.place%4 != 0 || r.place+4 > 1024 {
		return Address
	}
	word := int64(binary.BigEndian.Uint32(r.memory[r.place:]))
	found := rowsOf(uint32(word))
	if len(found) == 0 {
		return Reserved
	}
	name, operands := found[0].name, found[0].operands
	if strings.HasSuffix(operands, "b") || operands == "p" || name == "jr" || name == "jalr" {
		return r.jump(name, word)
	}
	if end := r.set(name, word); end >= 0 {
		return end
	}
	r.regs[0] = 0
	r.count(name)
	r.place = modulo(r.place + 4)
	if r.waiting {
		r.place, r.waiting = r.goal, false
	}
	return -1
}

func (r *secondRunner) count(name string) {
	r.done++
	if r.seen != nil {
		r.seen[name] = true
	}
}

func (r *secondRunner) jump(name string, word int64) int {
	if r.waiting {
		return Slot
	}
	s, t := signed(r.regs[word>>21&31], 32), signed(r.regs[word>>16&31], 32)
	goes, goal := false, r.place+4+4*signed(word&0xffff, 16)
	switch name {
	case "beq":
		goes = s == t
	case "bne":
		goes = s != t
	case "blez":
		goes = s <= 0
	case "bgtz":
		goes = s > 0
	case "bltz":
		goes = s < 0
	case "bgez":
		goes = s >= 0
	case "j", "jal":
		goes, goal = true, (r.place+4)&0xf0000000+4*(word&0x3ffffff)
	case "jr", "jalr":
		goes, goal = true, s
	}
	if name == "jal" {
		r.regs[31] = modulo(r.place + 8)
	}
	if name == "jalr" {
		r.regs[word>>11&31] = modulo(r.place + 8)
	}
	if !goes {
		goal = r.place + 8
	}
	r.regs[0] = 0
	r.waiting, r.goal = true, modulo(goal)
	r.count(name)
	r.place = modulo(r.place + 4)
	return -1
}

func (r *secondRunner) set(name string, word int64) int {
	s, t := r.regs[word>>21&31], r.regs[word>>16&31]
	setD, setT := &r.regs[word>>11&31], &r.regs[word>>16&31]
	n, half := word>>6&31, word&0xffff
	wide := modulo(signed(half, 16))
	switch name {
	case "addu":
		*setD = modulo(s + t)
	case "subu":
		*setD = modulo(s - t)
	case "addiu":
		*setT = modulo(s + wide)
	case "add":
		return r.fit(setD, signed(s, 32)+signed(t, 32))
	case "sub":
		return r.fit(setD, signed(s, 32)-signed(t, 32))
	case "addi":
		return r.fit(setT, signed(s, 32)+signed(half, 16))
	case "and":
		*setD = s & t
	case "or":
		*setD = s | t
	case "xor":
		*setD = s ^ t
	case "nor":
		*setD = 0xffffffff - (s | t)
	case "andi":
		*setT = s & half
	case "ori":
		*setT = s | half
	case "xori":
		*setT = s ^ half
	case "slt":
		*setD = oneWhere(signed(s, 32) < signed(t, 32))
	case "sltu":
		*setD = oneWhere(s < t)
	case "slti":
		*setT = oneWhere(signed(s, 32) < signed(half, 16))
	case "sltiu":
		*setT = oneWhere(s < wide)
	case "sll":
		*setD = modulo(t << n)
	case "srl":
		*setD = t >> n
	case "sra":
		*setD = modulo(signed(t, 32) >> n)
	case "sllv":
		*setD = modulo(t << (s % 32))
	case "srlv":
		*setD = t >> (s % 32)
	case "srav":
		*setD = modulo(signed(t, 32) >> (s % 32))
	case "lui":
		*setT = half * 65536
	case "break":
		return Break
	case "syscall":
		if r.regs[2] == 10 {
			return Exit
		}
		if r.regs[2] == 1 {
			r.out += fmt.Sprintf("%d\n", signed(r.regs[4], 32))
		}
	default:
		return r.move(name, modulo(s+wide), setT)
	}
	return -1
}

func oneWhere(holds bool) int64 {
	if holds {
		return 1
	}
	return 0
}

func (r *secondRunner) fit(set *int64, number int64) int {
	if number < -2147483648 || number > 2147483647 {
		return Overflow
	}
	*set = modulo(number)
	return -1
}

func (r *secondRunner) move(name string, at int64, register *int64) int {
	count := map[byte]int64{'b': 1, 'h': 2, 'w': 4}[name[1]]
	if at%count != 0 || at >= 1024 {
		return Address
	}
	if name[0] == 's' {
		for i := range count {
			r.memory[at+i] = byte(*register >> (8 * (count - 1 - i)))
		}
		return -1
	}
	number := int64(0)
	for i := range count {
		number = number*256 + int64(r.memory[at+i])
	}
	if !strings.HasSuffix(name, "u") {
		number = modulo(signed(number, int(8*count)))
	}
	*register = number
	return -1
}

func compareRun(t *testing.T, image string, fuel int, seen map[string]bool) State {
	t.Helper()
	got, errno := Run(image, fuel)
	want, wantErrno := State{}, OK
	if len(image) > 256 {
		wantErrno = ErrLong
	} else if fuel < 0 || fuel > 2000 {
		wantErrno = ErrArg
	} else {
		second := secondRunner{seen: seen}
		want = second.run(image, fuel)
	}
	if got != want || errno != wantErrno {
		t.Fatalf("P7, P8: Run(%x, %d) = %+v, %d, want %+v, %d", image, fuel, got, errno, want, wantErrno)
	}
	return got
}

// randomProgram has words that go on for long: few registers, set to numbers
// of all kinds at the beginning, near goals, and places that are in the memory.
func randomProgram(random *rand.Rand) string {
	pick := func(from ...uint32) uint32 { return from[random.Intn(len(from))] }
	register := func() uint32 { return pick(0, 1, 2, 3, 4, 4, 5, 6, 31) }
	var words []uint32
	for of := uint32(1); of < 6; of++ {
		words = append(words, 0x3c000000|of<<16|pick(0, 0, 0, 1, 0x7fff, 0x8000, 0xffff, random.Uint32()&0xffff))
		words = append(words, 0x34000000|of<<21|of<<16|pick(0, 1, 10, 16, 40, 64, 0x7fff, 0xffff, 0x3fc, random.Uint32()&0xffff))
	}
	size := 16 + random.Intn(49)
	for len(words) < size {
		r := rows[random.Intn(len(rows))]
		for random.Intn(4) > 0 && (strings.Contains(" j jal jr jalr break ", " "+r.name+" ") || random.Intn(3) > 0 && strings.HasSuffix(r.operands, "b")) {
			r = rows[random.Intn(len(rows))]
		}
		word := r.bare
		for _, o := range r.operands {
			switch o {
			case 'd', 's', 't':
				word |= register() << letterShift[o]
			case 'm':
				word |= pick(0, 0, register())<<21 | pick(0, 4, 8, 16, 64, 252, 256, 512, 1016, 1020, 1022, 1023, random.Uint32()%1024)
				if random.Intn(8) == 0 {
					word = word&^0xffff | pick(1024, 0xffff, 0xfffc, 0x7fff, 0x8000)
				}
			case 'n':
				word |= pick(0, 1, 8, 16, 31) << 6
			case 'i', 'u':
				word |= pick(0, 1, 4, 10, 0x7fff, 0x8000, 0xffff, 0xfffc, random.Uint32()&0xffff)
			case 'b':
				word |= uint32(random.Intn(size)-len(words)-1) & 0xffff
			case 'p':
				word |= uint32(random.Intn(size))
			}
		}
		if random.Intn(60) == 0 {
			word ^= 1 << random.Intn(32)
		}
		words = append(words, word)
	}
	var image []byte
	for _, word := range words {
		image = binary.BigEndian.AppendUint32(image, word)
	}
	return string(image)
}

// P1, P3, P7 and P8: programs of all kinds, against the second runner.
func TestRunsAgainstSecond(t *testing.T) {
	random := rand.New(rand.NewSource(4))
	seen, ends, steps, wrote := map[string]bool{}, map[int]int{}, 0, 0
	for range 6000 {
		for _, image := range []string{randomProgram(random), randomImage(random)} {
			s := compareRun(t, image, random.Intn(2001), seen)
			compareRun(t, image, random.Intn(60), seen)
			compareRun(t, image, s.Steps, seen)
			ends[s.End]++
			steps += s.Steps
			wrote += len(s.Out)
		}
	}
	for _, r := range rows {
		if !seen[r.name] && r.name != "break" {
			t.Errorf("%s was never done", r.name)
		}
	}
	for _, end := range []int{Exit, Spent, Break, Address, Overflow, Reserved, Slot} {
		if ends[end] == 0 {
			t.Errorf("no run ended with %d", end)
		}
	}
	t.Log(ends, steps, wrote)
}

func FuzzRun(f *testing.F) {
	f.Add(assembled(f, example), 2000)
	random := rand.New(rand.NewSource(5))
	for range 20 {
		f.Add(randomProgram(random), random.Intn(2001))
	}
	f.Fuzz(func(t *testing.T, image string, fuel int) { compareRun(t, image, fuel, nil) })
}
