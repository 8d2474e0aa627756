package mill

import (
	"math/bits"
	"testing"
)

// P4, by the document's table: which rows a word is a word of.
func rowsOf(word uint32) []row {
	var found []row
	for _, r := range rows {
		if word&^r.bits() == r.bare {
			found = append(found, r)
		}
	}
	return found
}

func checkMeaning(t *testing.T, word uint32) {
	t.Helper()
	in, means := meaning(word)
	found := rowsOf(word)
	if len(found) > 1 {
		t.Fatalf("P4: %08x means %v", word, found)
	}
	if means != (len(found) == 1) || means && in.name != found[0].name {
		t.Fatalf("P4: meaning(%08x) = %q, %v, want %v", word, in.name, means, found)
	}
}

func TestMeaningOfWords(t *testing.T) {
	for opcode := range uint32(64) {
		for function := range uint32(64) {
			for _, s := range []uint32{0, 1, 31} {
				for _, rt := range []uint32{0, 1, 2, 16, 31} {
					for _, dn := range []uint32{0, 1, 31, 1 << 5, 31 << 5, 0x3ff} {
						checkMeaning(t, opcode<<26|s<<21|rt<<16|dn<<6|function)
					}
				}
			}
		}
	}
}

func TestMeaningHoldsAsOperandsChange(t *testing.T) {
	for _, r := range rows {
		for _, word := range []uint32{r.bare, r.bare | r.bits()} {
			if in, means := meaning(word); !means || in.name != r.name {
				t.Errorf("P4: meaning(%08x) = %q, %v, want %s", word, in.name, means, r.name)
			}
		}
	}
}

// A bit that is neither an operand's nor the number's makes a word mean
// nothing, or something else.
func TestMeaningEndsWithUntoldBits(t *testing.T) {
	for _, r := range rows {
		for bit := range 32 {
			changed := r.bare ^ 1<<bit
			in, means := meaning(changed)
			told := r.bits()>>bit&1 == 1
			if (means && in.name == r.name) != told {
				t.Errorf("P4: meaning(%08x) = %q, %v", changed, in.name, means)
			}
		}
	}
}

func TestNoWordMeansTwo(t *testing.T) {
	for i, a := range rows {
		for _, b := range rows[:i] {
			if (a.bare^b.bare)&^a.bits()&^b.bits() == 0 {
				t.Errorf("P4: some word means both %s and %s", a.name, b.name)
			}
		}
	}
}

func TestEveryInstructionIsLaidOnce(t *testing.T) {
	laid := map[string]int{}
	for opcode, list := range byOpcode {
		for _, in := range list {
			laid[in.name]++
			if int(in.bare()>>26) != opcode {
				t.Errorf("P4: %s is laid at opcode %d", in.name, opcode)
			}
		}
	}
	if len(laid) != len(rows) || len(instructions()) != len(rows) {
		t.Errorf("P4: %d instructions are laid, %d are named, want %d", len(laid), len(instructions()), len(rows))
	}
	for _, r := range rows {
		if laid[r.name] != 1 {
			t.Errorf("P4: %s is laid %d times", r.name, laid[r.name])
		}
	}
}

func TestOperandsDoNotShareBits(t *testing.T) {
	for name, in := range instructions() {
		count := bits.OnesCount32(goingBits(in.shape))
		for _, o := range in.shape.operands() {
			count += bits.OnesCount32(o.bits())
		}
		if count != bits.OnesCount32(toldBits(in.shape)) || in.bare()&toldBits(in.shape) != 0 {
			t.Errorf("P4: the parts of %s stand over each other", name)
		}
	}
}
