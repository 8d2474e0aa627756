package mill

import (
	"strconv"
	"strings"
)

// listing is an image while it is listed.
type listing struct {
	words []listedWord
}

type listedWord struct {
	place    int
	word     uint32
	in       named
	goal     int
	goes     bool // by branch or place, to the goal
	tellable bool
	reached  bool // one goes on from it
	told     bool // as an instruction
	labelled bool // a word that is told goes here
}

func newListing(image string) *listing {
	l := &listing{}
	for at := 0; at < len(image); at += 4 {
		word := uint32(image[at])<<24 | uint32(image[at+1])<<16 | uint32(image[at+2])<<8 | uint32(image[at+3])
		l.words = append(l.words, newListedWord(at, word, len(image)))
	}
	return l
}

func newListedWord(place int, word uint32, size int) listedWord {
	w := listedWord{place: place, word: word}
	w.in, w.tellable = meaning(word)
	if !w.tellable {
		return w
	}
	w.goal, w.goes = goal(w.in.shape, place, word)
	if w.goes && (w.goal < 0 || w.goal >= size) {
		w.tellable = false
	}
	return w
}

// tellableAt is the word at a place, or nil where none stands that can be
// told.
func (l *listing) tellableAt(place int) *listedWord {
	if place < 0 || place%4 != 0 || place/4 >= len(l.words) || !l.words[place/4].tellable {
		return nil
	}
	return &l.words[place/4]
}

// follow marks the words from which one goes on, from the entry on.
func (l *listing) follow(entry int) {
	open := []int{entry}
	for len(open) > 0 {
		w := l.tellableAt(open[len(open)-1])
		open = open[:len(open)-1]
		if w != nil && !w.reached {
			w.reached = true
			open = append(open, w.next()...)
		}
	}
}

// next are the places to which one comes from a word.
func (w *listedWord) next() []int {
	var places []int
	if w.goes {
		places = append(places, w.goal)
	}
	if !w.in.goesOnBehind() {
		return places
	}
	if jumps(w.in.shape) {
		return append(places, w.place+8)
	}
	return append(places, w.place+4)
}

// tellWords keeps what is told apart from what is reached: a word that is told
// only for the jump ahead of it is not gone on from, nor is the word behind it
// told for its sake.
func (l *listing) tellWords() {
	for i := range l.words {
		w := &l.words[i]
		if !w.reached {
			continue
		}
		w.told = true
		if behind := l.tellableAt(w.place + 4); behind != nil && jumps(w.in.shape) {
			behind.told = true
		}
	}
}

func (l *listing) placeLabels() {
	for _, w := range l.words {
		if w.told && w.goes {
			l.words[w.goal/4].labelled = true
		}
	}
}

func (l *listing) text() string {
	var text strings.Builder
	for _, w := range l.words {
		if w.labelled {
			text.WriteString(labelAt(w.place) + ":\n")
		}
		text.WriteString("\t" + w.text() + "\n")
	}
	return text.String()
}

func (w listedWord) text() string {
	if !w.told {
		return numberText(w.word)
	}
	var operands []string
	for _, o := range w.in.shape.operands() {
		operands = append(operands, w.operandText(o))
	}
	if len(operands) == 0 {
		return w.in.name
	}
	return w.in.name + " " + strings.Join(operands, ", ")
}

func (w listedWord) operandText(o operand) string {
	number := strconv.FormatInt(o.field().get(w.word), 10)
	switch o {
	case registerD, registerS, registerT:
		return "$" + number
	case halfAtS:
		return number + "(" + w.operandText(registerS) + ")"
	case toLabel:
		return labelAt(w.goal)
	}
	return number
}

func labelAt(place int) string {
	return "L" + strconv.Itoa(place)
}

func numberText(word uint32) string {
	digits := strconv.FormatUint(uint64(word), 16)
	return ".word 0x" + strings.Repeat("0", 8-len(digits)) + digits
}
