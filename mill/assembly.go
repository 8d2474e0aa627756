package mill

import "strings"

// assembly is an image while it is put together.
type assembly struct {
	names  map[string]instruction
	labels map[string]int // the places that they stand for
	words  []uint32
	open   []openWord
	line   int // the one that is blamed if the text is given up
}

// openWord is a word that does not yet say where it goes.
type openWord struct {
	index  int
	line   int
	shape  shape
	goesTo string
}

func newAssembly() *assembly {
	return &assembly{names: instructions(), labels: map[string]int{}}
}

// addLines takes what is behind the last newline for a line even where it is
// empty: an empty line says nothing and breaks nothing.
func (a *assembly) addLines(text string) {
	for i, line := range strings.Split(text, "\n") {
		a.line = i + 1
		a.addStatement(readLine(line, a.names))
	}
}

// addStatement finds what is wrong with a statement in the order of P6.
func (a *assembly) addStatement(s statement) {
	if s.label != "" {
		a.addLabel(s.label)
	}
	if !s.field.takes(s.number) {
		panic(ErrRange)
	}
	if s.hasWord {
		a.addWord(s)
	}
}

func (a *assembly) addLabel(label string) {
	if _, there := a.labels[label]; there {
		panic(ErrTwice)
	}
	a.labels[label] = 4 * len(a.words)
}

func (a *assembly) addWord(s statement) {
	if len(a.words) == maxImage/4 {
		panic(ErrMany)
	}
	if s.goesTo != "" {
		a.open = append(a.open, openWord{len(a.words), a.line, s.shape, s.goesTo})
	}
	a.words = append(a.words, s.word|s.field.put(s.number))
}

// settleLabels comes behind all lines, since a word may go to a label that
// stands below it.
func (a *assembly) settleLabels() {
	for _, o := range a.open {
		a.line = o.line
		place, there := a.labels[o.goesTo]
		if !there {
			panic(ErrName)
		}
		a.words[o.index] |= going(o.shape, 4*o.index, place)
	}
}

func (a *assembly) image() string {
	var bytes []byte
	for _, w := range a.words {
		bytes = append(bytes, byte(w>>24), byte(w>>16), byte(w>>8), byte(w))
	}
	return string(bytes)
}
