package impl

import "strconv"

// Limits of values: numbers, names, and runs.
const (
	NumMax  = 99
	NameMax = 9
	RunMax  = 6
)

// Kinds of values.
const (
	ValNone = 0
	ValNum  = 1
	ValName = 2
	ValRun  = 3
)

// noneText is the text of nothing, the one value that has no number.
const noneText = "none"

// Val is a value: nothing, a number, a name, or a run.
type Val struct {
	Kind int
	N    int
}

// thing is what stands behind a value: a number, a name, or a run; nil is nothing.
type thing interface {
	count() int
	inside() bool
}

type numThing int

type nameThing int

type runThing int

func (n numThing) count() int { return int(n) }

func (n numThing) inside() bool { return -NumMax <= n && n <= NumMax }

func (n nameThing) count() int { return int(n) }

func (n nameThing) inside() bool { return 0 <= n && n <= NameMax }

func (n runThing) count() int { return int(n) }

func (n runThing) inside() bool { return 1 <= n && n <= RunMax }

// thingOf is the thing behind a value; false, if the value is not ok, as nil alone would be nothing, which is ok.
func thingOf(v Val) (thing, bool) {
	var t thing
	switch v.Kind {
	case ValNone:
		return nil, v.N == 0
	case ValNum:
		t = numThing(v.N)
	case ValName:
		t = nameThing(v.N)
	case ValRun:
		t = runThing(v.N)
	default:
		return nil, false
	}
	if !t.inside() {
		return nil, false
	}
	return t, true
}

// thingText is the text of a thing.
func thingText(t thing) string {
	letter := ""
	switch t.(type) {
	case numThing:
		letter = "n"
	case nameThing:
		letter = "a"
	case runThing:
		letter = "r"
	default:
		return noneText
	}
	return letter + strconv.Itoa(t.count())
}

// kindOfLetter is the kind of values whose texts begin with a letter; ValNone, if none do.
func kindOfLetter(letter byte) int {
	switch letter {
	case 'n':
		return ValNum
	case 'a':
		return ValName
	case 'r':
		return ValRun
	}
	return ValNone
}

// decimalRead is the number of which this is the one text: strconv reads signs and noughts ahead that are never written.
func decimalRead(text string) (int, bool) {
	n, err := strconv.Atoi(text)
	if err != nil || strconv.Itoa(n) != text {
		return 0, false
	}
	return n, true
}

// ValOk says whether a value is ok.
func ValOk(v Val) bool {
	_, ok := thingOf(v)
	return ok
}

// ValText is the text of a value.
func ValText(v Val) string {
	t, ok := thingOf(v)
	if !ok {
		return ""
	}
	return thingText(t)
}

// ValRead is the value of a text.
func ValRead(text string) (Val, bool) {
	if text == noneText {
		return Val{}, true
	}
	if text == "" {
		return Val{}, false
	}
	kind := kindOfLetter(text[0])
	n, ok := decimalRead(text[1:])
	v := Val{Kind: kind, N: n}
	if kind == ValNone || !ok || !ValOk(v) {
		return Val{}, false
	}
	return v, true
}

// numberOf is the number that a value is; false, if it is none.
func numberOf(v Val) (int, bool) {
	t, ok := thingOf(v)
	if !ok {
		return 0, false
	}
	switch n := t.(type) {
	case numThing:
		return n.count(), true
	}
	return 0, false
}

// ValAdd is the sum of two numbers.
func ValAdd(a Val, b Val) (Val, bool) {
	x, okX := numberOf(a)
	y, okY := numberOf(b)
	sum := Val{Kind: ValNum, N: x + y}
	if !okX || !okY || !ValOk(sum) {
		return Val{}, false
	}
	return sum, true
}

// ValFits says whether a value is of a kind; of 0 each is.
func ValFits(v Val, kind int) bool {
	return ValOk(v) && (kind == ValNone || kind == v.Kind)
}
