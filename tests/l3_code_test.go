package tests

import (
	"fmt"
	"math"
	"slices"
	"strings"
	"sync"
	"testing"

	"loop.example/errandry/impl"
)

// handRows are all ok values, handSteps and handTexts all ok steps by their texts, and the other way about, worked out apart from the program.
var (
	handRows  = allRows()
	handSteps = stepsOfTexts()
	handTexts = stepTexts()
)

// steps is the code of lines that each must be the text of an ok step; the code itself may be none.
func steps(t *testing.T, lines ...string) []impl.Op {
	t.Helper()
	var code []impl.Op
	for _, line := range lines {
		o, is := handSteps[line]
		if !is {
			t.Fatalf("%q is no step", line)
		}
		code = append(code, o)
	}
	return code
}

// byBars is the code whose lines stand between bars.
func byBars(t *testing.T, text string) []impl.Op {
	t.Helper()
	return steps(t, strings.Split(text, "|")...)
}

func hasTo(o impl.Op) bool { return strings.Contains(has(o.Kind), "T") }

func okCodeByHand(code []impl.Op) bool {
	for _, o := range code {
		if _, is := handTexts[o]; !is || hasTo(o) && o.To >= len(code) {
			return false
		}
	}
	return 1 <= len(code) && len(code) <= 16
}

func textByHand(code []impl.Op) string {
	text := ""
	for _, o := range code {
		text += handTexts[o] + "\n"
	}
	return text
}

func readByHand(text string) ([]impl.Op, bool) {
	lines := strings.SplitAfter(text, "\n")
	if lines[len(lines)-1] != "" {
		return nil, false
	}
	var code []impl.Op
	for _, line := range lines[:len(lines)-1] {
		o, is := handSteps[line[:len(line)-1]]
		if !is {
			return nil, false
		}
		code = append(code, o)
	}
	if !okCodeByHand(code) {
		return nil, false
	}
	return code, true
}

// spot is where one run may be, with just the slots that it filled on its way.
type spot struct{ at, full int }

// spotsBehind are the spots behind a step, be there a place or not.
func spotsBehind(o impl.Op, s spot) []spot {
	next, to := spot{s.at + 1, s.full}, spot{o.To, s.full}
	filled := spot{s.at + 1, s.full | 1<<o.R}
	switch o.Kind {
	case impl.OpSet, impl.OpMove, impl.OpSelf, impl.OpTake:
		return []spot{filled}
	case impl.OpBegin:
		return []spot{filled, {o.To, 1}}
	case impl.OpAfter:
		return []spot{filled, to}
	case impl.OpGo:
		return []spot{to}
	case impl.OpIf:
		return []spot{next, to}
	case impl.OpEnd:
		return nil
	}
	return []spot{next}
}

// allSpots goes every way of every run: whatever is full however one comes to a place is what these have in common there.
func allSpots(code []impl.Op) []spot {
	spots := []spot{{0, 1}}
	for i := 0; i < len(spots); i++ {
		for _, s := range spotsBehind(code[spots[i].at], spots[i]) {
			if s.at < len(code) && !slices.Contains(spots, s) {
				spots = append(spots, s)
			}
		}
	}
	return spots
}

func fullByHand(code []impl.Op) []int {
	full := make([]int, len(code))
	for at := range full {
		full[at] = -1
	}
	for _, s := range allSpots(code) {
		if full[s.at] == -1 {
			full[s.at] = s.full
		}
		full[s.at] &= s.full
	}
	return full
}

func nextByHand(code []impl.Op, at int) []int {
	var places []int
	if o := code[at]; o.Kind != impl.OpGo && o.Kind != impl.OpEnd && at+1 < len(code) {
		places = append(places, at+1)
	}
	if hasTo(code[at]) && !slices.Contains(places, code[at].To) {
		places = append(places, code[at].To)
	}
	return places
}

// reachByHand looks again and again for a place that comes behind one that is there.
func reachByHand(code []impl.Op) []int {
	there := make([]bool, len(code))
	there[0] = true
	for range code {
		for at := range code {
			for _, to := range nextByHand(code, at) {
				there[to] = there[to] || there[at]
			}
		}
	}
	var places []int
	for at, is := range there {
		if is {
			places = append(places, at)
		}
	}
	return places
}

func usesByHand(o impl.Op) []int {
	switch o.Kind {
	case impl.OpMove:
		return []int{o.S}
	case impl.OpAdd, impl.OpSend:
		return []int{o.R, o.S}
	case impl.OpIf, impl.OpLink, impl.OpWatch, impl.OpEnd:
		return []int{o.R}
	}
	return nil
}

// safeByHand lets no run at any of its spots read what it did not fill, nor come behind the last step.
func safeByHand(code []impl.Op) bool {
	for _, s := range allSpots(code) {
		o := code[s.at]
		for _, slot := range usesByHand(o) {
			if s.full&(1<<slot) == 0 {
				return false
			}
		}
		if s.at == len(code)-1 && o.Kind != impl.OpGo && o.Kind != impl.OpEnd {
			return false
		}
	}
	return true
}

// dice are numbers that look like chance, the same each time.
type dice struct{ state uint64 }

func (d *dice) below(n int) int {
	d.state = d.state*6364136223846793005 + 1442695040888963407
	return int((d.state >> 33) % uint64(n))
}

// read is a slot to read: mostly the first, so that codes are not nearly all unsafe.
func (d *dice) read() int { return max(0, d.below(10)-6) }

func (d *dice) step(size int) impl.Op {
	kind := 1 + d.below(14)
	o := impl.Op{Kind: kind}
	if strings.Contains(has(kind), "R") {
		o.R = d.below(4)
		if slices.Contains([]int{3, 6, 10, 11, 12, 14}, kind) {
			o.R = d.read()
		}
	}
	if strings.Contains(has(kind), "S") {
		o.S = d.read()
	}
	if hasTo(o) {
		o.To = d.below(size)
	}
	switch kind {
	case impl.OpSet, impl.OpIf:
		o.V = handRows[d.below(len(handRows))].v
	case impl.OpAfter:
		o.V = num(1 + d.below(99))
	case impl.OpTrap:
		o.V = num(d.below(2))
	}
	return o
}

func (d *dice) code() []impl.Op {
	size := 1 + d.below(16)
	code := make([]impl.Op, size)
	for i := range code {
		code[i] = d.step(size)
	}
	if d.below(3) > 0 {
		code[size-1] = []impl.Op{{Kind: impl.OpEnd}, {Kind: impl.OpGo, To: d.below(size)}}[d.below(2)]
	}
	return code
}

// manyCodes are codes thrown by dice, and all codes of one to three steps of a few kinds; made once, and not to be written into.
var manyCodes = sync.OnceValue(throwCodes)

func throwCodes() []codeCase {
	var cases []codeCase
	d := &dice{state: 17}
	for range 6000 {
		cases = append(cases, codeCase{code: d.code()})
	}
	for size := 1; size <= 3; size++ {
		cases = append(cases, smallCodes(size)...)
	}
	return cases
}

type codeCase struct{ code []impl.Op }

func (c codeCase) String() string { return fmt.Sprintf("%q", textByHand(c.code)) }

func smallCodes(size int) []codeCase {
	few := []impl.Op{
		{Kind: impl.OpSet, R: 1, V: num(1)}, {Kind: impl.OpMove, R: 1, S: 2}, {Kind: impl.OpAdd, R: 1}, {Kind: impl.OpSend, S: 1},
		{Kind: impl.OpTake, R: 2}, {Kind: impl.OpLink, R: 1}, {Kind: impl.OpEnd, R: 1}, {Kind: impl.OpEnd},
	}
	for to := range size {
		few = append(few, impl.Op{Kind: impl.OpBegin, R: 1, To: to}, impl.Op{Kind: impl.OpAfter, R: 1, To: to, V: num(1)},
			impl.Op{Kind: impl.OpGo, To: to}, impl.Op{Kind: impl.OpIf, To: to}, impl.Op{Kind: impl.OpIf, R: 1, To: to})
	}
	cases := []codeCase{{}}
	for range size {
		var longer []codeCase
		for _, c := range cases {
			for _, o := range few {
				longer = append(longer, codeCase{append(slices.Clone(c.code), o)})
			}
		}
		cases = longer
	}
	return cases
}

// safeCodes are those of manyCodes that are safe by hand: enough of them, and long ones too.
func safeCodes(t *testing.T) []codeCase {
	t.Helper()
	var safe []codeCase
	long := 0
	for _, c := range manyCodes() {
		if safeByHand(c.code) {
			safe = append(safe, c)
			if len(c.code) > 8 {
				long++
			}
		}
	}
	if len(safe) < 500 || long < 50 {
		t.Fatalf("just %d safe codes, %d of them long", len(safe), long)
	}
	return safe
}

func mustNotReadCode(t *testing.T, text string) {
	t.Helper()
	if code, ok := impl.CodeRead(text); ok || len(code) != 0 {
		t.Errorf("CodeRead(%.60q), of %d bytes, is %v, %v, not nothing and false", text, len(text), code, ok)
	}
}

// mustNotBeCode holds each function to its one fixed answer at what is not ok.
func mustNotBeCode(t *testing.T, code []impl.Op) {
	t.Helper()
	if impl.CodeOk(code) || impl.CodeSafe(code) {
		t.Errorf("%v: ok %v, safe %v", code, impl.CodeOk(code), impl.CodeSafe(code))
	}
	if text := impl.CodeText(code); text != "" {
		t.Errorf("CodeText(%v) is %q", code, text)
	}
	if full, reach := impl.CodeFull(code), impl.CodeReach(code); len(full) != 0 || len(reach) != 0 {
		t.Errorf("%v: full %v, reach %v", code, full, reach)
	}
	for at := -1; at <= len(code); at++ {
		if next := impl.CodeNext(code, at); len(next) != 0 {
			t.Errorf("CodeNext(%v, %d) is %v", code, at, next)
		}
	}
}

// filler is so many steps that end with the first slot: ok at every place of every code.
func filler(size int) []impl.Op {
	code := make([]impl.Op, size)
	for i := range code {
		code[i] = impl.Op{Kind: impl.OpEnd}
	}
	return code
}

func checkReadBack(t *testing.T, code []impl.Op) {
	t.Helper()
	text := textByHand(code)
	if got := impl.CodeText(code); got != text {
		t.Fatalf("CodeText(%v) is %q, not %q", code, got, text)
	}
	if got, ok := impl.CodeRead(text); !ok || !slices.Equal(got, code) {
		t.Fatalf("CodeRead(%q) is %v, %v", text, got, ok)
	}
}

func TestP17EveryStepIsReadBackInACode(t *testing.T) {
	var all []impl.Op
	for _, r := range append(edgeSteps(), allSteps()...) {
		all = append(all, r.o)
	}
	for len(all) > 0 {
		size := min(16, len(all))
		code := append(all[:size:size], filler(16-size)...)
		checkReadBack(t, code)
		all = all[size:]
	}
}

func TestP17CodesOfEverySizeAreReadBack(t *testing.T) {
	for size := 1; size <= 16; size++ {
		code := filler(size)
		code[0] = impl.Op{Kind: impl.OpGo, To: size - 1}
		checkReadBack(t, code)
		if lines := strings.Count(impl.CodeText(code), "\n"); lines != size {
			t.Errorf("%d steps have %d lines", size, lines)
		}
	}
	longest := steps(t, slices.Repeat([]string{"after 3 3 15 n99"}, 16)...)
	checkReadBack(t, longest)
}

func TestP17ManyCodesAreReadBack(t *testing.T) {
	for _, c := range manyCodes() {
		checkReadBack(t, c.code)
	}
}

func TestP18OtherTextsAreNone(t *testing.T) {
	for _, text := range []string{
		"", "\n", "\n\n", " ", " \n", "\r\n", "\x00", "\x00\n", "\xff\n", "none\n", "n1\n",
		"end 0", "end 0\nend 0", "end 0\n\n", "\nend 0\n", "end 0\n\nend 0\n", "end 0\n\n\n", "end 0\n ", "end 0\n \n", "end 0 \n", " end 0\n", "end 0\r\n", "end 0\n\x00", "end 0\x00\n", "end 0\nend", "end 0\ne",
		"end 4\n", "end\n", "end 0 0\n", "end 00\n", "End 0\n", "end  0\n", "end 0\nend 4\n", "end 4\nend 0\n", "end 0\nset 0 n100\nend 0\n", "end 0;end 0\n", "end 0|end 0\n", "end 0 end 0\n", "end 0\tend 0\n", "end 0\vend 0\n", "end 0\xe2\x80\xa8end 0\n", "// end 0\n", "end 0\n# end 0\n", "\xef\xbb\xbfend 0\n",
		"go 1\n", "go 2\nend 0\n", "end 0\ngo 2\n", "begin 1 1\n", "begin 1 2\nend 0\n", "after 1 1 1 n1\n", "end 0\nafter 1 1 2 n1\n", "if 0 1 n1\n", "if 0 2 n1\nend 0\n", "go 16\n", "go 15\n", "go -1\n",
	} {
		mustNotReadCode(t, text)
	}
}

func TestP18LinesBeyondCodeMaxAreNone(t *testing.T) {
	for _, line := range []string{"end 0\n", "go 0\n", "go 15\n", "set 1 n-99\n", "self 3\n"} {
		if code, ok := impl.CodeRead(strings.Repeat(line, 16)); !ok || len(code) != 16 {
			t.Errorf("16 lines %q: %v, %v", line, code, ok)
		}
		for _, more := range []int{17, 18, 32, 40} {
			mustNotReadCode(t, strings.Repeat(line, more))
		}
	}
}

func TestP18LongTextsAreNone(t *testing.T) {
	whole := strings.Repeat("after 3 3 15 n99\n", 16)
	for size := 390; size <= 410; size++ {
		for _, more := range []string{" ", "\n", "0", "end 0\n"} {
			mustNotReadCode(t, (whole + strings.Repeat(more, size))[:size])
			mustNotReadCode(t, (whole + strings.Repeat(more, size))[:size-1]+"\n")
		}
		mustNotReadCode(t, strings.Repeat(" ", size-len(whole))+whole)
		mustNotReadCode(t, "go "+strings.Repeat("0", size-5)+"0\n")
	}
	for _, size := range []int{1000, 1 << 20} {
		mustNotReadCode(t, strings.Repeat("end 0\n", size))
		mustNotReadCode(t, strings.Repeat("\n", size))
	}
}

// Texts with one byte less, more, or another one: what is read must be just the ok codes.
func TestP18OnlyOwnTextsAreRead(t *testing.T) {
	read := 0
	try := func(text string) {
		want, is := readByHand(text)
		got, ok := impl.CodeRead(text)
		if ok != is || !slices.Equal(got, want) {
			t.Fatalf("CodeRead(%q) is %v, %v, not %v, %v", text, got, ok, want, is)
		}
		if ok {
			read++
			if !impl.CodeOk(got) || impl.CodeText(got) != text {
				t.Fatalf("CodeRead(%q): %v is not ok, or has another text", text, got)
			}
		}
	}
	d := &dice{state: 3}
	for range 60 {
		text := textByHand(d.code())
		for i := 0; i <= len(text); i++ {
			tryByteAt(text, i, try)
		}
	}
	if read < 1000 {
		t.Errorf("just %d texts were read", read)
	}
}

func TestP19NoneAndTooMany(t *testing.T) {
	for size := 0; size <= 40; size++ {
		if got := impl.CodeOk(filler(size)); got != (1 <= size && size <= 16) {
			t.Errorf("CodeOk of %d steps is %v", size, got)
		}
	}
	mustNotBeCode(t, nil)
	mustNotBeCode(t, []impl.Op{})
	mustNotBeCode(t, filler(17))
	mustNotBeCode(t, make([]impl.Op, 3))
}

func TestP19GoingToTheLastPlaceAndBeyond(t *testing.T) {
	for _, o := range []impl.Op{
		{Kind: impl.OpBegin, R: 1}, {Kind: impl.OpAfter, R: 1, S: 1, V: num(1)}, {Kind: impl.OpGo}, {Kind: impl.OpIf, V: num(1)},
	} {
		for size := 1; size <= 16; size++ {
			for at := range size {
				code := filler(size)
				code[at] = o
				code[at].To = size - 1
				if !impl.CodeOk(code) {
					t.Errorf("CodeOk(%v) is false", code)
				}
				for _, to := range []int{size, size + 1, 16, -1, math.MaxInt, math.MinInt} {
					code[at].To = to
					mustNotBeCode(t, code)
				}
			}
		}
	}
}

func TestP19AStepThatIsNotOkAtAnyPlace(t *testing.T) {
	bad := []impl.Op{
		{}, {Kind: 15}, {Kind: -1}, {Kind: math.MaxInt}, {Kind: math.MinInt}, {Kind: impl.OpEnd, R: 4}, {Kind: impl.OpEnd, R: -1}, {Kind: impl.OpEnd, R: math.MinInt}, {Kind: impl.OpEnd, S: 1}, {Kind: impl.OpEnd, V: num(0)},
		{Kind: impl.OpSet, R: math.MinInt}, {Kind: impl.OpSet, R: 64}, {Kind: impl.OpSet, V: num(100)}, {Kind: impl.OpMove, S: 4}, {Kind: impl.OpTake, S: 4}, {Kind: impl.OpTrap}, {Kind: impl.OpTrap, V: num(2)}, {Kind: impl.OpAfter}, {Kind: impl.OpAfter, V: num(0)},
		{Kind: impl.OpSelf, To: 1}, {Kind: impl.OpLink, To: -1}, {Kind: impl.OpGo, R: 1}, {Kind: impl.OpGo, To: 16}, {Kind: impl.OpGo, To: -1},
	}
	for _, o := range bad {
		for _, size := range []int{1, 2, 5, 16} {
			for at := range size {
				code := filler(size)
				code[at] = o
				mustNotBeCode(t, code)
			}
		}
	}
}

func TestP19OkOfManyCodes(t *testing.T) {
	for _, c := range manyCodes() {
		if !impl.CodeOk(c.code) {
			t.Fatalf("CodeOk(%v) is false", c)
		}
		short := c.code[:len(c.code)-1]
		if got := impl.CodeOk(short); got != okCodeByHand(short) {
			t.Fatalf("CodeOk of all but the last of %v is %v", c, got)
		}
	}
}

func checkFull(t *testing.T, lines string, want ...int) {
	t.Helper()
	if got := impl.CodeFull(byBars(t, lines)); !slices.Equal(got, want) {
		t.Errorf("CodeFull of %q is %v, not %v", lines, got, want)
	}
}

func TestP20TheFirstPlaceAndWhereARunBegins(t *testing.T) {
	checkFull(t, "end 0", 1)
	checkFull(t, "go 0", 1)
	checkFull(t, "set 3 n1|go 0", 1, 9)
	checkFull(t, "set 1 n1|set 2 n1|set 3 n1|go 0", 1, 3, 7, 15)
	checkFull(t, "set 1 n1|begin 2 3|end 0|end 0", 1, 3, 7, 1)
	checkFull(t, "set 1 n1|begin 2 2|end 0", 1, 3, 1)
	checkFull(t, "set 1 n1|set 2 n1|begin 3 1|end 0", 1, 1, 5, 13)
	checkFull(t, "set 1 n1|begin 2 0|end 0", 1, 3, 7)
	checkFull(t, "set 1 n1|begin 1 1", 1, 1)
}

func TestP20WhatEachStepFills(t *testing.T) {
	for line, want := range map[string]int{
		"set 2 n1": 5, "set 2 none": 5, "move 2 0": 5, "move 0 2": 1, "add 2 0": 1, "self 2": 5, "begin 2 0": 5, "send 2 3": 1, "take 2 1": 5, "after 2 1 0 n1": 5,
		"if 2 0 n1": 1, "link 2": 1, "watch 2": 1, "trap n1": 1, "go 1": 1, "end 2": -1, "set 0 n1": 1, "set 1 n1": 3, "set 3 n1": 9, "take 3 0": 9, "after 1 0 0 n9": 3,
	} {
		checkFull(t, line+"|end 0", 1, want)
	}
}

func TestP20AndP22FullAsWorkedOutByHand(t *testing.T) {
	twoWays := 0
	for _, c := range manyCodes() {
		full := impl.CodeFull(c.code)
		if want := fullByHand(c.code); !slices.Equal(full, want) {
			t.Fatalf("CodeFull of %v is %v, not %v", c, full, want)
		}
		if len(allSpots(c.code)) > len(reachByHand(c.code)) {
			twoWays++
		}
		for at, bits := range full {
			if bits < -1 || bits > 15 {
				t.Fatalf("CodeFull of %v has %d", c, bits)
			}
			if c.code[at].Kind == impl.OpBegin && bits != -1 && full[c.code[at].To] > 1 || full[0] > 1 {
				t.Fatalf("CodeFull of %v is %v where a run begins", c, full)
			}
		}
	}
	if twoWays < 1000 {
		t.Errorf("just %d codes with a place that is come to in two ways", twoWays)
	}
}

func TestP21APlaceThatIsComeToInTwoWays(t *testing.T) {
	checkFull(t, "if 0 3 r1|set 1 n1|go 4|set 2 n1|end 0", 1, 1, 3, 1, 1)
	checkFull(t, "if 0 4 r1|set 1 n1|set 3 n1|go 6|set 2 n1|set 3 n1|end 0", 1, 1, 3, 11, 1, 5, 9)
	checkFull(t, "set 1 n5|if 0 3 r1|set 2 a1|end 1|end 2", 1, 3, 3, 3, -1)
	checkFull(t, "if 0 2 r1|set 2 a1|end 2", 1, 1, 1)
	checkFull(t, "if 0 1 r1|end 0", 1, 1)
}

// What is come to from behind may take away what was full at first, there and at all places that come behind it.
func TestP21FromBehind(t *testing.T) {
	checkFull(t, "set 1 n1|set 2 n1|if 0 2 n1|end 0", 1, 3, 7, 7)
	checkFull(t, "if 0 4 n1|set 1 n1|set 2 n1|end 2|go 2", 1, 1, 1, 5, 1)
	checkFull(t, "go 3|set 1 n1|go 5|set 2 n1|if 0 1 n1|end 0", 1, 5, 7, 1, 5, 5)
	checkFull(t, "if 0 6 n1|set 1 n1|set 2 n1|set 3 n1|go 5|end 0|begin 3 3|end 0", 1, 1, 3, 1, 9, 9, 1, 9)
	checkFull(t, "set 1 n1|set 2 n1|set 3 n1|after 0 0 1 n1|if 0 2 n1|go 0", 1, 3, 7, 15, 15, 15)
}

func TestP21AfterFillsJustTheNextPlace(t *testing.T) {
	checkFull(t, "after 1 0 2 n1|end 1|end 0", 1, 3, 1)
	checkFull(t, "after 1 0 1 n1|end 0", 1, 1)
	checkFull(t, "set 1 n1|after 1 0 2 n1|end 1", 1, 3, 3)
	checkFull(t, "set 2 n1|after 1 0 0 n1", 1, 5)
	checkFull(t, "set 2 n1|after 1 0 1 n1|end 0", 1, 5, 7)
}

func TestP21NoMoreThanIsFullBehindEachOther(t *testing.T) {
	for _, c := range manyCodes() {
		full := impl.CodeFull(c.code)
		for at, o := range c.code {
			if full[at] == -1 {
				continue
			}
			for _, s := range spotsBehind(o, spot{at, full[at]}) {
				if s.at < len(c.code) && (full[s.at] == -1 || full[s.at]&^s.full != 0) {
					t.Fatalf("CodeFull of %v is %v: from %d to %d", c, full, at, s.at)
				}
			}
		}
	}
}

func checkReach(t *testing.T, lines string, want ...int) {
	t.Helper()
	code := byBars(t, lines)
	if got := impl.CodeReach(code); !slices.Equal(got, want) {
		t.Errorf("CodeReach of %q is %v, not %v", lines, got, want)
	}
	for at, bits := range impl.CodeFull(code) {
		if (bits == -1) == slices.Contains(want, at) {
			t.Errorf("CodeFull of %q at %d is %d", lines, at, bits)
		}
	}
}

func TestP22WhereNobodyComes(t *testing.T) {
	checkReach(t, "end 0|end 0", 0)
	checkReach(t, "go 2|set 1 n1|end 0", 0, 2)
	checkReach(t, "end 0|go 2|go 1", 0)
	checkReach(t, "end 0|begin 1 2|end 0", 0)
	checkReach(t, "end 0|go 0|if 0 1 n1|after 0 0 2 n1", 0)
	checkReach(t, "go 3|end 0|set 1 n1|end 0|go 1", 0, 3)
}

func TestP23ReachThroughBeginAndFromBehind(t *testing.T) {
	checkReach(t, "begin 1 2|end 0|end 0", 0, 1, 2)
	checkReach(t, "begin 1 3|end 0|end 0|go 2", 0, 1, 2, 3)
	checkReach(t, "go 2|end 0|go 1", 0, 1, 2)
	checkReach(t, "go 4|end 0|go 1|go 2|go 3", 0, 1, 2, 3, 4)
	checkReach(t, "go 3|end 0|end 0|after 1 0 1 n1|end 0", 0, 1, 3, 4)
	checkReach(t, "go 3|end 0|end 0|if 0 2 n1|end 0", 0, 2, 3, 4)
	checkReach(t, "go 3|end 0|end 0|begin 0 2", 0, 2, 3)
	checkReach(t, "trap n1|trap n0|self 1", 0, 1, 2)
}

func TestP22AndP23ReachAsWorkedOutByHand(t *testing.T) {
	for _, c := range manyCodes() {
		reach, full := impl.CodeReach(c.code), impl.CodeFull(c.code)
		if want := reachByHand(c.code); !slices.Equal(reach, want) {
			t.Fatalf("CodeReach of %v is %v, not %v", c, reach, want)
		}
		come := []int{0}
		for at := range c.code {
			if (full[at] == -1) == slices.Contains(reach, at) {
				t.Fatalf("%v: reach %v, full %v", c, reach, full)
			}
			if slices.Contains(reach, at) {
				come = append(come, impl.CodeNext(c.code, at)...)
			}
		}
		slices.Sort(come)
		if !slices.Equal(slices.Compact(come), reach) {
			t.Fatalf("CodeReach of %v is %v, CodeNext of these %v", c, reach, come)
		}
	}
}

func checkNext(t *testing.T, code []impl.Op, at int, want ...int) {
	t.Helper()
	if got := impl.CodeNext(code, at); !slices.Equal(got, want) {
		t.Errorf("CodeNext of %q at %d is %v, not %v", textByHand(code), at, got, want)
	}
}

func TestP24NextOfEachKindThatGoesNowhere(t *testing.T) {
	for _, line := range []string{"set 1 n1", "move 1 2", "add 1 2", "self 1", "send 1 2", "take 1 3", "link 1", "watch 2", "trap n1"} {
		code := steps(t, line, line, line)
		checkNext(t, code, 0, 1)
		checkNext(t, code, 1, 2)
		checkNext(t, code, 2)
		checkNext(t, steps(t, line), 0)
	}
	for at := range 3 {
		checkNext(t, byBars(t, "end 0|end 1|end 2"), at)
	}
}

func TestP24NextOfEachKindThatGoes(t *testing.T) {
	for _, form := range []string{"begin 1 %d", "after 1 2 %d n5", "if 1 %d n5"} {
		for at := range 4 {
			for to := range 4 {
				code := filler(4)
				code[at] = steps(t, fmt.Sprintf(form, to))[0]
				switch {
				case at == 3:
					checkNext(t, code, at, to)
				case to == at+1:
					checkNext(t, code, at, to)
				default:
					checkNext(t, code, at, at+1, to)
				}
			}
		}
	}
	for at := range 4 {
		for to := range 4 {
			code := filler(4)
			code[at] = steps(t, fmt.Sprintf("go %d", to))[0]
			checkNext(t, code, at, to)
		}
	}
}

func TestP24NoPlaceHasNoNext(t *testing.T) {
	for _, line := range []string{"trap n1", "go 0", "if 0 0 n1", "begin 1 0"} {
		for _, size := range []int{1, 2, 15, 16} {
			code := steps(t, slices.Repeat([]string{line}, size)...)
			for _, at := range []int{-1, -2, size, size + 1, 16, 17, math.MaxInt, math.MaxInt - 1, math.MinInt, 1 << 32} {
				checkNext(t, code, at)
			}
		}
	}
}

// What a place is come to with, or whether it is at all, is nothing to CodeNext.
func TestP24NextWhereNobodyComes(t *testing.T) {
	code := byBars(t, "end 0|if 3 3 n1|begin 1 0|go 1")
	checkNext(t, code, 1, 2, 3)
	checkNext(t, code, 2, 3, 0)
	checkNext(t, code, 3, 1)
}

func TestP25Safe(t *testing.T) {
	for _, lines := range []string{
		"end 0", "go 0", "set 1 n1|end 1", "set 1 n5|if 0 3 r1|set 2 a1|end 1|end 2", "set 1 none|send 0 1|go 0",
		"if 0 3 r1|set 1 n1|go 4|set 1 n2|end 1", "take 1 0|add 1 1|end 1", "begin 1 3|link 1|go 1|end 0", "move 1 0|move 2 1|move 3 2|end 3", "self 3|watch 3|end 3",
		"after 1 0 2 n1|end 1|end 0", "after 0 0 0 n1|end 0", "set 1 n1|after 1 0 2 n1|end 1", "trap n1|end 0", "begin 1 0|end 1",
	} {
		if !impl.CodeSafe(byBars(t, lines)) {
			t.Errorf("CodeSafe of %q is false", lines)
		}
	}
}

func TestP25ASlotThatMayBeEmpty(t *testing.T) {
	for _, lines := range []string{
		"end 1", "end 2", "end 3", "link 1|end 0", "watch 3|end 0", "add 0 1|end 0", "add 1 0|end 0", "send 0 2|end 0", "send 2 0|end 0", "move 1 2|end 0", "move 1 1|end 0", "if 1 1 n1|end 0",
		"if 0 2 r1|set 2 a1|end 2", "if 0 3 r1|set 1 n1|go 4|set 2 n1|end 1", "if 0 3 r1|set 1 n1|go 4|set 2 n1|end 2",
		"after 1 0 2 n1|end 1|end 1", "after 1 0 1 n1|end 1", "set 1 n1|begin 2 3|end 2|end 1", "begin 1 1|end 1", "set 1 n1|begin 2 2|end 1",
		"if 0 4 n1|set 1 n1|end 1|end 0|go 2", "set 1 n1|set 2 n1|go 4|end 0|if 0 6 n1|end 3|end 1", "set 1 n1|add 1 2|end 1", "add 1 0|end 1", "add 1 0|end 0",
	} {
		if impl.CodeSafe(byBars(t, lines)) {
			t.Errorf("CodeSafe of %q is true", lines)
		}
	}
}

func TestP25TheLastPlace(t *testing.T) {
	for _, line := range []string{
		"set 0 n1", "move 0 0", "add 0 0", "self 0", "begin 0 0", "send 0 0", "take 0 0", "after 0 0 0 n1", "if 0 0 n1", "link 0", "watch 0", "trap n0",
	} {
		if impl.CodeSafe(steps(t, line)) || impl.CodeSafe(steps(t, "trap n0", line)) || impl.CodeSafe(steps(t, "go 1", line)) {
			t.Errorf("a last step %q is come to, and safe", line)
		}
		if !impl.CodeSafe(steps(t, "end 0", line)) || !impl.CodeSafe(steps(t, "go 0", line)) {
			t.Errorf("a last step %q is not come to, and not safe", line)
		}
		if !impl.CodeSafe(steps(t, line, "end 0")) || !impl.CodeSafe(steps(t, line, "go 0")) {
			t.Errorf("%q ahead of one that goes, or ends, is not safe", line)
		}
	}
}

func TestP25SafeAsWorkedOutByHand(t *testing.T) {
	for _, c := range manyCodes() {
		if got, want := impl.CodeSafe(c.code), safeByHand(c.code); got != want {
			t.Fatalf("CodeSafe of %v is %v", c, got)
		}
	}
}

func TestP26WithAStepBehindThatEnds(t *testing.T) {
	room := 0
	for _, c := range safeCodes(t) {
		for slot := 0; slot <= 3; slot++ {
			longer := append(slices.Clone(c.code), impl.Op{Kind: impl.OpEnd, R: slot})
			if got := impl.CodeSafe(longer); got != (len(longer) <= 16) {
				t.Fatalf("CodeSafe of %v with a step that ends behind is %v", c, got)
			}
			if len(longer) <= 16 {
				room++
			}
		}
	}
	if room < 500 {
		t.Errorf("just %d had room", room)
	}
}

func TestP26WithAnyOtherStepWhereNobodyComes(t *testing.T) {
	d, tried := &dice{state: 5}, 0
	for _, c := range safeCodes(t) {
		reach := reachByHand(c.code)
		for at := range c.code {
			if slices.Contains(reach, at) {
				continue
			}
			for _, o := range []impl.Op{{Kind: impl.OpEnd, R: 3}, {Kind: impl.OpAdd, R: 1, S: 2}, d.step(len(c.code))} {
				other := slices.Clone(c.code)
				other[at] = o
				if !impl.CodeSafe(other) {
					t.Fatalf("CodeSafe of %v with %v at %d is false", c, o, at)
				}
				tried++
			}
		}
	}
	if tried < 500 {
		t.Errorf("just %d tried", tried)
	}
}

func TestP27ReachIsAscendingAndHasTheFirst(t *testing.T) {
	for _, c := range manyCodes() {
		reach := impl.CodeReach(c.code)
		if len(reach) == 0 || reach[0] != 0 || reach[len(reach)-1] >= len(c.code) {
			t.Fatalf("CodeReach of %v is %v", c, reach)
		}
		for i := 1; i < len(reach); i++ {
			if reach[i-1] >= reach[i] {
				t.Fatalf("CodeReach of %v is %v", c, reach)
			}
		}
	}
	full := steps(t, slices.Repeat([]string{"begin 1 15"}, 16)...)
	if reach := impl.CodeReach(full); len(reach) != 16 || reach[15] != 15 {
		t.Errorf("CodeReach of all is %v", reach)
	}
}

func TestP27AFirstStepThatGoesToItself(t *testing.T) {
	for _, c := range manyCodes() {
		code := slices.Clone(c.code)
		code[0] = impl.Op{Kind: impl.OpGo}
		if reach := impl.CodeReach(code); !slices.Equal(reach, []int{0}) {
			t.Fatalf("CodeReach of %q is %v", textByHand(code), reach)
		}
		if !impl.CodeSafe(code) {
			t.Fatalf("CodeSafe of %q is false", textByHand(code))
		}
	}
}

func TestP28SafeBehindItsText(t *testing.T) {
	for _, c := range manyCodes() {
		code, ok := impl.CodeRead(impl.CodeText(c.code))
		if !ok || impl.CodeSafe(code) != impl.CodeSafe(c.code) || impl.CodeSafe(code) != safeByHand(c.code) {
			t.Fatalf("%v: read back %v, safe %v, not %v", c, ok, impl.CodeSafe(code), safeByHand(c.code))
		}
	}
}

func TestP29TheFirstStepReadsASlotButTheFirst(t *testing.T) {
	for _, c := range safeCodes(t) {
		for slot := 1; slot <= 3; slot++ {
			for _, o := range []impl.Op{
				{Kind: impl.OpMove, S: slot}, {Kind: impl.OpMove, R: slot, S: slot}, {Kind: impl.OpAdd, R: slot}, {Kind: impl.OpAdd, S: slot}, {Kind: impl.OpSend, R: slot}, {Kind: impl.OpSend, S: slot},
				{Kind: impl.OpIf, R: slot}, {Kind: impl.OpLink, R: slot}, {Kind: impl.OpWatch, R: slot}, {Kind: impl.OpEnd, R: slot},
			} {
				code := slices.Clone(c.code)
				code[0] = o
				if impl.CodeSafe(code) {
					t.Fatalf("CodeSafe of %q is true", textByHand(code))
				}
			}
		}
	}
}

func TestP30NextHasAtMostTwo(t *testing.T) {
	for _, c := range manyCodes() {
		for at := range c.code {
			next := impl.CodeNext(c.code, at)
			if want := nextByHand(c.code, at); !slices.Equal(next, want) {
				t.Fatalf("CodeNext of %v at %d is %v, not %v", c, at, next, want)
			}
			if len(next) > 2 || len(next) == 2 && next[0] == next[1] {
				t.Fatalf("CodeNext of %v at %d is %v", c, at, next)
			}
			for _, to := range next {
				if to < 0 || to >= len(c.code) {
					t.Fatalf("CodeNext of %v at %d is %v", c, at, next)
				}
			}
		}
	}
}

// What is handed in lies in the midst of a longer list, with room behind its end.
func TestCodeIsNotWrittenInto(t *testing.T) {
	mark := impl.Op{Kind: 99, R: 99, S: 99, To: 99, V: num(99)}
	d := &dice{state: 11}
	for i := range 500 {
		code := d.code()
		if i%5 == 0 {
			code[d.below(len(code))].Kind = 77
		}
		whole := slices.Concat([]impl.Op{mark}, code, []impl.Op{mark, mark, mark})
		kept := slices.Clone(whole)
		piece := whole[1 : 1+len(code)]
		impl.CodeOk(piece)
		impl.CodeFull(piece)
		impl.CodeReach(piece)
		impl.CodeSafe(piece)
		impl.CodeText(piece)
		for at := -1; at <= len(code); at++ {
			impl.CodeNext(piece, at)
		}
		if !slices.Equal(whole, kept) {
			t.Fatalf("%v became %v", kept, whole)
		}
	}
}

// spoil writes over a whole list, the room behind its end too.
func spoil[T any](list []T, with T) {
	list = list[:cap(list)]
	for i := range list {
		list[i] = with
	}
}

func TestCodeAnswersShareNoMemory(t *testing.T) {
	d := &dice{state: 23}
	for range 500 {
		code := d.code()
		kept, text := slices.Clone(code), textByHand(code)
		full, reach, next := impl.CodeFull(code), impl.CodeReach(code), impl.CodeNext(code, 0)
		keptFull, keptReach, keptNext := slices.Clone(full), slices.Clone(reach), slices.Clone(next)
		again, _ := impl.CodeRead(text)
		spoil(impl.CodeFull(code), 77)
		spoil(impl.CodeReach(code), 77)
		spoil(impl.CodeNext(code, 0), 77)
		other, _ := impl.CodeRead(text)
		spoil(other, impl.Op{Kind: 77})
		if !slices.Equal(full, keptFull) || !slices.Equal(reach, keptReach) || !slices.Equal(next, keptNext) || !slices.Equal(again, kept) {
			t.Fatalf("an answer of %q changed with another one", text)
		}
		spoil(full, 77)
		spoil(next, 77)
		if !slices.Equal(reach, keptReach) || !slices.Equal(code, kept) || !slices.Equal(impl.CodeFull(code), keptFull) {
			t.Fatalf("%q: an answer shares memory", text)
		}
	}
}
