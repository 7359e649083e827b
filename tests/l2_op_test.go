package tests

import (
	"fmt"
	"math"
	"slices"
	"strings"
	"testing"

	"loop.example/errandry/impl"
)

// stepRow is an ok step beside the text and the slots that the document gives it, worked out apart from the program.
type stepRow struct {
	o    impl.Op
	text string
	uses []int
}

func allSteps() []stepRow {
	var rows []stepRow
	for r := 0; r <= 3; r++ {
		rows = append(rows, stepsOfOneSlot(r)...)
		for s := 0; s <= 3; s++ {
			rows = append(rows, stepsOfTwo(r, s)...)
		}
	}
	for to := 0; to <= 15; to++ {
		rows = append(rows, stepRow{impl.Op{Kind: 9, To: to}, fmt.Sprintf("go %d", to), nil})
	}
	return append(rows, stepRow{impl.Op{Kind: 13, V: num(0)}, "trap n0", nil}, stepRow{impl.Op{Kind: 13, V: num(1)}, "trap n1", nil})
}

func stepsOfOneSlot(r int) []stepRow {
	rows := []stepRow{
		{impl.Op{Kind: 4, R: r}, fmt.Sprintf("self %d", r), nil},
		{impl.Op{Kind: 11, R: r}, fmt.Sprintf("link %d", r), []int{r}},
		{impl.Op{Kind: 12, R: r}, fmt.Sprintf("watch %d", r), []int{r}},
		{impl.Op{Kind: 14, R: r}, fmt.Sprintf("end %d", r), []int{r}},
	}
	for _, v := range allRows() {
		rows = append(rows, stepRow{impl.Op{Kind: 1, R: r, V: v.v}, fmt.Sprintf("set %d %s", r, v.text), nil})
	}
	for to := 0; to <= 15; to++ {
		rows = append(rows, stepRow{impl.Op{Kind: 5, R: r, To: to}, fmt.Sprintf("begin %d %d", r, to), nil})
		for _, v := range allRows() {
			rows = append(rows, stepRow{impl.Op{Kind: 10, R: r, To: to, V: v.v}, fmt.Sprintf("if %d %d %s", r, to, v.text), []int{r}})
		}
	}
	return rows
}

// stepsOfTwo are the steps with R and S, be S a slot or a kind: both are 0 to 3.
func stepsOfTwo(r, s int) []stepRow {
	rows := []stepRow{
		{impl.Op{Kind: 2, R: r, S: s}, fmt.Sprintf("move %d %d", r, s), []int{s}},
		{impl.Op{Kind: 3, R: r, S: s}, fmt.Sprintf("add %d %d", r, s), []int{r, s}},
		{impl.Op{Kind: 6, R: r, S: s}, fmt.Sprintf("send %d %d", r, s), []int{r, s}},
		{impl.Op{Kind: 7, R: r, S: s}, fmt.Sprintf("take %d %d", r, s), nil},
	}
	for to := 0; to <= 15; to++ {
		for n := 1; n <= 99; n++ {
			rows = append(rows, stepRow{impl.Op{Kind: 8, R: r, S: s, To: to, V: num(n)}, fmt.Sprintf("after %d %d %d n%d", r, s, to, n), nil})
		}
	}
	return rows
}

func stepTexts() map[impl.Op]string {
	texts := map[impl.Op]string{}
	for _, r := range allSteps() {
		texts[r.o] = r.text
	}
	return texts
}

func stepsOfTexts() map[string]impl.Op {
	steps := map[string]impl.Op{}
	for _, r := range allSteps() {
		steps[r.text] = r.o
	}
	return steps
}

// edgeSteps has of each kind the step with the least and that with the greatest of what it has.
func edgeSteps() []stepRow {
	run, none := impl.Val{Kind: 3, N: 6}, impl.Val{}
	return []stepRow{
		{impl.Op{Kind: impl.OpSet, V: none}, "set 0 none", nil}, {impl.Op{Kind: impl.OpSet, R: 3, V: run}, "set 3 r6", nil},
		{impl.Op{Kind: impl.OpMove}, "move 0 0", []int{0}}, {impl.Op{Kind: impl.OpMove, R: 3, S: 3}, "move 3 3", []int{3}},
		{impl.Op{Kind: impl.OpAdd}, "add 0 0", []int{0, 0}}, {impl.Op{Kind: impl.OpAdd, R: 3, S: 3}, "add 3 3", []int{3, 3}},
		{impl.Op{Kind: impl.OpSelf}, "self 0", nil}, {impl.Op{Kind: impl.OpSelf, R: 3}, "self 3", nil},
		{impl.Op{Kind: impl.OpBegin}, "begin 0 0", nil}, {impl.Op{Kind: impl.OpBegin, R: 3, To: 15}, "begin 3 15", nil},
		{impl.Op{Kind: impl.OpSend}, "send 0 0", []int{0, 0}}, {impl.Op{Kind: impl.OpSend, R: 3, S: 3}, "send 3 3", []int{3, 3}},
		{impl.Op{Kind: impl.OpTake}, "take 0 0", nil}, {impl.Op{Kind: impl.OpTake, R: 3, S: 3}, "take 3 3", nil},
		{impl.Op{Kind: impl.OpAfter, V: num(1)}, "after 0 0 0 n1", nil}, {impl.Op{Kind: impl.OpAfter, R: 3, S: 3, To: 15, V: num(99)}, "after 3 3 15 n99", nil},
		{impl.Op{Kind: impl.OpGo}, "go 0", nil}, {impl.Op{Kind: impl.OpGo, To: 15}, "go 15", nil},
		{impl.Op{Kind: impl.OpIf, V: num(-99)}, "if 0 0 n-99", []int{0}}, {impl.Op{Kind: impl.OpIf, R: 3, To: 15, V: num(99)}, "if 3 15 n99", []int{3}},
		{impl.Op{Kind: impl.OpLink}, "link 0", []int{0}}, {impl.Op{Kind: impl.OpLink, R: 3}, "link 3", []int{3}},
		{impl.Op{Kind: impl.OpWatch}, "watch 0", []int{0}}, {impl.Op{Kind: impl.OpWatch, R: 3}, "watch 3", []int{3}},
		{impl.Op{Kind: impl.OpTrap, V: num(0)}, "trap n0", nil}, {impl.Op{Kind: impl.OpTrap, V: num(1)}, "trap n1", nil},
		{impl.Op{Kind: impl.OpEnd}, "end 0", []int{0}}, {impl.Op{Kind: impl.OpEnd, R: 3}, "end 3", []int{3}},
	}
}

func mustNotReadStep(t *testing.T, text string) {
	t.Helper()
	if o, ok := impl.OpRead(text); ok || o != (impl.Op{}) {
		t.Errorf("OpRead(%q) is %v, %v, not nothing and false", text, o, ok)
	}
}

func mustNotBeStep(t *testing.T, o impl.Op) {
	t.Helper()
	if impl.OpOk(o) {
		t.Errorf("OpOk(%v) is true", o)
	}
	if text := impl.OpText(o); text != "" {
		t.Errorf("OpText(%v) is %q, not empty", o, text)
	}
	if slots := impl.OpUses(o); len(slots) != 0 {
		t.Errorf("OpUses(%v) is %v, not none", o, slots)
	}
}

func TestOpConstants(t *testing.T) {
	got := []int{
		impl.OpSet, impl.OpMove, impl.OpAdd, impl.OpSelf, impl.OpBegin, impl.OpSend, impl.OpTake, impl.OpAfter,
		impl.OpGo, impl.OpIf, impl.OpLink, impl.OpWatch, impl.OpTrap, impl.OpEnd, impl.SlotMax, impl.CodeMax,
	}
	for i, want := range []int{1, 2, 3, 4, 5, 6, 7, 8, 9, 10, 11, 12, 13, 14, 3, 16} {
		if got[i] != want {
			t.Errorf("constant %d is %d, not %d", i, got[i], want)
		}
	}
}

func TestP10OkStepsAreReadBack(t *testing.T) {
	for _, r := range append(edgeSteps(), allSteps()...) {
		if !impl.OpOk(r.o) {
			t.Fatalf("OpOk(%v) is false", r.o)
		}
		if got := impl.OpText(r.o); got != r.text {
			t.Fatalf("OpText(%v) is %q, not %q", r.o, got, r.text)
		}
		if o, ok := impl.OpRead(r.text); !ok || o != r.o {
			t.Fatalf("OpRead(%q) is %v, %v, not %v", r.text, o, ok, r.o)
		}
	}
}

// Each text with one byte less, more, or another one: what is read must be just the ok steps.
func TestP11OnlyOwnTextsAreRead(t *testing.T) {
	steps := stepsOfTexts()
	try := func(text string) {
		want, is := steps[text]
		got, ok := impl.OpRead(text)
		if ok != is || got != want {
			t.Errorf("OpRead(%q) is %v, %v, not %v, %v", text, got, ok, want, is)
		}
		if ok && (!impl.OpOk(got) || impl.OpText(got) != text) {
			t.Errorf("OpRead(%q): %v is not ok, or has another text", text, got)
		}
	}
	rows := edgeSteps()
	for i, r := range allSteps() {
		if i%101 == 0 {
			rows = append(rows, r)
		}
	}
	for _, r := range rows {
		for i := 0; i <= len(r.text); i++ {
			tryByteAt(r.text, i, try)
		}
	}
}

func tryByteAt(text string, i int, try func(string)) {
	if i < len(text) {
		try(text[:i] + text[i+1:])
	}
	for _, b := range []byte("0123456789+-nargo \n\t\x00\xff") {
		try(text[:i] + string([]byte{b}) + text[i:])
		if i < len(text) {
			try(text[:i] + string([]byte{b}) + text[i+1:])
		}
	}
}

func TestP11OtherTextsAreNone(t *testing.T) {
	for _, text := range []string{
		"", " ", "  ", "\n", "\x00", "\xff", "0", "none", "n1",
		"go  1", " go 1", "go 1 ", "go 1\n", "\ngo 1", "go\t1", "go\n1", "go\xc2\xa01", "go 1\x00", "go1", "go,1", "go 1\r\n",
		"set", "set 1", "set n1", "move", "move 1", "add 1", "self", "begin 1", "send 1", "take 1", "after", "after 1", "after 1 1", "after 1 1 1", "go", "if", "if 1", "if 1 1", "if 1 n1", "link", "watch", "trap", "end",
		"set 1 n1 n1", "set 1 1 n1", "move 1 1 1", "add 1 1 1", "self 1 1", "begin 1 1 1", "send 1 1 n1", "take 1 1 1", "after 1 1 1 n1 n1", "go 1 1", "if 1 1 n1 1", "link 1 1", "watch 1 1", "trap n1 n1", "trap 1 n1", "end 1 1",
		"Go 1", "GO 1", "goto 1", "g 1", "jump 1", "x 1", "0 1", "9 1", "sets 1 n1", "moves 1 1", "ends 1", "selv 1", "stop", "nop", "set-1 n1",
		"move 01 1", "move 1 01", "move 00 0", "add 1 00", "self 01", "begin 1 01", "begin 00 1", "send 01 1", "take 1 01", "go 01", "go 00", "go 015", "go +1", "go +0", "go -0", "go -1", "go 1.", "go 1.0", "go 0x1", "go 1_0", "go 1e0", "go \xd9\xa1", "link +1", "watch 01", "end -0",
		"after 0 0 0 n01", "after 01 0 0 n1", "after 0 01 0 n1", "after 0 0 01 n1", "after 0 0 0 n+1", "after 0 0 0 n-0", "after 0 0 0 1", "after 0 0 0 n1 ", "after 0 0 0 n1\n",
		"set 0 n01", "set 0 n+1", "set 0 n-0", "set 0 1", "set 0 a01", "set 0 r01", "set 0 x", "set 0 ", "set 0 None", "if 0 0 n00", "if 0 0 0", "trap n01", "trap n00", "trap n+1", "trap n-0", "trap 1", "trap 0", "trap true",
		"go 18446744073709551617", "go 4294967297", "go 257", "link 99999999999999999999",
	} {
		mustNotReadStep(t, text)
	}
}

func TestP11LongTextsAreNone(t *testing.T) {
	for _, ahead := range []string{"go 1", "after 3 3 15 n99", "set 0 none", ""} {
		for _, more := range []string{" ", "0", "n", "\n", "1 "} {
			for size := 17; size <= 60; size++ {
				mustNotReadStep(t, (ahead + strings.Repeat(more, size))[:size])
			}
		}
	}
	for size := 20; size <= 30; size++ {
		mustNotReadStep(t, "go "+strings.Repeat("0", size-4)+"1")
		mustNotReadStep(t, strings.Repeat(" ", size-4)+"go 1")
	}
	mustNotReadStep(t, strings.Repeat("go 1 ", 100000))
}

func TestP12TextsAreTheSameJustIfTheStepsAre(t *testing.T) {
	steps := map[string]impl.Op{}
	texts := map[impl.Op]string{}
	for _, r := range allSteps() {
		text := impl.OpText(r.o)
		if o, is := steps[text]; is && o != r.o || text == "" {
			t.Fatalf("%v and %v have the same text %q", o, r.o, text)
		}
		steps[text], texts[r.o] = r.o, text
	}
	if len(steps) != len(texts) || len(steps) != len(allSteps()) {
		t.Errorf("%d texts of %d steps", len(steps), len(texts))
	}
}

// Kinds, slots, places and values to the ends of int, all with all: just those of the enumeration are ok.
func TestP13OkIsJustWhatThereIs(t *testing.T) {
	texts := stepTexts()
	few := []int{math.MinInt, -1, 0, 1, 3, 4, math.MaxInt}
	places := []int{math.MinInt, -1, 0, 3, 15, 16, 1 << 32, math.MaxInt}
	vals := []impl.Val{
		{}, num(-100), num(-99), num(-1), num(0), num(1), num(2), num(99), num(100), {Kind: 2, N: 0}, {Kind: 2, N: 1}, {Kind: 2, N: 10},
		{Kind: 3, N: 0}, {Kind: 3, N: 1}, {Kind: 3, N: 7}, {Kind: 0, N: 1}, {Kind: 4, N: 0}, {Kind: 4, N: 1}, {Kind: -1, N: 1}, {Kind: 257, N: 1},
	}
	for kind := -2; kind <= 17; kind++ {
		for _, r := range few {
			for _, s := range few {
				for _, to := range places {
					for _, v := range vals {
						o := impl.Op{Kind: kind, R: r, S: s, To: to, V: v}
						if text, is := texts[o]; is != impl.OpOk(o) || text != impl.OpText(o) {
							t.Fatalf("%v: ok %v, text %q, not %v, %q", o, impl.OpOk(o), impl.OpText(o), is, text)
						}
					}
				}
			}
		}
	}
}

func TestP13KindsThatThereAreNot(t *testing.T) {
	for _, r := range edgeSteps() {
		for _, kind := range []int{math.MinInt, -14, -1, 0, 15, 16, 255, 256 + 9, 1<<32 + 9, math.MaxInt} {
			o := r.o
			o.Kind = kind
			mustNotBeStep(t, o)
		}
	}
	mustNotBeStep(t, impl.Op{})
}

// has tells of which of R, S, To and V a kind has something, as the document's table does.
func has(kind int) string {
	return []string{"", "RV", "RS", "RS", "R", "RT", "RS", "RS", "RSTV", "T", "RTV", "R", "R", "V", "R"}[kind]
}

func TestP13WhatAStepHasNotIsNothing(t *testing.T) {
	for _, r := range edgeSteps() {
		for _, n := range []int{1, 3, 4, -1, 15, math.MinInt, math.MaxInt} {
			changed := map[string]impl.Op{"R": r.o, "S": r.o, "T": r.o, "V": r.o}
			for part, o := range changed {
				switch part {
				case "R":
					o.R = n
				case "S":
					o.S = n
				case "T":
					o.To = n
				case "V":
					o.V = num(n)
				}
				if !strings.Contains(has(o.Kind), part) {
					mustNotBeStep(t, o)
				}
			}
		}
		if !strings.Contains(has(r.o.Kind), "V") {
			for _, v := range []impl.Val{num(0), num(1), {Kind: 2}, {Kind: 3, N: 1}, {N: 1}, {Kind: 4}, {Kind: -1}} {
				o := r.o
				o.V = v
				mustNotBeStep(t, o)
			}
		}
	}
}

func TestP13SlotsPlacesAndKindsBeyond(t *testing.T) {
	for _, r := range edgeSteps() {
		for _, n := range []int{-1, 4, 5, math.MinInt, math.MaxInt, 256, 1 << 32} {
			o, p := r.o, r.o
			o.R, p.S = n, n
			mustNotBeStep(t, o)
			mustNotBeStep(t, p)
		}
		for _, n := range []int{-1, 16, 17, math.MinInt, math.MaxInt, 256, 1 << 32} {
			o := r.o
			o.To = n
			mustNotBeStep(t, o)
		}
	}
	for _, text := range []string{
		"set 4 n1", "set -1 n1", "move 4 1", "move 1 4", "add 4 1", "add 1 4", "self 4", "begin 4 1", "begin 1 16", "begin 1 -1", "send 4 1", "send 1 4", "take 4 1", "take 1 4", "take 1 -1",
		"after 4 1 1 n1", "after 1 4 1 n1", "after 1 -1 1 n1", "after 1 1 16 n1", "after 1 1 -1 n1", "go 16", "go -1", "if 4 1 n1", "if 1 16 n1", "link 4", "watch 4", "end 4", "end -1",
	} {
		mustNotReadStep(t, text)
	}
}

func TestP13ValuesBeyond(t *testing.T) {
	texts := okByHand()
	for _, v := range manyVals() {
		if _, is := texts[v]; is {
			continue
		}
		for _, kind := range []int{impl.OpSet, impl.OpAfter, impl.OpIf, impl.OpTrap} {
			mustNotBeStep(t, impl.Op{Kind: kind, V: v})
		}
	}
	for _, text := range []string{"set 0 n100", "set 0 n-100", "set 0 a10", "set 0 a-1", "set 0 r0", "set 0 r7", "if 0 0 n100", "if 0 0 r7", "after 0 0 0 n100", "trap n100"} {
		mustNotReadStep(t, text)
	}
}

func TestP13OneThatWaitsForATimeWaitsOneAtLeast(t *testing.T) {
	for _, r := range allRows() {
		after, trap := impl.Op{Kind: impl.OpAfter, V: r.v}, impl.Op{Kind: impl.OpTrap, V: r.v}
		if got := impl.OpOk(after); got != (r.v.Kind == 1 && r.v.N >= 1) {
			t.Errorf("OpOk(%v) is %v", after, got)
		}
		if got := impl.OpOk(trap); got != (r.v == num(0) || r.v == num(1)) {
			t.Errorf("OpOk(%v) is %v", trap, got)
		}
	}
	for _, text := range []string{"after 1 1 1 n0", "after 1 1 1 n-1", "after 1 1 1 n-99", "after 1 1 1 a1", "after 1 1 1 r1", "after 1 1 1 none", "trap n2", "trap n-1", "trap a0", "trap a1", "trap r1", "trap none"} {
		mustNotReadStep(t, text)
	}
}

func TestP14Uses(t *testing.T) {
	for _, r := range append(edgeSteps(), allSteps()...) {
		if got := impl.OpUses(r.o); !slices.Equal(got, r.uses) {
			t.Fatalf("OpUses(%v) is %v, not %v", r.o, got, r.uses)
		}
	}
}

func TestP14UsesAreNewMemory(t *testing.T) {
	for _, r := range edgeSteps() {
		one := impl.OpUses(r.o)
		one = one[:cap(one)]
		for i := range one {
			one[i] = 77
		}
		if two := impl.OpUses(r.o); !slices.Equal(two, r.uses) {
			t.Errorf("OpUses(%v) is %v behind a write into an earlier answer", r.o, two)
		}
	}
}

func TestP15LastByteLessIsNoneOrAnother(t *testing.T) {
	steps := stepsOfTexts()
	for _, r := range allSteps() {
		short := r.text[:len(r.text)-1]
		want, is := steps[short]
		o, ok := impl.OpRead(short)
		if ok != is || o != want || ok && o == r.o {
			t.Fatalf("%q, of %q: %v, %v", short, r.text, o, ok)
		}
	}
}

func TestP15BlankMoreIsNone(t *testing.T) {
	for _, r := range allSteps() {
		for i := 0; i <= len(r.text); i++ {
			mustNotReadStep(t, r.text[:i]+" "+r.text[i:])
		}
		mustNotReadStep(t, r.text+"\n")
	}
}

func TestP16AnotherKindHasAnotherWord(t *testing.T) {
	pairs := map[[2]int]bool{}
	for _, r := range allSteps() {
		for kind := 1; kind <= 14; kind++ {
			o := r.o
			o.Kind = kind
			if kind == r.o.Kind || !impl.OpOk(o) {
				continue
			}
			pairs[[2]int{r.o.Kind, kind}] = true
			one, _, _ := strings.Cut(impl.OpText(r.o), " ")
			two, _, _ := strings.Cut(impl.OpText(o), " ")
			if one == two || one == "" || two == "" {
				t.Fatalf("%v and %v begin with %q and %q", r.o, o, one, two)
			}
		}
	}
	for _, p := range [][2]int{{2, 3}, {3, 6}, {2, 6}, {6, 7}, {4, 11}, {11, 12}, {12, 14}, {4, 14}, {1, 10}, {1, 13}} {
		if !pairs[p] {
			t.Errorf("no step of kind %d is ok with kind %d", p[0], p[1])
		}
	}
}
