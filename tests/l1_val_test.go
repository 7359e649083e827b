package tests

import (
	"fmt"
	"math"
	"testing"

	"loop.example/errandry/impl"
)

// row is an ok value beside the text that the document gives it, worked out apart from the program.
type row struct {
	v    impl.Val
	text string
}

func allRows() []row {
	rows := []row{{impl.Val{}, "none"}}
	for n := -99; n <= 99; n++ {
		rows = append(rows, row{impl.Val{Kind: 1, N: n}, fmt.Sprintf("n%d", n)})
	}
	for n := 0; n <= 9; n++ {
		rows = append(rows, row{impl.Val{Kind: 2, N: n}, fmt.Sprintf("a%d", n)})
	}
	for n := 1; n <= 6; n++ {
		rows = append(rows, row{impl.Val{Kind: 3, N: n}, fmt.Sprintf("r%d", n)})
	}
	return rows
}

// manyVals has each ok value and, far more often, values that are not: kinds that there are not, and counts up to the ends of int.
func manyVals() []impl.Val {
	counts := []int{math.MinInt, math.MinInt + 1, -1000, 1000, math.MaxInt - 1, math.MaxInt, 1 << 32, -1 << 32, 1<<32 + 1, 256, 257}
	for n := -120; n <= 120; n++ {
		counts = append(counts, n)
	}
	var vals []impl.Val
	for _, kind := range manyKinds() {
		for _, n := range counts {
			vals = append(vals, impl.Val{Kind: kind, N: n})
		}
	}
	return vals
}

func manyKinds() []int {
	return []int{math.MinInt, -256, -3, -2, -1, 0, 1, 2, 3, 4, 5, 255, 256, 257, 1 << 32, 1<<32 + 1, math.MaxInt}
}

func okByHand() map[impl.Val]string {
	texts := map[impl.Val]string{}
	for _, r := range allRows() {
		texts[r.v] = r.text
	}
	return texts
}

func num(n int) impl.Val { return impl.Val{Kind: impl.ValNum, N: n} }

func mustNotRead(t *testing.T, text string) {
	t.Helper()
	if v, ok := impl.ValRead(text); ok || v != (impl.Val{}) {
		t.Errorf("ValRead(%q) is %v, %v, not nothing and false", text, v, ok)
	}
}

func mustNotAdd(t *testing.T, a, b impl.Val) {
	t.Helper()
	if v, ok := impl.ValAdd(a, b); ok || v != (impl.Val{}) {
		t.Errorf("ValAdd(%v, %v) is %v, %v, not nothing and false", a, b, v, ok)
	}
}

func TestValConstants(t *testing.T) {
	got := []int{impl.NumMax, impl.NameMax, impl.RunMax, impl.ValNone, impl.ValNum, impl.ValName, impl.ValRun}
	for i, want := range []int{99, 9, 6, 0, 1, 2, 3} {
		if got[i] != want {
			t.Errorf("constant %d is %d, not %d", i, got[i], want)
		}
	}
}

func TestP1OkValuesAreReadBack(t *testing.T) {
	for _, r := range allRows() {
		if got := impl.ValText(r.v); got != r.text {
			t.Errorf("ValText(%v) is %q, not %q", r.v, got, r.text)
		}
		if v, ok := impl.ValRead(r.text); !ok || v != r.v {
			t.Errorf("ValRead(%q) is %v, %v, not %v", r.text, v, ok, r.v)
		}
	}
}

func TestP1TextOfWhatIsNotOkIsEmpty(t *testing.T) {
	texts := okByHand()
	for _, v := range manyVals() {
		if got := impl.ValText(v); got != texts[v] {
			t.Errorf("ValText(%v) is %q, not %q", v, got, texts[v])
		}
	}
}

// Every text of up to four bytes of these is tried: what is read must be just the ok values.
func TestP2OnlyOwnTextsAreRead(t *testing.T) {
	values := map[string]impl.Val{}
	for _, r := range allRows() {
		values[r.text] = r.v
	}
	tryTexts("", 4, func(text string) {
		want, is := values[text]
		got, ok := impl.ValRead(text)
		if ok != is || got != want {
			t.Errorf("ValRead(%q) is %v, %v, not %v, %v", text, got, ok, want, is)
		}
		if ok && (!impl.ValOk(got) || impl.ValText(got) != text) {
			t.Errorf("ValRead(%q): %v is not ok, or has another text", text, got)
		}
	})
}

func tryTexts(ahead string, more int, try func(string)) {
	try(ahead)
	if more == 0 {
		return
	}
	for _, b := range []byte("nareoNAR0123456789+-_ .\n\x00\xff") {
		tryTexts(ahead+string([]byte{b}), more-1, try)
	}
}

func TestP2OtherTextsAreNone(t *testing.T) {
	for _, text := range []string{
		"", "n", "a", "r", "n-", "n+", "none0", "none ", " none", "None", "NONE", "nonen", "non", "no", "nil",
		"n01", "n00", "n-0", "n-01", "n+0", "n+1", "n--1", "n- 1", "n 1", "n1 ", " n1", "n1\n", "n1\x00", "n-1 ", "n1.0", "n1e1", "n0x1", "n1_0", "n1,",
		"n100", "n-100", "n990", "n099", "n-099", "n18446744073709551617", "n-18446744073709551615", "n4294967297", "n99999999999999999999999999",
		"a00", "a01", "a-0", "a-1", "a+1", "a10", "a 1", "a1 ", "a1a", "a256", "a18446744073709551616",
		"r0", "r00", "r01", "r-1", "r+1", "r7", "r06", "r10", "r 1", "r1 ", "r257",
		"0", "1", "-1", "x0", "x1", "N1", "A1", "R1", "o1", "m1", "s1", "n1n1", "n1 n1", "none none", "\x00", "\xff", "n\xff", "n\xef\xbc\x91", "n\xd9\xa1", "\xef\xbb\xbfn1",
	} {
		mustNotRead(t, text)
	}
}

func TestP3TextsAreTheSameJustIfTheValuesAre(t *testing.T) {
	rows := allRows()
	for i, a := range rows {
		for j, b := range rows {
			if same := impl.ValText(a.v) == impl.ValText(b.v); same != (i == j) {
				t.Errorf("texts of %v and %v the same: %v", a.v, b.v, same)
			}
		}
	}
}

func TestP4SumsBothWaysAbout(t *testing.T) {
	for x := -99; x <= 99; x++ {
		for y := -99; y <= 99; y++ {
			want, is := num(x+y), -99 <= x+y && x+y <= 99
			if !is {
				want = impl.Val{}
			}
			if v, ok := impl.ValAdd(num(x), num(y)); ok != is || v != want {
				t.Fatalf("ValAdd of %d and %d is %v, %v, not %v, %v", x, y, v, ok, want, is)
			}
			if v, ok := impl.ValAdd(num(y), num(x)); ok != is || v != want {
				t.Fatalf("ValAdd of %d and %d is %v, %v, the other way about not", y, x, v, ok)
			}
		}
	}
}

func TestP4SumsAtTheEdges(t *testing.T) {
	for _, c := range []struct {
		x, y int
		is   bool
	}{
		{60, 39, true}, {60, 40, false}, {99, 0, true}, {99, 1, false}, {98, 1, true}, {99, 99, false}, {99, -99, true},
		{-60, -39, true}, {-60, -40, false}, {-99, 0, true}, {-99, -1, false}, {-98, -1, true}, {-99, -99, false}, {0, 0, true},
	} {
		v, ok := impl.ValAdd(num(c.x), num(c.y))
		if ok != c.is || ok && v != num(c.x+c.y) || !ok && v != (impl.Val{}) {
			t.Errorf("ValAdd of %d and %d is %v, %v", c.x, c.y, v, ok)
		}
	}
}

// Counts whose sum would be small again, or wrap round, are no numbers to begin with.
func TestP4WhatIsNotOkHasNoSum(t *testing.T) {
	for _, n := range []int{100, -100, 101, 1000, math.MaxInt, math.MinInt} {
		for _, m := range []int{0, 1, -1, 99, -99, 100, -100, math.MaxInt, math.MinInt} {
			mustNotAdd(t, num(n), num(m))
			mustNotAdd(t, num(m), num(n))
		}
		mustNotAdd(t, num(n), num(-n))
	}
}

func TestP5ThreeNumbers(t *testing.T) {
	for x := -99; x <= 99; x += 3 {
		for y := -99; y <= 99; y += 2 {
			for z := -99; z <= 99; z++ {
				left, okLeft := sumOfThree(num(x), num(y), num(z))
				right, okRight := sumOfThree(num(z), num(y), num(x))
				if okLeft && okRight && (left != right || left != num(x+y+z)) {
					t.Fatalf("%d, %d, %d: %v one way, %v the other", x, y, z, left, right)
				}
				if fit := inNum(x+y) && inNum(x+y+z); okLeft != fit {
					t.Fatalf("%d, %d, %d: %v, not %v", x, y, z, okLeft, fit)
				}
			}
		}
	}
}

func sumOfThree(a, b, c impl.Val) (impl.Val, bool) {
	s, ok := impl.ValAdd(a, b)
	if !ok {
		return s, false
	}
	return impl.ValAdd(s, c)
}

func inNum(n int) bool { return -99 <= n && n <= 99 }

func TestP5WithZeroItIsTheNumber(t *testing.T) {
	for n := -99; n <= 99; n++ {
		if v, ok := impl.ValAdd(num(n), num(0)); !ok || v != num(n) {
			t.Errorf("%d and 0: %v, %v", n, v, ok)
		}
		if v, ok := impl.ValAdd(num(0), num(n)); !ok || v != num(n) {
			t.Errorf("0 and %d: %v, %v", n, v, ok)
		}
	}
}

func TestP6Fits(t *testing.T) {
	texts := okByHand()
	for _, v := range manyVals() {
		_, is := texts[v]
		for _, kind := range manyKinds() {
			want := is && (kind == 0 || kind == v.Kind)
			if got := impl.ValFits(v, kind); got != want {
				t.Errorf("ValFits(%v, %d) is %v", v, kind, got)
			}
		}
	}
}

func TestP7LastByteLessIsNoneOrAnother(t *testing.T) {
	for _, r := range allRows() {
		short := r.text[:len(r.text)-1]
		v, ok := impl.ValRead(short)
		if ok && (v == r.v || impl.ValText(v) != short) {
			t.Errorf("%q, of %q: %v", short, r.text, v)
		}
		if !ok && v != (impl.Val{}) {
			t.Errorf("%q: %v beside false", short, v)
		}
	}
}

func TestP7BlankMoreIsNone(t *testing.T) {
	for _, r := range allRows() {
		mustNotRead(t, r.text+" ")
		mustNotRead(t, " "+r.text)
		mustNotRead(t, r.text[:1]+" "+r.text[1:])
	}
}

func TestP7NoughtAheadIsNone(t *testing.T) {
	for _, r := range allRows()[1:] {
		mustNotRead(t, r.text[:1]+"0"+r.text[1:])
		mustNotRead(t, r.text[:1]+"+"+r.text[1:])
		if r.v.N <= 0 {
			mustNotRead(t, fmt.Sprintf("%s-0%d", r.text[:1], -r.v.N))
		}
	}
	mustNotRead(t, "n-0")
}

func TestP8OkAtTheEdgesAndNotBeyond(t *testing.T) {
	for _, c := range []struct {
		kind, least, most int
	}{{impl.ValNone, 0, 0}, {impl.ValNum, -99, 99}, {impl.ValName, 0, 9}, {impl.ValRun, 1, 6}} {
		for n, want := range map[int]bool{c.least - 1: false, c.least: true, c.most: true, c.most + 1: false, math.MinInt: false, math.MaxInt: false} {
			v := impl.Val{Kind: c.kind, N: n}
			if got := impl.ValOk(v); got != want {
				t.Errorf("ValOk(%v) is %v", v, got)
			}
		}
	}
}

func TestP8OkIsJustWhatThereIs(t *testing.T) {
	texts := okByHand()
	for _, v := range manyVals() {
		_, want := texts[v]
		if got := impl.ValOk(v); got != want {
			t.Errorf("ValOk(%v) is %v", v, got)
		}
	}
}

func TestP9NoSumWithWhatIsNoNumber(t *testing.T) {
	for _, v := range manyVals() {
		if v.Kind == impl.ValNum {
			continue
		}
		for _, w := range []impl.Val{{}, num(0), num(5), num(-99), num(99), {Kind: impl.ValName, N: 1}, {Kind: impl.ValRun, N: 1}, v} {
			mustNotAdd(t, v, w)
			mustNotAdd(t, w, v)
		}
	}
}

func TestP9SignsExchanged(t *testing.T) {
	for x := -99; x <= 99; x++ {
		for y := -99; y <= 99; y++ {
			v, ok := impl.ValAdd(num(x), num(y))
			u, okU := impl.ValAdd(num(-x), num(-y))
			if ok != okU || ok && (u.Kind != v.Kind || u.N != -v.N) {
				t.Fatalf("%d and %d: %v, %v; signs exchanged %v, %v", x, y, v, ok, u, okU)
			}
		}
	}
}
