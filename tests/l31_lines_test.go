package tests

import (
	"fmt"
	"math"
	"regexp"
	"slices"
	"strconv"
	"strings"
	"sync"
	"testing"

	"loop.example/errandry/impl"
)

// Lines by their form, worked out apart from the program: a word is all up to a blank, and what comes behind the last word that counts does not matter.
var (
	turnLine  = regexp.MustCompile(`(?s)^turn( .*)?$`)
	tickLine  = regexp.MustCompile(`(?s)^tick( .*)?$`)
	turnsLine = regexp.MustCompile(`(?s)^turns ([0-9]{1,2})( .*)?$`)
	reachLine = regexp.MustCompile(`(?s)^(give|kill) ([^ ]*) ([^ ]*)( .*)?$`)
	seeLine   = regexp.MustCompile(`(?s)^see( .*)?$`)
	countLine = regexp.MustCompile(`(?s)^count( .*)?$`)
	numberOne = regexp.MustCompile(`^[0-9]{1,2}$`)
)

// ofBars is a text of lines that stand between bars, each with a newline; none, if it is empty.
func ofBars(text string) string {
	if text == "" {
		return ""
	}
	return strings.ReplaceAll(text, "|", "\n") + "\n"
}

// runsTextByHand tells all runs.
func runsTextByHand(g impl.World) string {
	text := ""
	for _, r := range g.Runs {
		if r.State == 3 {
			text += fmt.Sprintf("%d ended %s\n", r.Id, handVals[r.Why])
			continue
		}
		text += fmt.Sprintf("%d %s %d", r.Id, []string{"", "going", "waiting"}[r.State], r.At)
		for slot := range 4 {
			if r.Full>>slot%2 == 1 {
				text += " " + handVals[r.Slots[slot]]
			} else {
				text += " -"
			}
		}
		for _, v := range r.Mail {
			text += " <" + handVals[v]
		}
		text += "\n"
	}
	return text
}

// happensByHand lets an event happen, unless so much was sent that none can.
func happensByHand(g *impl.World, e impl.Event) {
	if g.Sent < 9000 {
		eventByHand(g, e)
	}
}

// valOfText is the value of a text, worked out apart from the program.
func valOfText(text string) (impl.Val, bool) {
	i := slices.IndexFunc(handRows, func(r row) bool { return r.text == text })
	if i < 0 {
		return impl.Val{}, false
	}
	return handRows[i].v, true
}

// lineByHand does a line, and is what is told of it.
func lineByHand(g *impl.World, line string) string {
	if turnLine.MatchString(line) {
		happensByHand(g, turnEvent())
		return ""
	}
	if tickLine.MatchString(line) {
		happensByHand(g, tickEvent())
		return ""
	}
	if m := turnsLine.FindStringSubmatch(line); m != nil {
		if n, _ := strconv.Atoi(m[1]); n <= 80 {
			for range n {
				happensByHand(g, turnEvent())
			}
			return ""
		}
	}
	if m := reachLine.FindStringSubmatch(line); m != nil {
		if v, is := valOfText(m[3]); is {
			a := -1
			if numberOne.MatchString(m[2]) {
				a, _ = strconv.Atoi(m[2])
			}
			happensByHand(g, ev(map[string]int{"give": 3, "kill": 4}[m[1]], a, v))
			return ""
		}
	}
	if seeLine.MatchString(line) {
		return runsTextByHand(*g)
	}
	if countLine.MatchString(line) {
		return fmt.Sprintf("%d %d %d\n", g.Sent, g.Taken, g.Lost)
	}
	return "what\n"
}

// playedByHand is the world behind all lines, and what is told of them ahead of the end.
func playedByHand(steps []impl.Op, text string) (impl.World, string) {
	first := impl.Run{Id: 1, Slots: []impl.Val{run(1), {}, {}, {}}, Full: 1, State: 1}
	g := impl.World{Code: steps, Runs: []impl.Run{first}, Queue: []int{1}}
	told := ""
	for {
		line, rest, is := strings.Cut(text, "\n")
		if !is {
			return g, told
		}
		told += lineByHand(&g, line)
		text = rest
	}
}

// linesByHand is what LinesRun is to answer, worked out apart from the program.
func linesByHand(code, text string) string {
	steps, is := readByHand(code)
	if !is || !safeByHand(steps) {
		return "not safe\n"
	}
	if len(text) > 400 {
		return "too long\n"
	}
	g, told := playedByHand(steps, text)
	return told + runsTextByHand(g)
}

// checkLines holds LinesRun to what is worked out by hand; it is what LinesRun answered.
func checkLines(t *testing.T, code, text string) string {
	t.Helper()
	told, want := impl.LinesRun(code, text), linesByHand(code, text)
	if told != want {
		t.Fatalf("%q by %q tells %q, not %q", text, code, told, want)
	}
	return told
}

// fewLines are whole lines at random, at most so many bytes in all; eventful ones alone tell nothing.
func (d *dice) fewLines(most int, eventful bool) string {
	text := ""
	for range d.below(40) {
		line := d.line(eventful) + "\n"
		if len(text)+len(line) <= most {
			text += line
		}
	}
	return text
}

func (d *dice) line(eventful bool) string {
	v := handVals[d.val()]
	switch n := d.below(40); {
	case n < 14:
		return "turn"
	case n < 20:
		return "tick"
	case n < 28:
		return fmt.Sprintf("give %d %s", d.below(8), v)
	case n < 29:
		return fmt.Sprintf("kill %d %s", d.below(8), v)
	case n < 33 || eventful:
		return fmt.Sprintf("turns %d", d.below(9))
	case n < 34:
		return pick(d, []string{"see", "see you"})
	case n < 36:
		return pick(d, []string{"count", "count me"})
	case n < 38:
		return pick(d, oddLines())
	}
	return pick(d, noneLines())
}

// noneLines are lines that are none.
func noneLines() []string {
	return []string{
		"", " ", "  ", "hello", "what", "Turn", "TURN", "TICK", "See", "COUNT", "GIVE 1 n1", "Kill 1 n1", "TURNS 3",
		" turn", "  turn", " see", " count", " tick", " turns 3", " give 1 n1", " kill 1 n1", "\tturn", "turn\t", "turn\r", "tick\r", "see\r", "count\r", "\rsee",
		"turns 3\r", "give 1 n1\r", "kill 1 n1\r", "turn\x00", "\x00", "\xff", "see\xff", "s\xc3\xa9e", "turn\u00a0", "turn\v", "\ufeffturn",
		"tur", "turnss", "turn.", "ticks", "sees", "counts", "gives 1 n1", "killed 1 n1", "seecount", "set 1 n5", "end 1", "going", "none", "n1", "0", "1",
		"turns", "turns ", "turns  3", "turns x", "turns 81", "turns 82", "turns 90", "turns 99", "turns 100", "turns 080", "turns 003", "turns 000", "turns 800",
		"turns -1", "turns -0", "turns +3", "turns 3x", "turns x3", "turns 3.", "turns 3,", "turns 1_0", "turns 0x", "turns 1e", "turns n3", "turns \u0663", "turns x 3", "turns -1 3", "turns 9223372036854775809", "turns 18446744073709551617",
		"turns3", "turns\t3", "turn3",
		"give", "give ", "give  ", "give 1", "give 1 ", "give n1", "give  1 n1", "give 1  n1", "give n1 1", "give 1 1", "give 1 x", "give 1 n", "give 1 n100", "give 1 n-100", "give 1 n01", "give 1 n-0", "give 1 n+1", "give 1 a10", "give 1 a-1", "give 1 r0", "give 1 r7", "give 1 N1", "give 1 None", "give 1 no", "give 1 nones", "give 1 -", "give 1 <n1", "give 1 x n1", "give 1\tn1", "give1 n1", "give x 1", "give 7 n100",
		"kill", "kill ", "kill  ", "kill 1", "kill 1 ", "kill n1", "kill  1 n1", "kill 1  n1", "kill n1 1", "kill 1 1", "kill 1 x", "kill 1 n100", "kill 1 n01", "kill 1 a10", "kill 1 r0", "kill 1 r7", "kill 1 x n1", "kill 1\tn1", "kill1 n1", "kill 7 r7",
	}
}

// oddLines are lines that are fine all the same, though they have more words than count, figures that need not be, or a run that there is not.
func oddLines() []string {
	return []string{
		"turn ", "turn  ", "turn x", "turn 3", "turn turn", "turn \r", "turn \xff", "tick ", "tick 9", "tick tock", "see ", "see x", "count ", "count 1 2 3",
		"turns 0", "turns 00", "turns 1", "turns 01", "turns 08", "turns 09", "turns 80", "turns 3 ", "turns 3 x", "turns 3 4", "turns 0 81",
		"give 1 n1 ", "give 1 n1 x", "give 1 n1 100", "give 01 n1", "give 1 none", "give 0 n1", "give 00 n1", "give 7 n1", "give 9 n1", "give 10 n1", "give 11 n1", "give 99 n1",
		"give x n1", "give  n1", "give -1 n1", "give +1 n1", "give 1x n1", "give x1 n1", "give 001 n1", "give 100 n1", "give r1 n1", "give n1 n1", "give 1.0 n1", "give \u0661 n1", "give 18446744073709551617 n1", "give 4294967297 n1", "give 257 n1",
		"kill 1 a0 ", "kill 1 n1 x", "kill 01 n1", "kill 1 none", "kill 0 n1", "kill 7 n1", "kill 99 n1", "kill x n1", "kill  n1", "kill -1 n1", "kill +1 n1", "kill 001 n1", "kill 100 n1", "kill r1 n1", "kill 18446744073709551617 n1",
	}
}

// written is what is told of lines by steps, each text with bars between its lines.
type written struct{ code, lines, want string }

func checkWritten(t *testing.T, cases []written) {
	t.Helper()
	for _, c := range cases {
		if told := impl.LinesRun(ofBars(c.code), ofBars(c.lines)); told != ofBars(c.want) {
			t.Errorf("%s by %s tells %q, not %q", c.lines, c.code, told, ofBars(c.want))
		}
	}
}

// Steps by which runs take, count their turns, and begin one that adds 1.
const (
	takerText   = "take 1 1|end 1"
	foreverText = "take 1 0|go 0"
	counterText = "set 1 n1|set 2 n0|go 3|add 2 1|go 5|go 3"
	adderText   = "begin 1 5|set 2 n41|send 1 2|take 3 1|end 3|take 1 1|set 2 n1|add 1 2|send 0 1|end 1"
	timerText   = "after 1 1 2 n2|end 1|end 0"
	linkedText  = "begin 1 4|link 1|take 2 0|end 2|take 3 0|end 3"
	trapperText = "trap n1|begin 1 5|link 1|take 2 3|end 2|take 3 0|end 3"
	watcherText = "begin 1 4|watch 1|take 2 3|end 2|take 3 0|end 3"
	chainText   = "begin 1 4|link 1|take 2 0|end 2|begin 1 8|link 1|take 2 0|end 2|take 2 0|end 2"
)

func TestP101ALineOfEachRun(t *testing.T) {
	many := "begin 3 6|begin 3 6|begin 3 6|begin 3 6|begin 3 6|begin 3 6|take 1 0|go 6"
	checkWritten(t, []written{
		{takerText, "", "1 going 0 r1 - - -"},
		{takerText, "turn", "1 waiting 0 r1 - - -"},
		{takerText, "turns 80", "1 waiting 0 r1 - - -"},
		{takerText, "give 1 n4", "1 going 0 r1 - - - <n4"},
		{takerText, "give 1 a3|give 1 none|give 1 r6|give 1 n-99", "1 going 0 r1 - - - <a3 <none <r6 <n-99"},
		{takerText, "turn|give 1 a3|give 1 a0", "1 waiting 0 r1 - - - <a3 <a0"},
		{takerText, "turn|give 1 a3|give 1 n0", "1 going 0 r1 - - - <a3 <n0"},
		{takerText, "turn|give 1 a3|give 1 n0|turn", "1 ended n0"},
		{takerText, "kill 1 n-7", "1 ended n-7"},
		{takerText, "kill 1 none", "1 ended none"},
		{takerText, "kill 1 a0", "1 ended a0"},
		{takerText, "kill 1 r6|kill 1 r5|turn|tick", "1 ended r6"},
		{takerText, "see", "1 going 0 r1 - - -|1 going 0 r1 - - -"},
		{takerText, "turn|see|give 1 n8|see|turn|see", "1 waiting 0 r1 - - -|1 going 0 r1 - - - <n8|1 ended n8|1 ended n8"},
		{"set 1 n5|move 2 1|self 3|take 0 2|go 3", "turn", "1 going 3 r1 n5 n5 r1"},
		{"set 1 n5|move 2 1|self 3|take 0 2|go 3", "turn|turn|give 1 a9|give 1 a8|turn", "1 going 4 a8 n5 n5 r1"},
		{"set 3 none|set 1 a1|end 1", "turn", "1 ended a1"},
		{"set 3 none|set 1 a1|go 2", "turn", "1 going 2 r1 a1 - none"},
		{"go 1|go 2|go 3|go 4|go 5|go 6|go 7|go 8|go 9|go 10|go 11|go 12|go 13|go 14|go 15|end 0", "turns 5", "1 going 15 r1 - - -"},
		{many, "turns 2", "1 going 3 r1 - - r4|2 waiting 6 r1 - - -|3 going 6 r1 - - -|4 going 6 r1 - - -"},
		{many, "turns 5", "1 going 6 r1 - - none|2 waiting 6 r1 - - -|3 waiting 6 r1 - - -|4 waiting 6 r1 - - -|5 going 6 r1 - - -|6 going 6 r1 - - -"},
		{many, "turn|kill 2 n1", "1 going 3 r1 - - r4|2 ended n1|3 going 6 r1 - - -|4 going 6 r1 - - -"},
		{many, "turns 20|give 6 a4|turn", "1 waiting 6 r1 - - none|2 waiting 6 r1 - - -|3 waiting 6 r1 - - -|4 waiting 6 r1 - - -|5 waiting 6 r1 - - -|6 waiting 6 r1 a4 - -"},
		{"begin 1 2|end 1|take 2 0|end 2", "turn|see|hello|give 2 n4|turns 2|count", "1 ended r2|2 going 2 r1 - - -|what|1 1 0|1 ended r2|2 ended n4"},
	})
}

// oneLine is what the line of a run looks like.
var oneLine = regexp.MustCompile(`^([1-6]) (ended [a-z0-9-]+|(going|waiting) (1[0-5]|[0-9])( (-|none|n-?[0-9]+|a[0-9]|r[1-6])){4}( <(none|n-?[0-9]+|a[0-9]|r[1-6])){0,12})$`)

// Of lines that tell nothing themselves there are just as many in the end as there are runs.
func TestP101AsManyLinesAsThereAreRuns(t *testing.T) {
	d := &dice{state: 101}
	var runs [7]int
	for _, steps := range playCodes(t, d, 600) {
		code, text := textByHand(steps), d.fewLines(400, true)
		told := checkLines(t, code, text)
		g, ahead := playedByHand(steps, text)
		lines := strings.SplitAfter(told, "\n")
		if ahead != "" || lines[len(lines)-1] != "" || len(lines)-1 != len(g.Runs) {
			t.Fatalf("%q by %q tells %q of %d runs", text, code, told, len(g.Runs))
		}
		runs[len(g.Runs)]++
		for i, line := range lines[:len(lines)-1] {
			if m := oneLine.FindStringSubmatch(strings.TrimSuffix(line, "\n")); m == nil || m[1] != strconv.Itoa(i+1) {
				t.Fatalf("%q by %q tells %q", text, code, line)
			}
		}
	}
	for many := 1; many <= 6; many++ {
		mustHave(t, fmt.Sprintf("texts that end with %d runs", many), runs[many], 5)
	}
}

func TestP101LinesOfAllKinds(t *testing.T) {
	d := &dice{state: 1010}
	seen := map[string]int{}
	for _, steps := range playCodes(t, d, 1200) {
		told := checkLines(t, textByHand(steps), d.fewLines(400, false))
		for _, word := range []string{"going", "waiting", "ended", "what", "<", " - ", " none"} {
			if strings.Contains(told, word) {
				seen[word]++
			}
		}
		if strings.Count(told, "\n") < 1 || !strings.HasSuffix(told, "\n") {
			t.Fatalf("told is %q", told)
		}
	}
	for _, word := range []string{"going", "waiting", "ended", "what", "<", " - ", " none"} {
		mustHave(t, fmt.Sprintf("answers with %q", word), seen[word], 50)
	}
}

func TestP102WhatIsSentComesBackWithOneMore(t *testing.T) {
	checkWritten(t, []written{
		{adderText, "", "1 going 0 r1 - - -"},
		{adderText, "turn", "1 going 3 r1 r2 n41 -|2 going 5 r1 - - - <n41"},
		{adderText, "turns 2", "1 going 3 r1 r2 n41 -|2 going 8 r1 n42 n1 -"},
		{adderText, "turns 3", "1 waiting 3 r1 r2 n41 -|2 going 8 r1 n42 n1 -"},
		{adderText, "turns 4", "1 going 3 r1 r2 n41 - <n42|2 ended n42"},
		{adderText, "turns 5", "1 ended n42|2 ended n42"},
		{adderText, "turns 80|count", "2 2 0|1 ended n42|2 ended n42"},
	})
	for n := -99; n <= 99; n++ {
		code := strings.Replace(adderText, "n41", fmt.Sprintf("n%d", n), 1)
		want := fmt.Sprintf("1 ended n%d|2 ended n%d", n+1, n+1)
		if n == 99 {
			want = "1 waiting 3 r1 r2 n99 -|2 ended a1"
		}
		checkWritten(t, []written{{code, "turns 9", want}})
	}
	checkWritten(t, []written{{strings.Replace(adderText, "n41", "a4", 1), "turns 9|count", "1 0 0|1 waiting 3 r1 r2 a4 -|2 waiting 5 r1 - - - <a4"}})
}

func TestP103WhoTrapsIsToldAndWhoDoesNotEndsToo(t *testing.T) {
	checkWritten(t, []written{
		{trapperText, "turns 3", "1 waiting 3 r1 r2 - -|2 waiting 5 r1 - - -"},
		{trapperText, "turns 3|kill 2 n7", "1 going 3 r1 r2 - - <r2|2 ended n7"},
		{trapperText, "turns 3|kill 2 n7|turn", "1 ended r2|2 ended n7"},
		{trapperText, "turns 3|give 2 n7|turn", "1 going 3 r1 r2 - - <r2|2 ended n7"},
		{trapperText, "turns 3|give 2 a0|turn", "1 waiting 3 r1 r2 - -|2 ended a0"},
		{trapperText, "turns 3|kill 2 a0|count", "0 0 0|1 waiting 3 r1 r2 - -|2 ended a0"},
		{trapperText, "turns 3|kill 2 a1|count", "1 0 0|1 going 3 r1 r2 - - <r2|2 ended a1"},
		{trapperText, "turns 3|kill 1 n7", "1 ended n7|2 ended n7"},
		{trapperText, "turns 3|kill 1 a0", "1 ended a0|2 waiting 5 r1 - - -"},
		{linkedText, "turns 2", "1 waiting 2 r1 r2 - -|2 waiting 4 r1 - - -"},
		{linkedText, "turns 2|kill 2 n7", "1 ended n7|2 ended n7"},
		{linkedText, "turns 2|kill 1 n7", "1 ended n7|2 ended n7"},
		{linkedText, "turns 2|kill 2 none", "1 ended none|2 ended none"},
		{linkedText, "turns 2|kill 2 n0", "1 ended n0|2 ended n0"},
		{linkedText, "turns 2|kill 2 a0", "1 waiting 2 r1 r2 - -|2 ended a0"},
		{linkedText, "turns 2|kill 1 a0", "1 ended a0|2 waiting 4 r1 - - -"},
		{linkedText, "turns 2|kill 2 a0|kill 1 a2", "1 ended a2|2 ended a0"},
		{linkedText, "turns 2|give 2 r5|turn", "1 ended r5|2 ended r5"},
		{linkedText, "turns 2|give 2 a0|turn", "1 waiting 2 r1 r2 - -|2 ended a0"},
		{linkedText, "turns 2|kill 3 n7|kill 0 n7|kill x n7", "1 waiting 2 r1 r2 - -|2 waiting 4 r1 - - -"},
	})
}

func TestP104AValueComesInTimeOrNot(t *testing.T) {
	checkWritten(t, []written{
		{timerText, "turn", "1 waiting 0 r1 - - -"},
		{timerText, "turn|tick", "1 waiting 0 r1 - - -"},
		{timerText, "turn|tick|turns 9", "1 waiting 0 r1 - - -"},
		{timerText, "turn|tick|tick", "1 going 0 r1 - - -"},
		{timerText, "turn|tick|tick|turn", "1 ended r1"},
		{timerText, "tick|tick|turn|tick", "1 waiting 0 r1 - - -"},
		{timerText, "tick|tick|turn|tick|tick|turn", "1 ended r1"},
		{timerText, "turn|give 1 n5|turn", "1 ended n5"},
		{timerText, "turn|tick|give 1 n5", "1 going 0 r1 - - - <n5"},
		{timerText, "turn|tick|give 1 n5|turn", "1 ended n5"},
		{timerText, "turn|tick|give 1 n5|tick|turn", "1 ended n5"},
		{timerText, "turn|tick|give 1 a5|turn|see|tick|see|turn", "1 waiting 0 r1 - - - <a5|1 going 0 r1 - - - <a5|1 ended r1"},
		{timerText, "turn|tick|give 1 a5|give 1 n6|turn|count", "2 1 1|1 ended n6"},
		{timerText, "turn|tick|tick|give 1 n5|turn", "1 ended n5"},
		{timerText, "tick|tick|tick", "1 going 0 r1 - - -"},
	})
	for n := 1; n <= 78; n++ {
		code := fmt.Sprintf("after 1 1 2 n%d|end 1|end 0", n)
		ticks := strings.Repeat("tick|", n-1)
		checkWritten(t, []written{{code, "turn|" + ticks + "turn", "1 waiting 0 r1 - - -"}})
		if n <= 77 {
			checkWritten(t, []written{{code, "turn|" + ticks + "tick|turn", "1 ended r1"}})
		}
	}
}

func TestP105WhoWatchesIsToldOfAnyEnd(t *testing.T) {
	checkWritten(t, []written{{watcherText, "turns 2", "1 waiting 2 r1 r2 - -|2 waiting 4 r1 - - -"}})
	for _, v := range edgeVals() {
		why := handVals[v]
		checkWritten(t, []written{
			{watcherText, "turns 2|kill 2 " + why + "|count", "1 0 0|1 going 2 r1 r2 - - <r2|2 ended " + why},
			{watcherText, "turns 2|kill 2 " + why + "|turn", "1 ended r2|2 ended " + why},
			{watcherText, "turns 2|give 2 " + why + "|turn", "1 going 2 r1 r2 - - <r2|2 ended " + why},
			{watcherText, "turns 2|kill 1 " + why, "1 ended " + why + "|2 waiting 4 r1 - - -"},
			{watcherText, "turns 2|kill 1 " + why + "|kill 2 n3|count", "0 0 0|1 ended " + why + "|2 ended n3"},
		})
	}
	checkWritten(t, []written{
		{"begin 1 5|go 2|take 2 0|watch 1|go 2|end 0", "turns 2|give 1 n1|turn|see|count", "1 going 2 r1 r2 n1 - <r2|2 ended r1|2 1 0|1 going 2 r1 r2 n1 - <r2|2 ended r1"},
		{"watch 0|take 1 0|end 1", "turn", "1 waiting 1 r1 - - -"},
		{"set 1 r5|watch 1|take 2 3|end 2", "turn|count", "1 1 0|1 going 3 r1 r5 r5 -"},
	})
}

func TestP106WhatWasGivenTakenAndLost(t *testing.T) {
	checkWritten(t, []written{
		{foreverText, "count", "0 0 0|1 going 0 r1 - - -"},
		{foreverText, "give 1 n1|count", "1 0 0|1 going 0 r1 - - - <n1"},
		{foreverText, "give 1 n1|turn|count", "1 1 0|1 waiting 0 r1 n1 - -"},
		{foreverText, "give 1 n1|give 1 a2|give 1 r3|turn|count|turn|count", "3 2 0|3 3 0|1 going 0 r1 r3 - -"},
		{foreverText, "give 2 n1|give 0 n1|give 7 n1|give 99 n1|give x n1|count", "5 0 5|1 going 0 r1 - - -"},
		{foreverText, "give 1 n1|give 2 n2|turn|give 1 n3|kill 1 n4|give 1 n5|count", "4 1 3|1 ended n4"},
		{foreverText, "count|give 1 n1|count|turn|count|kill 1 a0|count", "0 0 0|1 0 0|1 1 0|1 1 0|1 ended a0"},
	})
	for given := 0; given <= 30; given++ {
		for turns := range 12 {
			// By two turns three values are taken: one takes, goes, and takes, the next one goes, takes, and goes.
			took := min(given, 12, turns/2*3+turns%2*2)
			text := strings.Repeat("give 1 n1\n", given) + fmt.Sprintf("turns %d\ncount\n", turns)
			want := fmt.Sprintf("%d %d %d\n", given, took, max(given-12, 0))
			if told := checkLines(t, ofBars(foreverText), text); !strings.HasPrefix(told, want) {
				t.Errorf("%d given, %d turns: %q, not %q", given, turns, told, want)
			}
		}
	}
}

// By a line that is none nothing happens: what is told behind it is what is told without it.
func TestP107LinesThatAreNone(t *testing.T) {
	for _, bars := range []string{takerText, adderText, counterText, linkedText} {
		code := ofBars(bars)
		for _, ahead := range []string{"", "turn\n", "turns 3\ngive 1 n3\n", "turn\nkill 1 n3\n"} {
			behind := "count\nturn\n"
			want := "what\n" + impl.LinesRun(code, ahead+behind)
			for _, line := range noneLines() {
				if told := checkLines(t, code, ahead+line+"\n"+behind); told != want {
					t.Fatalf("%q behind %q by %q tells %q, not %q", line, ahead, code, told, want)
				}
			}
		}
	}
}

func TestP107LinesThatAreFineAllTheSame(t *testing.T) {
	for _, bars := range []string{takerText, adderText, counterText, linkedText} {
		for _, ahead := range []string{"", "turns 2\ngive 2 n3\n"} {
			for _, line := range oddLines() {
				if told := checkLines(t, ofBars(bars), ahead+line+"\ncount\n"); strings.Contains(told, "what") {
					t.Fatalf("%q by %q tells %q", line, bars, told)
				}
			}
		}
	}
	checkWritten(t, []written{
		{counterText, "turn x", "1 going 3 r1 n1 n0 -"},
		{counterText, "turn turns 80", "1 going 3 r1 n1 n0 -"},
		{counterText, "turns 9 turn", "1 going 3 r1 n1 n8 -"},
		{counterText, "turns 3 4", "1 going 3 r1 n1 n2 -"},
		{takerText, "tick tick", "1 going 0 r1 - - -"},
		{takerText, "see see|count see", "1 going 0 r1 - - -|0 0 0|1 going 0 r1 - - -"},
		{takerText, "give 1 a2 a3|count 1", "1 0 0|1 going 0 r1 - - - <a2"},
		{takerText, "kill 1 a2 a3", "1 ended a2"},
		{takerText, "give x a2|count", "1 0 1|1 going 0 r1 - - -"},
		{takerText, "give 001 a2|count", "1 0 1|1 going 0 r1 - - -"},
		{takerText, "give 01 a2|count", "1 0 0|1 going 0 r1 - - - <a2"},
		{takerText, "kill x a2|kill 001 a2|kill 2 a2|count", "0 0 0|1 going 0 r1 - - -"},
		{takerText, "kill 01 a2", "1 ended a2"},
	})
}

// wordsOf are all words of at most so many of these letters.
func wordsOf(letters []string, most int) []string {
	words, longer := []string{""}, []string{""}
	for range most {
		var next []string
		for _, word := range longer {
			for _, letter := range letters {
				next = append(next, word+letter)
			}
		}
		words, longer = append(words, next...), next
	}
	return words
}

// The run had so many turns as it counts: by each number of turns there may be, and by none.
func TestP107HowManyTurns(t *testing.T) {
	for n := 0; n <= 120; n++ {
		want := []written{{counterText, fmt.Sprintf("turns %d", n), fmt.Sprintf("1 going 3 r1 n1 n%d -", n-1)}}
		switch {
		case n == 0:
			want[0].want = "1 going 0 r1 - - -"
		case n > 80:
			want[0].want = "what|1 going 0 r1 - - -"
		}
		checkWritten(t, want)
	}
	letters := strings.Split("0,1,2,7,8,9,/,:,-,+, ,x,\r,\x00,\xb2,\u0663,\t", ",")
	for _, word := range wordsOf(letters, 3) {
		checkLines(t, ofBars(counterText), "turns "+word+"\n")
	}
	for _, n := range []int{math.MinInt, math.MinInt + 1, -1 << 32, math.MaxInt, math.MaxInt - 79, 1 << 32, 1<<32 + 3, 1<<16 + 3, 1<<8 + 3} {
		checkWritten(t, []written{{counterText, fmt.Sprintf("turns %d", n), "what|1 going 0 r1 - - -"}})
	}
}

func TestP107WhichRun(t *testing.T) {
	letters := strings.Split("0,1,2,6,9,-,+, ,r,\r", ",")
	for _, word := range wordsOf(letters, 3) {
		checkLines(t, ofBars(linkedText), "turn\ngive "+word+" n5\nkill "+word+" a3\ncount\n")
	}
	for a := 0; a <= 120; a++ {
		given, ended := "", ""
		for id := 1; id <= 2; id++ {
			place := []string{"waiting 2 r1 r2 - -", "waiting 4 r1 - - -"}[id-1]
			if a == id {
				given += fmt.Sprintf("|%d %s <n5", id, strings.Replace(place, "waiting", "going", 1))
			} else {
				given += fmt.Sprintf("|%d %s", id, place)
			}
			if a == 1 || a == 2 {
				ended += fmt.Sprintf("|%d ended n5", id)
			} else {
				ended += fmt.Sprintf("|%d %s", id, place)
			}
		}
		lost := 1
		if a == 1 || a == 2 {
			lost = 0
		}
		checkWritten(t, []written{
			{linkedText, fmt.Sprintf("turns 2|give %d n5|count", a), fmt.Sprintf("1 0 %d%s", lost, given)},
			{linkedText, fmt.Sprintf("turns 2|kill %d n5|count", a), "0 0 0" + ended},
		})
	}
}

// Each value there is, and each other one with a text that is as short.
func TestP107WhichValue(t *testing.T) {
	for _, r := range handRows {
		checkWritten(t, []written{
			{takerText, "give 1 " + r.text, "1 going 0 r1 - - - <" + r.text},
			{takerText, "kill 1 " + r.text, "1 ended " + r.text},
		})
	}
	for _, word := range wordsOf(strings.Split("n,a,r,0,1,6,7,9,-, ", ","), 3) {
		checkLines(t, ofBars(takerText), "give 1 "+word+"\nkill 1 "+word+"\n")
	}
}

// A byte more at each place of a line, a byte less, and another one: it is that line, another one, or none.
func TestP107EachByteOfALine(t *testing.T) {
	code := ofBars(linkedText)
	for _, line := range []string{"turn", "tick", "see", "count", "turns 7", "give 1 n5", "kill 2 a0"} {
		for i := range len(line) + 1 {
			if i < len(line) {
				checkLines(t, code, "turns 2\n"+line[:i]+line[i+1:]+"\ncount\n")
			}
			for b := range 256 {
				checkLines(t, code, "turns 2\n"+line[:i]+string([]byte{byte(b)})+line[i:]+"\ncount\n")
				if i < len(line) {
					checkLines(t, code, "turns 2\n"+line[:i]+string([]byte{byte(b)})+line[i+1:]+"\ncount\n")
				}
			}
		}
	}
}

func TestP107WhatIsBehindTheLastNewline(t *testing.T) {
	for _, behind := range []string{"turn", "see", "count", "hello", " ", "\r", "kill 1 n1", "give 1 n1", "turns 5", "turns 81"} {
		for _, text := range []string{"", "turn\n", "turn\nsee\n\n", "hello\n"} {
			told := checkLines(t, ofBars(takerText), text+behind)
			if want := impl.LinesRun(ofBars(takerText), text); told != want {
				t.Errorf("%q behind %q tells %q, not %q", behind, text, told, want)
			}
		}
	}
	checkWritten(t, []written{{takerText, "|", "what|what|1 going 0 r1 - - -"}, {takerText, "turn||turn", "what|1 waiting 0 r1 - - -"}})
	if told := impl.LinesRun(ofBars(takerText), "\n"); told != "what\n1 going 0 r1 - - -\n" {
		t.Errorf("an empty line tells %q", told)
	}
	if told := impl.LinesRun(ofBars(takerText), "turn"); told != "1 going 0 r1 - - -\n" {
		t.Errorf("a turn without a newline tells %q", told)
	}
}

func TestP107StepsThatAreNotSafe(t *testing.T) {
	notSafe := []string{
		"", "\n", "hello\n", "turn\n", "end 0", "end 0\n\n", "\nend 0\n", "end 0\nend 0", "end 0\r\n", " end 0\n", "end 0 \n", "end  0\n", "END 0\n", "end 4\n", "go 1\n", "end 0|end 0\n",
		"end 1\n", "set 1 n1\n", "set 1 n1\nend 2\n", "send 0 1\nend 0\n", "if 0 2 r1\nset 2 a1\nend 2\n", "take 1 0\n", "begin 1 1\nend 1\n", "after 1 0 1 n1\nend 1\n",
		strings.Repeat("end 0\n", 17), strings.Repeat("end 0\n", 66), strings.Repeat("end 0\n", 66) + "go 0", strings.Repeat("end 0\n", 66) + "go 0\n", strings.Repeat("x", 400), strings.Repeat("x", 401), strings.Repeat("end 0\n", 10000),
		"end 0\x00\n", "\xff\n", "set 1 n100\nend 1\n",
	}
	for _, code := range notSafe {
		for _, text := range []string{"", "turn\n", "see\ncount\n", "hello\n", strings.Repeat("see\n", 100), strings.Repeat("see\n", 100) + "x", strings.Repeat("x", 100000)} {
			if told := checkLines(t, code, text); told != "not safe\n" {
				t.Errorf("%.30q, of %d bytes, by %.30q tells %q", text, len(text), code, told)
			}
		}
	}
	for i, c := range manyCodes() {
		if i%5 == 0 {
			checkLines(t, textByHand(c.code), "turns 5\nsee\n")
		}
	}
}

// wideLines are texts of so many bytes.
func wideLines(size int) []string {
	return []string{
		strings.Repeat("see\n", size/4) + strings.Repeat("x", size%4),
		strings.Repeat("\n", size),
		strings.Repeat("x", size),
		strings.Repeat("x", size-1) + "\n",
		strings.Repeat("turn\n", size/5) + strings.Repeat("\n", size%5),
		"see" + strings.Repeat(" ", size-4) + "\n",
		"turn" + strings.Repeat("\x00", size-4),
		strings.Repeat("\xc3\xa9", size/2) + strings.Repeat("\n", size%2),
	}
}

func TestP107HowLongATextMayBe(t *testing.T) {
	for _, size := range []int{4, 399, 400, 401, 402, 800, 4096, 100000} {
		for _, text := range wideLines(size) {
			for _, code := range []string{takerText, adderText} {
				if told := checkLines(t, ofBars(code), text); len(text) != size || (told == "too long\n") != (size > 400) {
					t.Errorf("%d bytes tell %q", size, told)
				}
			}
			if told := impl.LinesRun("end 1\n", text); told != "not safe\n" {
				t.Errorf("%d bytes, by steps that are not safe, tell %q", size, told)
			}
		}
	}
}

// endOf is what is told in the end of lines: as many lines as there are runs.
func endOf(t *testing.T, code, text string) (ahead, end string) {
	t.Helper()
	told := checkLines(t, code, text)
	steps, _ := readByHand(code)
	g, _ := playedByHand(steps, text)
	lines := strings.SplitAfter(told, "\n")
	at := len(lines) - 1 - len(g.Runs)
	return strings.Join(lines[:at], ""), strings.Join(lines[at:], "")
}

func TestP108ToLookChangesNothing(t *testing.T) {
	d := &dice{state: 108}
	counted := regexp.MustCompile(`^\d+ \d+ \d+\n$`)
	for _, steps := range playCodes(t, d, 400) {
		code, text := textByHand(steps), d.fewLines(380, false)
		ahead, end := endOf(t, code, text)
		if told := impl.LinesRun(code, text+"see\n"); told != ahead+end+end {
			t.Fatalf("%q and see, by %q, tells %q, not %q and twice %q", text, code, told, ahead, end)
		}
		for _, line := range []string{"what", "hello", "", "turns 81"} {
			if told := impl.LinesRun(code, text+line+"\n"); told != ahead+"what\n"+end {
				t.Fatalf("%q and %q, by %q, tells %q, not %q and %q", text, line, code, told, ahead, end)
			}
		}
		told := impl.LinesRun(code, text+"count\n")
		behind, is := strings.CutPrefix(told, ahead)
		count, same := strings.CutSuffix(behind, end)
		if !is || !same || !counted.MatchString(count) {
			t.Fatalf("%q and count, by %q, tells %q, not %q and %q", text, code, told, ahead, end)
		}
		if more := impl.LinesRun(code, text+"see\ncount\nwhat\n"); more != ahead+end+count+"what\n"+end {
			t.Fatalf("%q and all three, by %q, tells %q", text, code, more)
		}
	}
}

func TestP109ThreeTurnsAtOnceOrOneByOne(t *testing.T) {
	d := &dice{state: 109}
	moved := 0
	for _, steps := range playCodes(t, d, 400) {
		code, text := textByHand(steps), d.fewLines(380, false)
		at := checkLines(t, code, text+"turns 3\n")
		if one := impl.LinesRun(code, text+"turn\nturn\nturn\n"); one != at {
			t.Fatalf("%q by %q: by three turns %q, by one and one %q", text, code, at, one)
		}
		if at != impl.LinesRun(code, text) {
			moved++
		}
		if none := impl.LinesRun(code, text+"turns 0\n"); none != impl.LinesRun(code, text) {
			t.Fatalf("%q by %q: by no turns %q", text, code, none)
		}
	}
	mustHave(t, "texts behind which a turn does something", moved, 100)
}

func TestP110ThreeInAChainFallTogether(t *testing.T) {
	first, second, third := "1 waiting 2 r1 r2 - -", "2 waiting 6 r1 r3 - -", "3 waiting 8 r2 - - -"
	all := first + "|" + second + "|" + third
	checkWritten(t, []written{
		{chainText, "turns 3", all},
		{chainText, "turns 4|count", "0 0 0|" + all},
		{chainText, "turns 3|kill 3 a0", first + "|" + second + "|3 ended a0"},
		{chainText, "turns 3|kill 2 a0", first + "|2 ended a0|" + third},
		{chainText, "turns 3|kill 2 a0|kill 3 n1", first + "|2 ended a0|3 ended n1"},
		{chainText, "turns 3|kill 2 a0|kill 1 n1", "1 ended n1|2 ended a0|" + third},
		{chainText, "turns 3|kill 4 n1", all},
		{"trap n1|begin 1 5|link 1|take 2 3|end 2|begin 1 8|link 1|take 2 0|take 2 0|end 2", "turns 9|kill 3 n4", "1 going 3 r1 r2 - - <r2|2 ended n4|3 ended n4"},
		{"begin 1 4|link 1|take 2 0|end 2|trap n1|begin 1 8|link 1|take 2 0|take 2 0|end 2", "turns 9|kill 3 n4", first + "|2 going 7 r1 r3 - - <r3|3 ended n4"},
	})
	for _, v := range ends() {
		why := handVals[v]
		for id := 1; id <= 3; id++ {
			want := fmt.Sprintf("1 ended %s|2 ended %s|3 ended %s", why, why, why)
			checkWritten(t, []written{
				{chainText, fmt.Sprintf("turns 3|kill %d %s", id, why), want},
				{chainText, fmt.Sprintf("turns 3|give %d %s|turn", id, why), want},
				{chainText, fmt.Sprintf("turns 3|kill %d %s|turns 80|tick|kill 1 n9", id, why), want},
			})
		}
	}
}

// busyText are steps of which all but the last one send, and busy is so many turns by them, all at once as far as may be.
const busyText = "send 0 0|send 0 0|send 0 0|send 0 0|send 0 0|send 0 0|send 0 0|send 0 0|send 0 0|send 0 0|send 0 0|send 0 0|send 0 0|send 0 0|send 0 0|go 0"

func busy(turns int) string {
	text := strings.Repeat("turns 80\n", turns/80)
	if turns%80 > 0 {
		text += fmt.Sprintf("turns %d\n", turns%80)
	}
	return text
}

// If so much was sent that nothing can happen any more, all stays as it is: there is a run to tell of.
func TestP101AsMuchAsCanBeSent(t *testing.T) {
	code := ofBars(busyText)
	mail := strings.Repeat(" <r1", 12)
	for turns, want := range map[int]string{
		3197: "8992 0 8980\n1 going 7 r1 - - -",
		3198: "8995 0 8983\n1 going 10 r1 - - -",
		3199: "8998 0 8986\n1 going 13 r1 - - -",
		3200: "9000 0 8988\n1 going 0 r1 - - -",
		3201: "9000 0 8988\n1 going 0 r1 - - -",
		3280: "9000 0 8988\n1 going 0 r1 - - -",
		3439: "9000 0 8988\n1 going 0 r1 - - -",
	} {
		if told := checkLines(t, code, busy(turns)+"count\n"); told != want+mail+"\n" {
			t.Errorf("%d turns tell %q, not %q", turns, told, want)
		}
	}
	end := impl.LinesRun(code, busy(3200))
	for _, line := range []string{"turn", "tick", "turns 0", "turns 80", "give 1 n1", "give 2 n1", "kill 1 n1", "kill 2 n1"} {
		if told := checkLines(t, code, busy(3200)+line+"\n"); told != end {
			t.Errorf("%q tells %q, not %q", line, told, end)
		}
	}
}

func TestP109OfTurnsThatCanNotAllBeHad(t *testing.T) {
	code := ofBars(busyText)
	for turns := 3196; turns <= 3201; turns++ {
		together := checkLines(t, code, busy(turns)+"turns 3\ncount\n")
		if apart := impl.LinesRun(code, busy(turns)+"turn\nturn\nturn\ncount\n"); apart != together {
			t.Errorf("behind %d turns: three turns tell %q, one by one %q", turns, together, apart)
		}
	}
}

// Whatever texts there are, something is told of them, and the same each time.
func TestP101AnyTexts(t *testing.T) {
	d := &dice{state: 1011}
	codes := safeCodes(t)
	for i := range 3000 {
		code, text := textByHand(pick(d, codes).code), d.fewLines(400, false)
		mar := func(s string) string {
			if s == "" {
				return s
			}
			at := d.below(len(s))
			return s[:at] + string([]byte{byte(d.below(256))}) + s[at+d.below(2):]
		}
		if i%2 == 0 {
			text = mar(text)
		}
		if i%3 == 0 {
			code = mar(code)
		}
		told := checkLines(t, code, text)
		if again := impl.LinesRun(code, text); again != told || told == "" {
			t.Fatalf("%q by %q tells %q, and then %q", text, code, told, again)
		}
	}
}

// Many at once have the same answer, as nothing is kept.
func TestP101ManyAtOnce(t *testing.T) {
	d := &dice{state: 1012}
	for _, steps := range playCodes(t, d, 24) {
		code, text := textByHand(steps), d.fewLines(400, false)
		want := checkLines(t, code, text)
		answers := make([]string, 8)
		var all sync.WaitGroup
		for i := range answers {
			all.Go(func() { answers[i] = impl.LinesRun(code, text) })
		}
		all.Wait()
		for _, told := range answers {
			if told != want {
				t.Fatalf("%q by %q tells %q, not %q", text, code, told, want)
			}
		}
	}
}
