package tests

import (
	"fmt"
	"math"
	"slices"
	"strings"
	"sync"
	"testing"

	"loop.example/errandry/impl"
)

func ev(kind, a int, v impl.Val) impl.Event { return impl.Event{Kind: kind, A: a, V: v} }

func turnEvent() impl.Event { return impl.Event{Kind: impl.EvTurn} }

func tickEvent() impl.Event { return impl.Event{Kind: impl.EvTick} }

// wrongKinds are kinds that no event has.
func wrongKinds() []int {
	return []int{0, -1, -2, -3, -4, 5, 6, 8, math.MinInt, math.MaxInt, 1 << 32, 1<<32 + 1, 1<<32 + 3, 256 + 2, 65536 + 4}
}

// eventByHand lets an event happen, whatever the world is, as the document says, worked out apart from the program.
func eventByHand(g *impl.World, e impl.Event) {
	switch {
	case e.Kind == 1:
		turnByHand(g)
	case e.Kind == 2:
		tickByHand(g)
	case e.Kind == 3 && okValByHand(e.V):
		handOver(g, e.A, e.V)
	case e.Kind == 4 && okValByHand(e.V) && within(e.A, 1, len(g.Runs)):
		fallByHand(g, e.A, e.V)
	}
}

// byItsKind is the answer of the function that the kind of an event names; the world as it is, if none is named.
func byItsKind(w impl.World, e impl.Event) impl.World {
	is := okValByHand(e.V)
	switch {
	case e.Kind == impl.EvTurn:
		return impl.TurnDo(w)
	case e.Kind == impl.EvTick:
		return impl.TurnTick(w)
	case e.Kind == impl.EvGive && is:
		return impl.WorldGive(w, e.A, e.V)
	case e.Kind == impl.EvKill && is:
		return impl.FallEnd(w, e.A, e.V)
	}
	return w
}

// checkEvent holds PlayDo to what is worked out by hand, to what the kind of the event names, and to what is promised of each event; it is what PlayDo answered.
func checkEvent(t *testing.T, w impl.World, e impl.Event) impl.World {
	t.Helper()
	x := impl.PlayDo(w, e)
	checkDone(t, fmt.Sprintf("PlayDo with %+v,", e), w, x, func(g *impl.World) { eventByHand(g, e) })
	if isNoWorld(x) {
		return x
	}
	if want := byItsKind(w, e); !sameWorld(x, want) {
		t.Fatalf("PlayDo with %+v, of %+v, is %+v, but by its kind %+v", e, w, x, want)
	}
	if len(x.Runs) < len(w.Runs) {
		t.Fatalf("PlayDo with %+v, of %+v: runs are fewer: %+v", e, w, x)
	}
	for i, was := range w.Runs {
		if was.State == impl.RunEnded && !sameRun(x.Runs[i], was) {
			t.Fatalf("PlayDo with %+v: %+v ended, and is %+v", e, was, x.Runs[i])
		}
	}
	return x
}

// checkNothingChanges asks that an event leaves a world as it is.
func checkNothingChanges(t *testing.T, w impl.World, e impl.Event) {
	t.Helper()
	if x := checkEvent(t, w, e); !sameWorld(x, w) {
		t.Errorf("PlayDo with %+v, of %+v, is %+v", e, w, x)
	}
}

// event is what dice let happen: mostly a turn, then a value, time, seldom an end, and now and then what cannot be.
func (d *dice) event() impl.Event {
	e := impl.Event{A: d.below(8), V: d.val()}
	switch n := d.below(50); {
	case n < 26:
		e.Kind = impl.EvTurn
	case n < 33:
		e.Kind = impl.EvTick
	case n < 45:
		e.Kind = impl.EvGive
	case n < 46:
		e.Kind = impl.EvKill
	case n < 48:
		e.Kind = pick(d, wrongKinds())
	default:
		e.Kind, e.V = impl.EvGive+d.below(2), pick(d, wrongVals())
	}
	return e
}

// show is a world behind some events of a play by these steps.
type show struct {
	code   []impl.Op
	events []impl.Event
	w      impl.World
}

func (s show) String() string {
	return fmt.Sprintf("behind %+v by %q: %+v", s.events, textByHand(s.code), s.w)
}

// plays calls a function of the world behind each event of plays by many kinds of steps, and ahead of the first one.
func plays(t *testing.T, state uint64, codes int, look func(s show)) {
	t.Helper()
	d := &dice{state: state}
	for _, code := range playCodes(t, d, codes) {
		w := firstWorld(t, code)
		events := []impl.Event{}
		look(show{code, events, w})
		for range 80 {
			events = append(events, d.event())
			w = impl.PlayDo(w, events[len(events)-1])
			look(show{code, slices.Clone(events), w})
		}
	}
}

// fewPlays calls it behind each so many events alone.
func fewPlays(t *testing.T, state uint64, codes, each int, look func(s show)) {
	t.Helper()
	seen := 0
	plays(t, state, codes, func(s show) {
		if seen++; seen%each == 0 {
			look(s)
		}
	})
}

// kindsOf is how many events are of a kind.
func kindsOf(events []impl.Event, kind int) int {
	many := 0
	for _, e := range events {
		if e.Kind == kind {
			many++
		}
	}
	return many
}

// mustHave asks that a test has seen enough of a thing.
func mustHave(t *testing.T, what string, seen, least int) {
	t.Helper()
	if seen < least {
		t.Errorf("just %d %s were seen", seen, what)
	}
}

// eventsOf are events by a text: t is a turn, i a tick, g1:n8 gives run 1 the value n8, k1:n8 ends it with that.
func eventsOf(t *testing.T, text string) []impl.Event {
	t.Helper()
	var events []impl.Event
	for _, word := range strings.Fields(text) {
		e := impl.Event{Kind: 1 + strings.IndexByte("tigk", word[0])}
		if e.Kind > 2 {
			i := slices.IndexFunc(handRows, func(r row) bool { return r.text == word[3:] })
			if i < 0 {
				t.Fatalf("no value: %q", word)
			}
			e.A, e.V = int(word[1]-'0'), handRows[i].v
		}
		if e.Kind == 0 {
			t.Fatalf("no event: %q", word)
		}
		events = append(events, e)
	}
	return events
}

// worldText tells a world shortly: each run, who is to go on, the time, and what was sent, taken, and lost.
func worldText(w impl.World) string {
	var runs []string
	for _, r := range w.Runs {
		text := "ended " + handVals[r.Why]
		if r.State != impl.RunEnded {
			text = fmt.Sprintf("%s %d", []string{"", "going", "waiting"}[r.State], r.At)
		}
		for _, v := range r.Mail {
			text += " <" + handVals[v]
		}
		runs = append(runs, text)
	}
	return fmt.Sprintf("%s | %v | %d | %d %d %d", strings.Join(runs, "; "), w.Queue, w.Now, w.Sent, w.Taken, w.Lost)
}

func TestEventConstants(t *testing.T) {
	got := []int{impl.EvTurn, impl.EvTick, impl.EvGive, impl.EvKill, impl.PlayMax}
	if !slices.Equal(got, []int{1, 2, 3, 4, 80}) {
		t.Errorf("%v", got)
	}
}

func TestP83AndP84EachEventOfPlays(t *testing.T) {
	var done [5]int
	d := &dice{state: 83}
	plays(t, 8384, 40, func(s show) {
		a, v := 1+d.below(len(s.w.Runs)), d.val()
		e := d.event()
		checkEvent(t, s.w, e)
		if within(e.Kind, 1, 4) {
			done[e.Kind]++
		}
		checkEvent(t, s.w, ev(1+d.below(4), a, v))
		checkEvent(t, s.w, ev(impl.EvKill, a, v))
	})
	for kind := 1; kind <= 4; kind++ {
		mustHave(t, fmt.Sprintf("events of kind %d", kind), done[kind], 50)
	}
}

func TestP83AndP84EachEventOfAnyWorld(t *testing.T) {
	d := &dice{state: 84}
	for _, w := range throwWorlds(t, 8384, 500) {
		for kind := 0; kind <= 5; kind++ {
			checkEvent(t, w, ev(kind, d.below(8), d.val()))
			checkEvent(t, w, ev(kind, 1+d.below(len(w.Runs)), d.val()))
		}
		checkEvent(t, checkEvent(t, w, d.event()), d.event())
	}
}

// All plays of at most three events of a few.
func TestP83ToP85AllShortPlays(t *testing.T) {
	few := eventsOf(t, "t i g1:n1 g2:a1 k1:n1 k2:a0 k2:r1")
	for _, text := range playTexts {
		code := byBars(t, text)
		var further func(w impl.World, events []impl.Event)
		further = func(w impl.World, events []impl.Event) {
			if x, ok := impl.PlayRun(code, events); !ok || !sameWorld(x, w) {
				t.Fatalf("PlayRun of %q with %+v is %+v, %v, not %+v", text, events, x, ok, w)
			}
			for _, e := range few {
				if len(events) < 3 {
					further(checkEvent(t, w, e), append(slices.Clone(events), e))
				}
			}
		}
		further(firstWorld(t, code), nil)
	}
}

// Plays by hand, with what is asked of each written out.
func TestP84AndP85PlaysWrittenOut(t *testing.T) {
	taker := "take 1 1|add 1 1|end 1"
	timer := "after 1 1 2 n2|end 1|end 0"
	linked := "begin 1 4|link 1|take 2 0|end 2|take 3 0|end 3"
	trapper := "trap n1|begin 1 5|link 1|take 2 3|end 2|take 3 0|end 3"
	watcher := "begin 1 4|watch 1|take 2 3|end 2|take 3 0|end 3"
	for _, c := range []struct{ code, events, want string }{
		{taker, "", "going 0 | [1] | 0 | 0 0 0"},
		{taker, "t", "waiting 0 | [] | 0 | 0 0 0"},
		{taker, "t t t", "waiting 0 | [] | 0 | 0 0 0"},
		{taker, "t g1:n8", "going 0 <n8 | [1] | 0 | 1 0 0"},
		{taker, "t g1:n8 t", "ended n16 | [] | 0 | 1 1 0"},
		{taker, "g1:n8 t", "ended n16 | [] | 0 | 1 1 0"},
		{taker, "g1:n90 t", "ended a1 | [] | 0 | 1 1 0"},
		{taker, "g1:n-50 g1:n-49 t", "ended a1 | [] | 0 | 2 1 1"},
		{taker, "g1:n-49 g1:n-50 t", "ended n-98 | [] | 0 | 2 1 1"},
		{taker, "t g1:a1 g1:r1 g1:none", "waiting 0 <a1 <r1 <none | [] | 0 | 3 0 0"},
		{taker, "t g1:a1 g1:n2 t", "ended n4 | [] | 0 | 2 1 1"},
		{taker, "g1:a1 k1:a0", "ended a0 | [] | 0 | 1 0 1"},
		{taker, "g2:n8 g6:none", "going 0 | [1] | 0 | 2 0 2"},
		{taker, "g0:n8 g7:n8 g9:n8", "going 0 | [1] | 0 | 3 0 3"},
		{taker, "k1:n3 g1:n8", "ended n3 | [] | 0 | 1 0 1"},
		{taker, "k1:n3 k1:n4 t i", "ended n3 | [] | 1 | 0 0 0"},
		{taker, "k0:n3 k2:n3 k7:n3", "going 0 | [1] | 0 | 0 0 0"},
		{taker, "k1:none", "ended none | [] | 0 | 0 0 0"},
		{taker, "i i i", "going 0 | [1] | 3 | 0 0 0"},
		{taker, "i t k1:r6 i", "ended r6 | [] | 2 | 0 0 0"},
		{timer, "t i", "waiting 0 | [] | 1 | 0 0 0"},
		{timer, "t i i", "going 0 | [1] | 2 | 0 0 0"},
		{timer, "t i i t", "ended r1 | [] | 2 | 0 0 0"},
		{timer, "t i g1:n5 i t", "ended n5 | [] | 2 | 1 1 0"},
		{timer, "t i i g1:n5 t", "ended n5 | [] | 2 | 1 1 0"},
		{timer, "t i i g1:a5 t", "ended r1 | [] | 2 | 1 0 1"},
		{timer, "i i t i", "waiting 0 | [] | 3 | 0 0 0"},
		{timer, "i i t i i t", "ended r1 | [] | 4 | 0 0 0"},
		{linked, "t", "waiting 2; going 4 | [2] | 0 | 0 0 0"},
		{linked, "t t", "waiting 2; waiting 4 | [] | 0 | 0 0 0"},
		{linked, "t t k2:n7", "ended n7; ended n7 | [] | 0 | 0 0 0"},
		{linked, "t t k1:n7", "ended n7; ended n7 | [] | 0 | 0 0 0"},
		{linked, "t t k2:a0", "waiting 2; ended a0 | [] | 0 | 0 0 0"},
		{linked, "t t k2:a0 k1:a1", "ended a1; ended a0 | [] | 0 | 0 0 0"},
		{linked, "t t g2:n7", "waiting 2; going 4 <n7 | [2] | 0 | 1 0 0"},
		{linked, "t t g2:n7 t", "ended n7; ended n7 | [] | 0 | 1 1 0"},
		{linked, "t g1:a3", "going 2 <a3; going 4 | [2 1] | 0 | 1 0 0"},
		{linked, "t g1:a0 t t", "ended a0; waiting 4 | [] | 0 | 1 1 0"},
		{trapper, "t", "going 3; going 5 | [2 1] | 0 | 0 0 0"},
		{trapper, "t t t", "waiting 3; waiting 5 | [] | 0 | 0 0 0"},
		{trapper, "t k2:n7", "going 3 <r2; ended n7 | [1] | 0 | 1 0 0"},
		{trapper, "t t t k2:n7", "going 3 <r2; ended n7 | [1] | 0 | 1 0 0"},
		{trapper, "t t t k2:n7 t", "ended r2; ended n7 | [] | 0 | 1 1 0"},
		{trapper, "t t t k2:a0", "waiting 3; ended a0 | [] | 0 | 0 0 0"},
		{trapper, "t t t k1:n7", "ended n7; ended n7 | [] | 0 | 0 0 0"},
		{watcher, "t t k2:a0", "going 2 <r2; ended a0 | [1] | 0 | 1 0 0"},
		{watcher, "t t k2:n1 t", "ended r2; ended n1 | [] | 0 | 1 1 0"},
		{watcher, "t t k1:n1", "ended n1; waiting 4 | [] | 0 | 0 0 0"},
	} {
		w, ok := impl.PlayRun(byBars(t, c.code), eventsOf(t, c.events))
		if text := worldText(w); !ok || text != c.want {
			t.Errorf("%s, %s: %q, %v, not %q", c.code, c.events, text, ok, c.want)
		}
	}
}

func TestP84KindsThatAreNone(t *testing.T) {
	worlds := []impl.World{crowd(t), hall(t, "gant", "1-2 3>1"), hall(t, "e", ""), dueWorld(t, 5, 6, -2, 0)}
	for _, w := range worlds {
		for _, kind := range wrongKinds() {
			for _, v := range slices.Concat(edgeVals(), wrongVals()) {
				for a := -1; a <= 7; a++ {
					checkNothingChanges(t, w, ev(kind, a, v))
				}
			}
		}
	}
}

// Neither is given, nor ends anybody, what is no value, be there such a run or not.
func TestP84ValuesThatAreNone(t *testing.T) {
	beyond := append(wrongVals(), impl.Val{N: math.MaxInt}, impl.Val{N: math.MinInt}, impl.Val{N: -99}, impl.Val{N: 6})
	for _, w := range []impl.World{crowd(t), hall(t, "aaargn", "1-2 2>3 4-5"), hall(t, "a", "")} {
		for _, v := range beyond {
			for _, a := range append(numbersAround(1, len(w.Runs)), span(-1, 7)...) {
				checkNothingChanges(t, w, ev(impl.EvGive, a, v))
				checkNothingChanges(t, w, ev(impl.EvKill, a, v))
			}
		}
	}
}

// What a turn and a tick have not does not matter to them.
func TestP84TurnsAndTicksAskForNoRunAndNoValue(t *testing.T) {
	for _, w := range []impl.World{crowd(t), dueWorld(t, 5, 6, -2, 6, 0)} {
		turn, tick := impl.TurnDo(w), impl.TurnTick(w)
		for _, v := range slices.Concat(edgeVals(), wrongVals()) {
			for _, a := range numbersAround(1, 6) {
				if x, y := checkEvent(t, w, ev(1, a, v)), checkEvent(t, w, ev(2, a, v)); !sameWorld(x, turn) || !sameWorld(y, tick) {
					t.Fatalf("%d, %v: %+v, %+v", a, v, x, y)
				}
			}
		}
	}
}

// Nothing is a value: it is given, and one ends with it, and takes others along.
func TestP84NothingIsGivenAndEnds(t *testing.T) {
	w := hall(t, "garntg", "1-2 4>1")
	for i, goesOn := range []bool{true, true, false, false, false, true} {
		x := checkEvent(t, w, ev(impl.EvGive, i+1, impl.Val{}))
		r := x.Runs[i]
		if !slices.Equal(r.Mail, []impl.Val{{}}) || (r.State == impl.RunGoing) != goesOn || x.Sent != w.Sent+1 || x.Lost != w.Lost {
			t.Errorf("given to %d: %+v", i+1, x)
		}
	}
	x := checkEvent(t, w, ev(impl.EvKill, 2, impl.Val{}))
	if !slices.Equal(endedMore(w, x), []int{1, 2}) || x.Runs[0].Why != (impl.Val{}) || x.Runs[1].Why != (impl.Val{}) {
		t.Errorf("ended with nothing: %+v", x)
	}
}

// One of each sort is given a value of each kind, with as much that waits as may be, and with more.
func TestP84GiveToEachSortOfRuns(t *testing.T) {
	for letter, kinds := range map[string][]int{"g": nil, "a": {0, 1, 2, 3}, "r": {3}, "n": {1}, "t": {3}} {
		for _, v := range edgeVals() {
			w := hall(t, "gg"+letter, "1-3 3>1")
			want := keptWorld(w)
			want.Runs[2].Mail, want.Sent = []impl.Val{v}, w.Sent+1
			if slices.Contains(kinds, v.Kind) {
				want.Runs[2].State, want.Queue = impl.RunGoing, []int{1, 2, 3}
			}
			if x := checkEvent(t, w, ev(impl.EvGive, 3, v)); !sameWorld(x, want) {
				t.Errorf("%s, given %v: %+v, not %+v", letter, v, x, want)
			}
		}
	}
	for many := 0; many <= 12; many++ {
		w := mailed(hall(t, "gn", ""), 2, slices.Repeat([]impl.Val{name(3)}, many)...)
		x := checkEvent(t, w, ev(impl.EvGive, 2, name(4)))
		if kept := len(x.Runs[1].Mail); kept != min(many+1, 12) || x.Sent != w.Sent+1 || x.Lost != w.Lost+many/12 {
			t.Errorf("with %d that wait: %+v", many, x)
		}
	}
}

// nobodyIn are numbers of runs that there are not in a world, or that ended.
func nobodyIn(w impl.World) []int {
	var nobody []int
	for _, a := range append(numbersAround(1, len(w.Runs)), span(-1, 8)...) {
		if !aliveByHand(w, a) {
			nobody = append(nobody, a)
		}
	}
	return nobody
}

func TestP84AndP96GiveToOneThatEndedOrThatThereIsNot(t *testing.T) {
	for many := 1; many <= 6; many++ {
		w := hall(t, "egatne"[:many], "")
		for _, a := range nobodyIn(w) {
			for _, v := range edgeVals() {
				want := keptWorld(w)
				want.Sent, want.Lost = w.Sent+1, w.Lost+1
				if x := checkEvent(t, w, ev(impl.EvGive, a, v)); !sameWorld(x, want) {
					t.Errorf("of %d runs %d is given %v: %+v", many, a, v, x)
				}
			}
		}
	}
}

func TestP84EndOfOneThatEndedOrThatThereIsNot(t *testing.T) {
	for many := 1; many <= 6; many++ {
		w := hall(t, "egatne"[:many], "")
		for _, a := range nobodyIn(w) {
			for _, v := range edgeVals() {
				checkNothingChanges(t, w, ev(impl.EvKill, a, v))
			}
		}
	}
}

// anyEvents are events of each kind, such as cannot be among them.
func anyEvents() []impl.Event {
	events := []impl.Event{turnEvent(), tickEvent(), ev(3, 1, num(1)), ev(3, 0, num(1)), ev(3, 1, num(100)), ev(4, 1, num(1)), ev(4, 1, name(0)), ev(4, 9, num(1)), ev(4, 1, name(-1))}
	for _, kind := range wrongKinds() {
		events = append(events, ev(kind, 1, num(1)))
	}
	return events
}

func TestP83AndP84OfAWorldThatIsNotOk(t *testing.T) {
	for i, w := range spoiledDesks(t) {
		for _, e := range anyEvents() {
			if x := impl.PlayDo(w, e); !isNoWorld(x) {
				t.Errorf("spoiled %d, %+v: %+v", i, e, x)
			}
		}
		for _, turns := range []int{0, 1, 80} {
			if x := impl.PlayTurns(w, turns); !isNoWorld(x) {
				t.Errorf("spoiled %d, %d turns: %+v", i, turns, x)
			}
		}
	}
	d := &dice{state: 831}
	for _, base := range throwWorlds(t, 8310, 200) {
		for range 4 {
			w := keptWorld(base)
			d.changeWorld(&w)
			checkEvent(t, w, d.event())
			if x := impl.PlayTurns(w, d.below(5)); isNoWorld(x) == okWorldByHand(w) {
				t.Fatalf("turns of %+v are %+v", w, x)
			}
		}
	}
}

func TestP83AndP84WithMuchSent(t *testing.T) {
	for _, sent := range []int{0, 8998, 8999, 9000, 9001, 9899, 9900, 9989, 9990, 9999} {
		for _, letters := range []string{"ggt", "nae"} {
			w := hall(t, letters, "1-2 2>1")
			w.Sent, w.Taken, w.Lost = sent, sent/3, sent-sent/3
			for _, e := range anyEvents() {
				if x := checkEvent(t, w, e); isNoWorld(x) != (sent >= 9000) {
					t.Errorf("%d sent, %+v: %+v", sent, e, x)
				}
			}
			if x := checkEvent(t, w, ev(impl.EvGive, 2, num(1))); sent == 8999 && (x.Sent != 9000 || !isNoWorld(impl.PlayDo(x, turnEvent()))) {
				t.Errorf("the last that is given: %+v", x)
			}
		}
	}
}

// An end that is told to many is had to its end, though more comes to be sent in it than a further event may begin with.
func TestP84AnEndThatIsToldToMany(t *testing.T) {
	w := hall(t, "gggggg", "1-2 2! 3>1 4>1 5>1 6>1")
	w.Sent, w.Taken, w.Lost = 8999, 8999, 0
	x := checkEvent(t, w, ev(impl.EvKill, 1, num(1)))
	if x.Sent != 9004 || impl.WorldWaits(x) != 5 || !isNoWorld(checkEvent(t, x, tickEvent())) {
		t.Errorf("%+v", x)
	}
}

// foldedByHand is a world behind these events, one behind the other, worked out apart from the program.
func foldedByHand(w impl.World, events []impl.Event) impl.World {
	for _, e := range events {
		w = doneByHand(w, func(g *impl.World) { eventByHand(g, e) })
	}
	return w
}

func TestP85PlayRunIsPlayDoOfEach(t *testing.T) {
	fewPlays(t, 85, 40, 4, func(s show) {
		x, ok := impl.PlayRun(s.code, s.events)
		if !ok || !sameWorld(x, s.w) {
			t.Fatalf("PlayRun is %+v, %v, %v", x, ok, s)
		}
	})
	d := &dice{state: 851}
	for _, code := range playCodes(t, d, 40) {
		var events []impl.Event
		for range d.below(81) {
			events = append(events, d.event())
		}
		first := firstWorld(t, code)
		x, ok := impl.PlayRun(code, events)
		if want := foldedByHand(first, events); !ok || !sameWorld(x, want) {
			t.Fatalf("PlayRun of %q with %+v is %+v, %v, not %+v", textByHand(code), events, x, ok, want)
		}
	}
}

func TestP85PlayRunOfSomeAndThenPlayDoOfTheOthers(t *testing.T) {
	d := &dice{state: 852}
	for _, code := range playCodes(t, d, 15) {
		var events []impl.Event
		for range 80 {
			events = append(events, d.event())
		}
		all, _ := impl.PlayRun(code, events)
		for some := 0; some <= 80; some += 1 + d.below(8) {
			x, ok := impl.PlayRun(code, events[:some])
			for _, e := range events[some:] {
				x = impl.PlayDo(x, e)
			}
			if !ok || !sameWorld(x, all) || isNoWorld(all) {
				t.Fatalf("%d of %+v by %q: %+v, %v, not %+v", some, events, textByHand(code), x, ok, all)
			}
		}
	}
}

// So many events of one kind: more than may be are none, whatever they are.
func TestP85HowManyEvents(t *testing.T) {
	code := byBars(t, "go 0")
	first := firstWorld(t, code)
	for _, many := range []int{0, 1, 2, 3, 40, 79, 80, 81, 82, 160, 161, 256, 336, 1000} {
		for _, e := range append(anyEvents(), ev(3, 1, num(7))) {
			events := slices.Repeat([]impl.Event{e}, many)
			x, ok := impl.PlayRun(code, events)
			if ok != (many <= 80) || !ok && !isNoWorld(x) || ok && !sameWorld(x, foldedByHand(first, events)) {
				t.Errorf("%d of %+v: %+v, %v", many, e, x, ok)
			}
		}
		x, _ := impl.PlayRun(code, slices.Repeat([]impl.Event{turnEvent()}, many))
		if many <= 80 && (len(x.Runs) != 1 || x.Runs[0].Turns != many) {
			t.Errorf("%d turns: %+v", many, x)
		}
	}
}

func TestP85NoEvents(t *testing.T) {
	for _, text := range playTexts {
		code := byBars(t, text)
		want := firstWorld(t, code)
		for _, events := range [][]impl.Event{nil, {}, make([]impl.Event, 0, 9)} {
			if x, ok := impl.PlayRun(code, events); !ok || !sameWorld(x, want) || isNoWorld(x) {
				t.Errorf("%q: %+v, %v", text, x, ok)
			}
		}
	}
}

// checkNoPlay asks that nothing can be played by steps.
func checkNoPlay(t *testing.T, code []impl.Op) {
	t.Helper()
	for _, many := range []int{0, 1, 5, 80, 81} {
		if x, ok := impl.PlayRun(code, slices.Repeat([]impl.Event{turnEvent()}, many)); ok || !isNoWorld(x) {
			t.Errorf("%d turns by %+v: %+v, %v", many, code, x, ok)
		}
	}
}

func TestP98OfStepsThatAreNotSafe(t *testing.T) {
	for _, text := range []string{"end 1", "set 1 n1", "send 0 1|end 0", "if 0 2 r1|set 2 a1|end 2", "take 1 0", "begin 1 1|end 1"} {
		checkNoPlay(t, byBars(t, text))
	}
	for _, code := range [][]impl.Op{nil, {}, filler(17), {{}}, {{Kind: 15}}, {{Kind: impl.OpGo, To: 1}}, {{Kind: impl.OpEnd, R: 4}}, {{Kind: impl.OpEnd, V: num(1)}}} {
		checkNoPlay(t, code)
	}
	none := 0
	for i, c := range manyCodes() {
		if i%9 == 0 && !safeByHand(c.code) {
			none++
			checkNoPlay(t, c.code)
		}
	}
	mustHave(t, "codes that are not safe", none, 200)
}

// checkSafe holds a world to what is promised of each: where runs are, who is to go on, and who waits.
func checkSafe(t *testing.T, s show) {
	t.Helper()
	var going []int
	for _, r := range s.w.Runs {
		if !within(r.At, 0, len(s.code)-1) {
			t.Fatalf("run %d is nowhere, %v", r.Id, s)
		}
		o := s.code[r.At]
		for _, slot := range usesByHand(o) {
			if r.State != impl.RunEnded && r.Full>>slot%2 == 0 {
				t.Fatalf("run %d reads slot %d, which is empty, %v", r.Id, slot, s)
			}
		}
		if r.State == impl.RunGoing {
			going = append(going, r.Id)
		}
		if r.State == impl.RunWaiting && !waitsRightlyByHand(o, r, s.w.Now) {
			t.Fatalf("run %d waits for what is there, %v", r.Id, s)
		}
	}
	if queue := slices.Sorted(slices.Values(s.w.Queue)); !slices.Equal(queue, going) {
		t.Fatalf("to go on are %v, %v", s.w.Queue, s)
	}
}

func TestP86EachRunIsWhereItMayBe(t *testing.T) {
	var sorts [4]int
	mail := 0
	plays(t, 86, 60, func(s show) {
		checkSafe(t, s)
		for _, r := range s.w.Runs {
			sorts[r.State]++
			if r.State == impl.RunWaiting && len(r.Mail) > 0 {
				mail++
			}
		}
	})
	for state := 1; state <= 3; state++ {
		mustHave(t, fmt.Sprintf("runs of state %d", state), sorts[state], 500)
	}
	mustHave(t, "runs that wait with mail", mail, 100)
}

func TestP87NothingIsLost(t *testing.T) {
	taken, lost, waits := 0, 0, 0
	plays(t, 87, 60, func(s show) {
		w := s.w
		many := impl.WorldWaits(w)
		if w.Sent != w.Taken+w.Lost+many || many != waitsByHand(w) || w.Taken+w.Lost > w.Sent || w.Taken < 0 || w.Lost < 0 {
			t.Fatalf("%d wait, %v", many, s)
		}
		taken, lost, waits = max(taken, w.Taken), max(lost, w.Lost), max(waits, many)
	})
	mustHave(t, "values that were taken in one play", taken, 10)
	mustHave(t, "values that were lost in one play", lost, 10)
	mustHave(t, "values that wait", waits, 13)
}

func TestP88LinksAreOfBothAndOfNobodyThatEnded(t *testing.T) {
	links, ends := 0, 0
	plays(t, 88, 60, func(s show) {
		for _, r := range s.w.Runs {
			if r.State == impl.RunEnded {
				ends++
				if len(r.Links)+len(r.Watched)+len(r.Mail) > 0 {
					t.Fatalf("run %d ended, %v", r.Id, s)
				}
			}
			for _, id := range r.Links {
				links++
				if other := s.w.Runs[id-1]; other.State == impl.RunEnded || !slices.Contains(other.Links, r.Id) {
					t.Fatalf("run %d is linked with %d, %v", r.Id, id, s)
				}
			}
			for _, id := range r.Watched {
				if s.w.Runs[id-1].State == impl.RunEnded {
					t.Fatalf("run %d is watched by %d, which ended, %v", r.Id, id, s)
				}
			}
		}
	})
	mustHave(t, "links", links, 500)
	mustHave(t, "runs that ended", ends, 500)
}

// checkKill ends a run that is alive, with one value that is normal and with one that is not.
func checkKill(t *testing.T, s show, id int, why impl.Val) {
	t.Helper()
	x := checkEvent(t, s.w, ev(impl.EvKill, id, why))
	with := impl.FallWith(s.w, id)
	if more := endedMore(s.w, x); !slices.Equal(more, with) || !slices.Equal(more, withByHand(s.w, id)) {
		t.Fatalf("%d ends with %v: %v ended, not %v, %v", id, why, more, with, s)
	}
	for _, n := range with {
		if x.Runs[n-1].Why != why {
			t.Fatalf("%d ended with %v, %v", n, x.Runs[n-1].Why, s)
		}
	}
	y := checkEvent(t, s.w, ev(impl.EvKill, id, name(impl.FallNormal)))
	if more := endedMore(s.w, y); !slices.Equal(more, []int{id}) || y.Runs[id-1].Why != name(0) {
		t.Fatalf("%d ends normally: %v ended, %v", id, more, s)
	}
}

func TestP89ThoseThatAreLinkedFallTogether(t *testing.T) {
	d := &dice{state: 89}
	alone, together := 0, 0
	fewPlays(t, 8989, 60, 8, func(s show) {
		for _, id := range impl.WorldAlive(s.w) {
			checkKill(t, s, id, pick(d, ends()))
			if len(impl.FallWith(s.w, id)) > 1 {
				together++
			} else {
				alone++
			}
		}
	})
	mustHave(t, "that fell alone", alone, 100)
	mustHave(t, "that fell with others", together, 100)
}

func TestP90ValuesThatAreGivenWaitInOrder(t *testing.T) {
	d := &dice{state: 90}
	beyond := 0
	fewPlays(t, 9090, 40, 16, func(s show) {
		for _, id := range impl.WorldAlive(s.w) {
			was := s.w.Runs[id-1].Mail
			want, x := slices.Clone(was), s.w
			for range 1 + d.below(14) {
				v := d.val()
				if len(want) < impl.MailMax {
					want = append(want, v)
				} else {
					beyond++
				}
				x = checkEvent(t, x, ev(impl.EvGive, id, v))
				if !slices.Equal(x.Runs[id-1].Mail, want) {
					t.Fatalf("for %d wait %v, not %v, %v", id, x.Runs[id-1].Mail, want, s)
				}
			}
		}
	})
	mustHave(t, "values with no room", beyond, 100)
}

func TestP91NobodyIsToGoOnAndIdle(t *testing.T) {
	nobody, idle := 0, 0
	plays(t, 91, 60, func(s show) {
		if len(s.w.Queue) == 0 {
			nobody++
			checkNothingChanges(t, s.w, turnEvent())
			if x := impl.PlayTurns(s.w, 7); !sameWorld(x, s.w) {
				t.Fatalf("seven turns: %+v, %v", x, s)
			}
		}
		if impl.WorldIdle(s.w) {
			idle++
			want, x := keptWorld(s.w), s.w
			for range 3 {
				want.Now++
				if x = checkEvent(t, x, tickEvent()); !sameWorld(x, want) {
					t.Fatalf("by time %+v, %v", x, s)
				}
			}
		}
	})
	mustHave(t, "worlds in which nobody is to go on", nobody, 300)
	mustHave(t, "worlds that are idle", idle, 200)
}

func turnsHad(w impl.World) int {
	had := 0
	for _, r := range w.Runs {
		had += r.Turns
	}
	return had
}

// Each turn is had by one, if somebody is to go on, and by nobody else.
func TestP92HowManyTurnsWereHad(t *testing.T) {
	want, whole, fewer := 0, 0, 0
	queue := 0
	plays(t, 92, 60, func(s show) {
		if len(s.events) == 0 {
			want = 0
		} else if s.events[len(s.events)-1].Kind == impl.EvTurn && queue > 0 {
			want++
		}
		queue = len(s.w.Queue)
		had, asked := turnsHad(s.w), kindsOf(s.events, impl.EvTurn)
		if had != want || had > asked {
			t.Fatalf("%d turns were had, not %d, of %d, %v", had, want, asked, s)
		}
		if had == asked {
			whole++
		} else {
			fewer++
		}
	})
	mustHave(t, "plays in which somebody was to go on each time", whole, 300)
	mustHave(t, "plays in which nobody was to go on some time", fewer, 300)
}

func TestP92TurnsOfOneThatGoesAndOfOneThatWaits(t *testing.T) {
	for many := 0; many <= 80; many++ {
		turns := slices.Repeat([]impl.Event{turnEvent()}, many)
		for text, most := range map[string]int{"go 0": 80, "begin 1 0|go 0": 80, "take 1 0|go 0": 1, "end 0": 1, "set 1 n1|go 2|go 3|go 4|end 1": 2} {
			w, ok := impl.PlayRun(byBars(t, text), turns)
			if had := turnsHad(w); !ok || had != min(many, most) {
				t.Errorf("%s, %d turns: %d were had", text, many, had)
			}
		}
	}
}

func TestP93NowIsHowManyTicksThereWere(t *testing.T) {
	bides := 0
	plays(t, 93, 60, func(s show) {
		if s.w.Now != kindsOf(s.events, impl.EvTick) {
			t.Fatalf("behind %d ticks, %v", kindsOf(s.events, impl.EvTick), s)
		}
		for _, r := range s.w.Runs {
			if r.State == impl.RunWaiting && s.code[r.At].Kind == impl.OpAfter {
				bides++
				if r.Due <= s.w.Now {
					t.Fatalf("run %d waits for a time that is over, %v", r.Id, s)
				}
			}
		}
	})
	mustHave(t, "runs that wait for a time", bides, 300)
	for many := 0; many <= 80; many++ {
		w, _ := impl.PlayRun(byBars(t, "after 1 0 0 n7|go 0"), slices.Repeat([]impl.Event{tickEvent()}, many))
		if w.Now != many {
			t.Errorf("behind %d ticks it is %d", many, w.Now)
		}
	}
}

func checkNumbers(t *testing.T, w impl.World) {
	t.Helper()
	var alive []int
	for i, r := range w.Runs {
		if r.Id != i+1 {
			t.Fatalf("%+v", w)
		}
		if r.State != impl.RunEnded {
			alive = append(alive, r.Id)
		}
	}
	if !within(len(w.Runs), 1, 6) || !slices.Equal(impl.WorldAlive(w), alive) {
		t.Fatalf("alive are %v, not %v: %+v", impl.WorldAlive(w), alive, w)
	}
}

func TestP94RunsAreNumberedFromOneOn(t *testing.T) {
	var many [7]int
	plays(t, 94, 60, func(s show) {
		checkNumbers(t, s.w)
		many[len(s.w.Runs)]++
	})
	mustHave(t, "worlds of six runs", many[6], 300)
}

// One run begins so many others, each of which waits: five are as many as may be, one more is none.
func TestP94AsManyRunsAsMayBeAndOneMore(t *testing.T) {
	for many := 0; many <= 7; many++ {
		text := strings.Repeat(fmt.Sprintf("begin 3 %d|", many), many) + fmt.Sprintf("take 1 0|go %d", many)
		w, _ := impl.PlayRun(byBars(t, text), slices.Repeat([]impl.Event{turnEvent()}, 20))
		checkNumbers(t, w)
		if len(w.Runs) != min(many+1, 6) || len(w.Queue) != 0 {
			t.Errorf("%d are begun: %+v", many, w)
		}
		want := impl.Val{}
		if within(many, 1, 5) {
			want = run(many + 1)
		}
		if r := w.Runs[0]; r.Slots[3] != want || r.Full != []int{1, 9}[min(many, 1)] {
			t.Errorf("%d are begun, and the first one is %+v", many, r)
		}
		for _, r := range w.Runs[1:] {
			if r.Slots[0] != run(1) || r.At != many || r.Full != 1 {
				t.Errorf("%d are begun: %+v", many, r)
			}
		}
		x := checkEvent(t, w, ev(impl.EvKill, len(w.Runs), num(1)))
		if alive := impl.WorldAlive(x); !slices.Equal(alive, span(1, len(w.Runs)-1)) {
			t.Errorf("of %d runs, without the last one, are alive %v", len(w.Runs), alive)
		}
		checkNumbers(t, x)
	}
}

// playWorld is a world in which runs begin others, are linked, watch, and take, each in its turn.
func playWorld(t *testing.T) impl.World {
	t.Helper()
	return firstWorld(t, byBars(t, "begin 1 4|link 1|begin 2 0|watch 2|take 3 3|go 4"))
}

func TestP95TurnsOneByOne(t *testing.T) {
	w := playWorld(t)
	want := w
	for turns := 0; turns <= 80; turns++ {
		if x := impl.PlayTurns(w, turns); !sameWorld(x, want) || !impl.WorldOk(x) {
			t.Fatalf("%d turns: %+v, not %+v", turns, x, want)
		}
		want = impl.TurnDo(want)
	}
	x := impl.PlayTurns(w, 80)
	if len(x.Runs) != 6 || len(x.Queue) != 0 {
		t.Errorf("80 turns: %+v", x)
	}
	had := turnsHad(x)
	if again := impl.PlayTurns(w, had); !sameWorld(again, x) || sameWorld(impl.PlayTurns(w, had-1), x) {
		t.Errorf("all turns that were had are %d: %+v", had, again)
	}
}

func TestP95SomeTurnsAndThenOthers(t *testing.T) {
	w := firstWorld(t, byBars(t, "begin 1 0|go 1"))
	for some := 0; some <= 40; some++ {
		for others := 0; others <= 40; others += 7 {
			a, b := impl.PlayTurns(impl.PlayTurns(w, some), others), impl.PlayTurns(w, some+others)
			if !sameWorld(a, b) || isNoWorld(a) {
				t.Fatalf("%d and %d turns: %+v, together %+v", some, others, a, b)
			}
		}
	}
}

func TestP95TurnsBehindPlays(t *testing.T) {
	d := &dice{state: 95}
	fewPlays(t, 9595, 60, 20, func(s show) {
		some, others := d.below(41), d.below(41)
		x := s.w
		for range some + others {
			x = doneByHand(x, turnByHand)
		}
		together, apart := impl.PlayTurns(s.w, some+others), impl.PlayTurns(impl.PlayTurns(s.w, some), others)
		if !sameWorld(together, x) || !sameWorld(apart, x) || isNoWorld(x) {
			t.Fatalf("%d and %d turns: %+v, together %+v, not %+v, %v", some, others, apart, together, x, s)
		}
		if y := impl.PlayTurns(s.w, 0); !sameWorld(y, s.w) {
			t.Fatalf("no turns: %+v, %v", y, s)
		}
	})
}

func TestP95AsManyTurnsAsThereMayBe(t *testing.T) {
	w, _ := impl.WorldNew(byBars(t, "go 0"))
	for _, turns := range append(numbersAround(0, 80), 0, 1, 79, 80, 81, -1) {
		x := impl.PlayTurns(w, turns)
		if !within(turns, 0, 80) {
			if !isNoWorld(x) {
				t.Errorf("%d turns: %+v", turns, x)
			}
			continue
		}
		if len(x.Runs) != 1 || x.Runs[0].Turns != turns || !slices.Equal(x.Queue, []int{1}) {
			t.Errorf("%d turns: %+v", turns, x)
		}
	}
}

func TestP95OfAWorldThatIsNotOkOrSentTooMuch(t *testing.T) {
	for _, turns := range []int{0, 1, 80} {
		for _, sent := range []int{8999, 9000, 9001, 9999} {
			w, _ := impl.WorldNew(byBars(t, "go 0"))
			w.Sent, w.Taken = sent, sent
			if x := impl.PlayTurns(w, turns); isNoWorld(x) != (sent >= 9000) {
				t.Errorf("%d sent, %d turns: %+v", sent, turns, x)
			}
			w.Taken--
			if x := impl.PlayTurns(w, turns); !isNoWorld(x) {
				t.Errorf("of a world that is not ok, %d turns: %+v", turns, x)
			}
		}
		if x := impl.PlayTurns(impl.World{}, turns); !isNoWorld(x) {
			t.Errorf("of no world: %+v", x)
		}
	}
}

// By a turn as much comes to be sent as there may be: the turn is had, but none behind it.
func TestP95TurnsThatComeToSendTooMuch(t *testing.T) {
	w := hall(t, "ge", "")
	w.Code = byBars(t, "watch 0|go 0")
	w.Runs[0].At, w.Runs[1].At, w.Runs[0].Slots[0] = 0, 0, run(2)
	w.Sent, w.Taken, w.Lost = 8997, 8997, 0
	for turns := 0; turns <= 4; turns++ {
		x := impl.PlayTurns(w, turns)
		if isNoWorld(x) != (turns > 2) {
			t.Errorf("%d turns: %+v", turns, x)
		}
		if turns == 2 && x.Sent != 9000 {
			t.Errorf("two turns: %+v", x)
		}
	}
}

func TestP96GiveToOneThatEndedBehindPlays(t *testing.T) {
	d := &dice{state: 96}
	held := 0
	fewPlays(t, 9696, 60, 4, func(s show) {
		for _, r := range s.w.Runs {
			if r.State != impl.RunEnded {
				continue
			}
			held++
			want := keptWorld(s.w)
			want.Sent, want.Lost = want.Sent+1, want.Lost+1
			if x := checkEvent(t, s.w, ev(impl.EvGive, r.Id, d.val())); !sameWorld(x, want) {
				t.Fatalf("given to %d: %+v, %v", r.Id, x, s)
			}
		}
	})
	mustHave(t, "runs that ended", held, 200)
}

func TestP97AnEndOfEachRun(t *testing.T) {
	d := &dice{state: 97}
	fewPlays(t, 9797, 60, 8, func(s show) {
		x := s.w
		ids := orders(span(1, len(s.w.Runs)))
		for _, id := range pick(d, ids) {
			x = checkEvent(t, x, ev(impl.EvKill, id, pick(d, append(ends(), name(0)))))
		}
		if len(x.Queue) != 0 || impl.WorldWaits(x) != 0 || len(impl.WorldAlive(x)) != 0 || x.Sent != x.Taken+x.Lost || len(x.Runs) != len(s.w.Runs) {
			t.Fatalf("all ended, but %+v, %v", x, s)
		}
		checkNothingChanges(t, x, turnEvent())
		if y := impl.PlayTurns(x, 5); !sameWorld(y, x) {
			t.Fatalf("all ended, but turns make %+v of %+v", y, x)
		}
	})
}

func TestP98TheStepsAreThoseOfTheBeginning(t *testing.T) {
	plays(t, 98, 40, func(s show) {
		if !slices.Equal(s.w.Code, s.code) {
			t.Fatalf("the steps are %q, %v", textByHand(s.w.Code), s)
		}
	})
}

func TestP99WithoutTurnsThereIsOneRunAtTheFirstStep(t *testing.T) {
	d := &dice{state: 99}
	for i, code := range playCodes(t, d, 60) {
		var events []impl.Event
		for range d.below(81) {
			if e := d.event(); e.Kind != impl.EvTurn && e.Kind != impl.EvKill {
				events = append(events, e)
			}
		}
		if i%3 == 0 {
			events = slices.Insert(events, d.below(len(events)+1), ev(impl.EvKill, 1, d.val()))
		}
		w, ok := impl.PlayRun(code, events)
		if !ok || len(w.Runs) != 1 || w.Taken != 0 || w.Runs[0].At != 0 || w.Runs[0].Turns != 0 {
			t.Fatalf("%+v by %q: %+v, %v", events, textByHand(code), w, ok)
		}
		if gone := i%3 == 0; gone != (w.Runs[0].State == impl.RunEnded) || gone == slices.Equal(w.Queue, []int{1}) {
			t.Fatalf("%+v by %q: %+v", events, textByHand(code), w)
		}
	}
}

// The first turn: so many runs are begun as the run comes to steps that begin, of the first three.
func TestP100TheFirstTurn(t *testing.T) {
	var begun [4]int
	ended := 0
	codes := safeCodes(t)
	for _, text := range append(playTexts, "begin 1 0|begin 1 0|begin 1 0|begin 1 0|end 0", "end 0", "set 1 n1|end 1", "begin 1 0|link 1|end 1") {
		codes = append(codes, codeCase{byBars(t, text)})
	}
	for _, c := range codes {
		w, ok := impl.PlayRun(c.code, []impl.Event{turnEvent()})
		first := firstWorld(t, c.code)
		many := 0
		for range 3 {
			r := first.Runs[0]
			if r.State != impl.RunGoing {
				break
			}
			if c.code[r.At].Kind == impl.OpBegin {
				many++
			}
			stepByHand(&first)
		}
		if !ok || len(w.Runs) != 1+many || w.Runs[0].Turns != 1 && w.Runs[0].State != impl.RunEnded {
			t.Fatalf("%v: %+v, %v", c, w, ok)
		}
		begun[many]++
		if w.Runs[0].State == impl.RunEnded {
			ended++
		}
	}
	for many := range begun {
		mustHave(t, fmt.Sprintf("turns that begin %d", many), begun[many], 1)
	}
	mustHave(t, "runs that ended by it", ended, 20)
}

// playsOf are all worlds that are answered of one, those of PlayRun too.
func playsOf(w impl.World, events []impl.Event) []impl.World {
	var answers []impl.World
	for _, e := range append(eventsOfEachKind(), impl.Event{}) {
		answers = append(answers, impl.PlayDo(w, e), impl.PlayDo(w, e))
	}
	for _, turns := range []int{-1, 0, 0, 1, 4, 4} {
		answers = append(answers, impl.PlayTurns(w, turns))
	}
	for some := range len(events) + 1 {
		x, _ := impl.PlayRun(w.Code, events[:some])
		answers = append(answers, x)
	}
	return answers
}

// eventsOfEachKind are a few that each world can have.
func eventsOfEachKind() []impl.Event {
	return []impl.Event{turnEvent(), tickEvent(), ev(3, 1, num(7)), ev(3, 2, name(7)), ev(3, 6, num(7)), ev(4, 1, name(0)), ev(4, 1, num(7)), ev(4, 3, num(7)), ev(3, 1, num(100))}
}

func TestP85WhatIsHandedInIsNotWrittenInto(t *testing.T) {
	worlds := throwWorlds(t, 850, 200)
	fewPlays(t, 8500, 20, 8, func(s show) { worlds = append(worlds, s.w) })
	mark := impl.Event{Kind: 99, A: 99, V: num(99)}
	all := slices.Concat([]impl.Event{mark}, eventsOfEachKind(), slices.Repeat([]impl.Event{mark}, 80))
	kept := slices.Clone(all)
	for i, w := range worlds {
		if i%12 == 11 {
			w.Now = 301
		}
		inside, same := settled(w)
		answers := playsOf(inside, all[1:1+len(eventsOfEachKind())])
		if !same() || !slices.Equal(all, kept) {
			t.Fatalf("%+v was written into", w)
		}
		for _, answer := range answers {
			spoilWorld(answer)
			if !same() || !slices.Equal(all, kept) {
				t.Fatalf("an answer shares memory with %+v", w)
			}
		}
	}
}

func TestP85AnswersShareNoMemoryWithEachOther(t *testing.T) {
	for _, w := range throwWorlds(t, 853, 60) {
		mustBeApart(t, w, playsOf(w, eventsOfEachKind()))
	}
}

// The lists that are handed in share their memory, whatever run they are of; those of an answer must share none all the same.
func TestP85ListsOfOneAnswerShareNoMemory(t *testing.T) {
	ids := []int{1, 2, 3, 1, 2}
	vals := []impl.Val{run(2), run(3), run(2), num(4)}
	for _, step := range []string{"link 0", "begin 1 6", "send 0 3", "take 1 3", "end 3"} {
		w := sharingDesk(t, step, ids, vals)
		for _, e := range append(eventsOfEachKind(), impl.Event{}) {
			mustShareNone(t, fmt.Sprintf("%s, PlayDo with %+v", step, e), func() impl.World { return impl.PlayDo(w, e) })
			checkEvent(t, w, e)
		}
		for turns := range 4 {
			mustShareNone(t, fmt.Sprintf("%s, %d turns", step, turns), func() impl.World { return impl.PlayTurns(w, turns) })
		}
	}
	if !slices.Equal(ids, []int{1, 2, 3, 1, 2}) || !slices.Equal(vals, []impl.Val{run(2), run(3), run(2), num(4)}) {
		t.Errorf("what was handed in is %v, %v", ids, vals)
	}
	fewPlays(t, 854, 20, 40, func(s show) {
		mustShareNone(t, s.String(), func() impl.World {
			x, _ := impl.PlayRun(s.code, s.events)
			return x
		})
	})
}

// Many at once play by the same steps, with the same events: each has the same answer, as nothing is kept.
func TestP85ManyAtOnce(t *testing.T) {
	fewPlays(t, 855, 12, 27, func(s show) {
		answers := make([]impl.World, 8)
		var all sync.WaitGroup
		for i := range answers {
			all.Go(func() { answers[i], _ = impl.PlayRun(s.code, s.events) })
		}
		all.Wait()
		for _, x := range answers {
			if !sameWorld(x, s.w) {
				t.Fatalf("%+v, %v", x, s)
			}
		}
	})
}
