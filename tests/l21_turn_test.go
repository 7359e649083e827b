package tests

import (
	"fmt"
	"math"
	"slices"
	"sync"
	"testing"

	"loop.example/errandry/impl"
)

// deskText has a place for a step, the next one behind it, one elsewhere to which it may go, and then those of the hall; at the step all slots are full.
const deskText = "if 0 7 n0|set 1 n0|set 2 n0|set 3 n0|%s|go 7|end 0|take 1 0|take 1 3|take 1 1|after 1 3 7 n9|go 7"

// Places of the desk.
const (
	deskStep = 4
	deskNext = 5
	deskElse = 6
	deskHall = 7
)

// desk is a world in which run 1 is at this step, the first to go on, with these values in its slots, and all others are as in the hall.
func desk(t *testing.T, step, letters, ties string, slots ...impl.Val) impl.World {
	t.Helper()
	w := hall(t, letters, ties)
	w.Code = byBars(t, fmt.Sprintf(deskText, step))
	for i := range w.Runs {
		w.Runs[i].At += deskHall
	}
	w.Runs[0].At = deskStep
	copy(w.Runs[0].Slots, slots)
	if !okWorldByHand(w) || w.Queue[0] != 1 {
		t.Fatalf("by hand a desk with %q, %s, %s is not ok", step, letters, ties)
	}
	return w
}

// seated is a desk at which another run, that goes, is in the place of run 1, and the first to go on.
func seated(w impl.World, id int) impl.World {
	w = keptWorld(w)
	w.Runs[0].At, w.Runs[id-1].At = w.Runs[id-1].At, w.Runs[0].At
	w.Queue = append([]int{id}, but(w.Queue, id)...)
	return w
}

// stepByHand lets the first to go on do its step, as the document says, worked out apart from the program.
func stepByHand(g *impl.World) {
	if len(g.Queue) == 0 {
		return
	}
	id := g.Queue[0]
	was := keptRun(g.Runs[id-1])
	o := g.Code[was.At]
	r := &g.Runs[id-1]
	switch o.Kind {
	case 1:
		*r = putByHand(was, o.R, o.V)
	case 2:
		*r = putByHand(was, o.R, was.Slots[o.S])
	case 3:
		a, b := was.Slots[o.R], was.Slots[o.S]
		if a.Kind != 1 || b.Kind != 1 || !inNum(a.N+b.N) {
			fallByHand(g, id, name(1))
			return
		}
		*r = putByHand(was, o.R, num(a.N+b.N))
	case 4:
		*r = putByHand(was, o.R, run(id))
	case 5:
		beginByHand(g, id, o)
	case 6, 11, 12:
		if was.Slots[o.R].Kind != 3 {
			fallByHand(g, id, name(2))
			return
		}
		reachByStep(g, id, o, was.Slots[o.R].N, was.Slots[o.S])
	case 7, 8:
		takeByStep(g, id, o)
		return
	case 9:
		r.At = o.To
		return
	case 10:
		if was.Slots[o.R] == o.V {
			r.At = o.To
			return
		}
	case 13:
		r.Trap = o.V == num(1)
	case 14:
		fallByHand(g, id, was.Slots[o.R])
		return
	}
	g.Runs[id-1].At = was.At + 1
}

func beginByHand(g *impl.World, id int, o impl.Op) {
	next := len(g.Runs) + 1
	if next > 6 {
		g.Runs[id-1] = putByHand(g.Runs[id-1], o.R, impl.Val{})
		return
	}
	g.Runs[id-1] = putByHand(g.Runs[id-1], o.R, run(next))
	g.Runs = append(g.Runs, impl.Run{Id: next, At: o.To, Slots: []impl.Val{run(id), {}, {}, {}}, Full: 1, State: 1})
	g.Queue = append(g.Queue, next)
}

// reachByStep lets a run send to another one, be linked with it, or watch it.
func reachByStep(g *impl.World, id int, o impl.Op, to int, v impl.Val) {
	alive := to <= len(g.Runs) && g.Runs[to-1].State != 3
	switch {
	case o.Kind == 6:
		handOver(g, to, v)
	case o.Kind == 11 && alive && to != id && !slices.Contains(g.Runs[to-1].Links, id):
		g.Runs[id-1].Links = append(g.Runs[id-1].Links, to)
		g.Runs[to-1].Links = append(g.Runs[to-1].Links, id)
	case o.Kind == 12 && !alive:
		handOver(g, id, run(to))
	case o.Kind == 12 && to != id && !slices.Contains(g.Runs[to-1].Watched, id):
		g.Runs[to-1].Watched = append(g.Runs[to-1].Watched, id)
	}
}

func takeByStep(g *impl.World, id int, o impl.Op) {
	r := &g.Runs[id-1]
	left, v, is := takenByHand(*r, o.S)
	due := r.Due
	switch {
	case is:
		*r = putByHand(left, o.R, v)
		r.At, r.Due = r.At+1, 0
		g.Taken++
	case o.Kind == 8 && due == -1:
		r.At, r.Due = o.To, 0
	default:
		r.State, r.Due = 2, 0
		if o.Kind == 8 {
			r.Due = g.Now + o.V.N
		}
		g.Queue = g.Queue[1:]
	}
}

func turnByHand(g *impl.World) {
	if len(g.Queue) == 0 {
		return
	}
	id := g.Queue[0]
	g.Runs[id-1].Turns = min(g.Runs[id-1].Turns+1, 9999)
	for range 3 {
		if g.Runs[id-1].State == 1 {
			stepByHand(g)
		}
	}
	if g.Runs[id-1].State == 1 {
		g.Queue = append(but(g.Queue, id), id)
	}
}

func tickByHand(g *impl.World) {
	if g.Now >= 250 {
		return
	}
	g.Now++
	for i, r := range g.Runs {
		if r.State == 2 && r.Due == g.Now {
			g.Runs[i].State, g.Runs[i].Due = 1, -1
			g.Queue = append(g.Queue, r.Id)
		}
	}
}

// doneByHand is a world behind one of these; nothing, where the document says so.
func doneByHand(w impl.World, do func(*impl.World)) impl.World {
	if !okWorldByHand(w) || w.Sent >= 9000 {
		return impl.World{}
	}
	g := keptWorld(w)
	do(&g)
	return g
}

// checkDone holds an answer to what is worked out by hand: an ok world, with no value missing, or nothing.
func checkDone(t *testing.T, what string, w, x impl.World, do func(*impl.World)) {
	t.Helper()
	want := doneByHand(w, do)
	if !sameWorld(x, want) {
		t.Fatalf("%s of %+v is %+v, not %+v", what, w, x, want)
	}
	if isNoWorld(want) {
		return
	}
	if !impl.WorldOk(x) || !okWorldByHand(x) || x.Sent != x.Taken+x.Lost+waitsByHand(x) || !slices.Equal(x.Code, w.Code) {
		t.Fatalf("%s of %+v is not ok: %+v", what, w, x)
	}
}

// checkStep holds TurnStep to what is worked out by hand, and to what is promised of each step; it is what TurnStep answered.
func checkStep(t *testing.T, w impl.World) impl.World {
	t.Helper()
	x := impl.TurnStep(w)
	checkDone(t, "TurnStep", w, x, stepByHand)
	switch {
	case isNoWorld(x):
	case len(w.Queue) == 0:
		if !sameWorld(x, w) {
			t.Fatalf("nobody is to go on, but TurnStep of %+v is %+v", w, x)
		}
	default:
		checkStepOfOthers(t, w, x)
		checkStepOfFirst(t, w, x)
	}
	return x
}

// checkStepOfOthers: each other one stays where it is, with what it has, unless it ends; at most one is begun.
func checkStepOfOthers(t *testing.T, w, x impl.World) {
	t.Helper()
	if more := len(x.Runs) - len(w.Runs); !within(more, 0, 1) || x.Now != w.Now {
		t.Fatalf("TurnStep of %+v is %+v", w, x)
	}
	for i, was := range w.Runs {
		is := x.Runs[i]
		if is.Id == w.Queue[0] {
			continue
		}
		if is.State == 3 && was.State != 3 {
			continue
		}
		if is.At != was.At || is.Full != was.Full || !slices.Equal(is.Slots, was.Slots) || is.Turns != was.Turns || is.Trap != was.Trap || is.Due != was.Due {
			t.Fatalf("TurnStep of %+v: another one is %+v", w, is)
		}
		if len(is.Mail) < len(was.Mail) || !slices.Equal(is.Mail[:len(was.Mail)], was.Mail) {
			t.Fatalf("TurnStep of %+v: for another one wait %v", w, is.Mail)
		}
	}
}

// checkStepOfFirst: at most one slot is another, and the run is where its step lets it be.
func checkStepOfFirst(t *testing.T, w, x impl.World) {
	t.Helper()
	id := w.Queue[0]
	was, is := w.Runs[id-1], x.Runs[id-1]
	o := w.Code[was.At]
	other := 0
	for slot := range 4 {
		if is.Slots[slot] != was.Slots[slot] || is.Full>>slot%2 != was.Full>>slot%2 {
			other++
		}
	}
	there := is.At == was.At+1 || hasTo(o) && o.Kind != impl.OpBegin && is.At == o.To
	if is.State == impl.RunWaiting {
		there = is.At == was.At
	}
	if other > 1 || !there && is.State != impl.RunEnded || is.Turns != was.Turns {
		t.Fatalf("TurnStep of %+v: the run is %+v", w, is)
	}
	if goes := is.State == impl.RunGoing; goes != (len(x.Queue) > 0 && x.Queue[0] == id) {
		t.Fatalf("TurnStep of %+v: to go on are %v", w, x.Queue)
	}
}

// checkTurn holds TurnDo to what is worked out by hand, and to TurnStep; it is what TurnDo answered.
func checkTurn(t *testing.T, w impl.World) impl.World {
	t.Helper()
	x := impl.TurnDo(w)
	checkDone(t, "TurnDo", w, x, turnByHand)
	if isNoWorld(x) {
		return x
	}
	if len(w.Queue) == 0 {
		if !sameWorld(x, w) {
			t.Fatalf("nobody is to go on, but TurnDo of %+v is %+v", w, x)
		}
		return x
	}
	// By single steps, as long as these are answered.
	if y := w; w.Sent < 8990 {
		id := w.Queue[0]
		for range 3 {
			if y.Runs[id-1].State == impl.RunGoing {
				y = impl.TurnStep(y)
			}
		}
		y.Runs[id-1].Turns = min(w.Runs[id-1].Turns+1, 9999)
		if y.Runs[id-1].State == impl.RunGoing {
			y.Queue = append(y.Queue[1:], id)
		}
		if !sameWorld(x, y) {
			t.Fatalf("TurnDo of %+v is %+v, by steps %+v", w, x, y)
		}
	}
	checkTurnOfOthers(t, w, x)
	return x
}

// checkTurnOfOthers: no other one had a turn, and those that were to go on, and did not end, are still, in their order, ahead of all that came.
func checkTurnOfOthers(t *testing.T, w, x impl.World) {
	t.Helper()
	first := w.Queue[0]
	for i, was := range w.Runs {
		if was.Id != first && x.Runs[i].Turns != was.Turns {
			t.Fatalf("TurnDo of %+v: another one had a turn: %+v", w, x)
		}
	}
	var still []int
	for _, id := range w.Queue[1:] {
		if x.Runs[id-1].State != impl.RunEnded {
			still = append(still, id)
		}
	}
	if len(x.Queue) < len(still) || !slices.Equal(x.Queue[:len(still)], still) {
		t.Fatalf("TurnDo of %+v: to go on are %v", w, x.Queue)
	}
	if goes := x.Runs[first-1].State == impl.RunGoing; goes != (slices.Index(x.Queue, first) == len(x.Queue)-1 && len(x.Queue) > 0) {
		t.Fatalf("TurnDo of %+v: to go on are %v", w, x.Queue)
	}
}

// checkTick holds TurnTick to what is worked out by hand; it is what TurnTick answered.
func checkTick(t *testing.T, w impl.World) impl.World {
	t.Helper()
	x := impl.TurnTick(w)
	checkDone(t, "TurnTick", w, x, tickByHand)
	return x
}

// checkStepIs holds TurnStep to the world that is left when the first one is at the next place, and what else there is is done by the function.
func checkStepIs(t *testing.T, what string, w impl.World, change func(x *impl.World, r *impl.Run)) impl.World {
	t.Helper()
	want := keptWorld(w)
	r := &want.Runs[w.Queue[0]-1]
	r.At++
	change(&want, r)
	x := checkStep(t, w)
	if !sameWorld(x, want) {
		t.Errorf("%s: TurnStep of %+v is %+v, not %+v", what, w, x, want)
	}
	return x
}

// checkStepEnds asks that a step ends its run with a value, where it is, with just these.
func checkStepEnds(t *testing.T, what string, w impl.World, why impl.Val, gone ...int) {
	t.Helper()
	x := checkStep(t, w)
	id := w.Queue[0]
	if want := impl.FallEnd(w, id, why); !sameWorld(x, want) || !sameWorld(x, fallenByHand(w, id, why)) {
		t.Errorf("%s: TurnStep of %+v is %+v, not %+v", what, w, x, want)
	}
	if more := endedMore(w, x); !slices.Equal(more, gone) || x.Runs[id-1].Why != why || x.Runs[id-1].At != w.Runs[id-1].At {
		t.Errorf("%s: %v ended, the run is %+v", what, more, x.Runs[id-1])
	}
}

// nothingElse is the change of a step that just goes on.
func nothingElse(*impl.World, *impl.Run) {}

// steady are ties of a desk by which run 2 falls with run 1, 4 and 5 are told of what falls, and 3 watches run 1.
const steady = "1-2 3>1 2-4 4! 1-5 5!"

// playTexts are steps by which runs begin others, are linked, watch, trap, send, wait for a time, fall, and do what cannot be.
var playTexts = []string{
	stageText,
	"begin 1 4|link 1|begin 2 0|watch 2|take 3 3|go 4",
	"trap n1|begin 1 6|link 1|watch 1|take 2 3|go 1|set 1 n1|add 1 0|end 1",
	"begin 1 5|link 1|send 1 0|after 2 0 0 n3|go 0|take 1 3|send 1 0|end 0",
	"after 1 1 3 n2|add 1 1|go 0|self 2|send 2 0|take 3 0|send 0 2|after 3 2 0 n1|link 3|go 0",
	"begin 1 0|watch 1|send 0 1|take 2 0|if 2 6 r1|trap n0|link 2|end 2",
	"set 1 n50|set 2 n49|add 2 1|begin 3 4|send 0 0|after 3 3 7 n1|link 3|self 2|watch 2|go 4",
	"begin 1 3|begin 2 3|begin 3 3|after 1 0 4 n1|send 0 0|go 3",
	"move 1 0|self 2|if 1 5 r1|link 0|watch 0|begin 3 0|after 1 3 7 n4|trap n1|take 1 0|go 6",
	"begin 1 4|watch 1|begin 2 6|link 2|after 3 1 5 n2|go 4|set 1 a0|end 1",
	"trap n1|begin 1 4|link 1|go 1|begin 2 6|link 2|after 3 0 8 n2|end 3|end 0",
	"trap n1|begin 1 5|link 1|self 2|go 8|self 1|move 2 0|go 8|move 3 0|self 3|after 3 2 8 n1|go 8",
}

// playCodes are safe steps: mostly those above, and else some that dice throw.
func playCodes(t *testing.T, d *dice, many int) [][]impl.Op {
	t.Helper()
	var codes [][]impl.Op
	safe := safeCodes(t)
	for i := range many {
		code := byBars(t, playTexts[i%len(playTexts)])
		if !safeByHand(code) {
			t.Fatalf("%q is not safe", textByHand(code))
		}
		if i%5 == 4 {
			code = slices.Clone(pick(d, safe).code)
		}
		codes = append(codes, code)
	}
	return codes
}

// happen lets something happen to a world: mostly a turn, or one step, and then time, a value, and, seldom, an end.
func (d *dice) happen(t *testing.T, w impl.World) impl.World {
	t.Helper()
	switch n := d.below(40); {
	case n < 15:
		return checkTurn(t, w)
	case n < 30:
		return checkStep(t, w)
	case n < 34:
		return checkTick(t, w)
	case n < 39:
		return impl.WorldGive(w, 1+d.below(len(w.Runs)), d.val())
	}
	return impl.FallEnd(w, 1+d.below(6), d.val())
}

// firstWorld is the world with which plays by safe steps begin.
func firstWorld(t *testing.T, code []impl.Op) impl.World {
	t.Helper()
	w, ok := impl.WorldNew(code)
	if !ok {
		t.Fatalf("WorldNew of %q is false", textByHand(code))
	}
	return w
}

// played calls a function of each world that comes of plays.
func played(t *testing.T, state uint64, codes, events int, look func(w impl.World)) {
	t.Helper()
	d := &dice{state: state}
	for _, code := range playCodes(t, d, codes) {
		w := firstWorld(t, code)
		for range events {
			look(w)
			w = d.happen(t, w)
		}
		look(w)
	}
}

// Each kind of step is done often, by runs that are linked, watched, trap, and have mail.
func TestP65ToP67StepsOfPlays(t *testing.T) {
	var done, tied [15]int
	played(t, 65, 120, 40, func(w impl.World) {
		checkStep(t, w)
		if len(w.Queue) == 0 {
			return
		}
		r := w.Runs[w.Queue[0]-1]
		kind := w.Code[r.At].Kind
		done[kind]++
		if len(r.Links)+len(r.Watched) > 0 {
			tied[kind]++
		}
	})
	for kind := 1; kind <= 14; kind++ {
		if done[kind] < 20 || tied[kind] < 5 {
			t.Errorf("just %d steps of kind %d, %d of them with links, or watched", done[kind], kind, tied[kind])
		}
	}
}

func TestP65ToP67StepsOfAnyWorld(t *testing.T) {
	var done [15]int
	for _, w := range throwWorlds(t, 6567, 3000) {
		checkStep(t, w)
		if len(w.Queue) > 0 {
			done[w.Code[w.Runs[w.Queue[0]-1].At].Kind]++
		}
	}
	for kind := 1; kind <= 14; kind++ {
		if done[kind] < 10 {
			t.Errorf("just %d steps of kind %d", done[kind], kind)
		}
	}
}

func TestP65TurnsAndTicksOfAnyWorld(t *testing.T) {
	for _, w := range throwWorlds(t, 65, 1000) {
		checkTick(t, checkTurn(t, checkTurn(t, w)))
		checkTurn(t, checkTick(t, w))
	}
}

// Many turns, behind which all that was sent was taken, was lost, or waits.
func TestP65ManyTurns(t *testing.T) {
	for _, text := range playTexts {
		w, _ := impl.WorldNew(byBars(t, text))
		for i := range 90 {
			w = checkTurn(t, w)
			if i%4 == 3 {
				w = checkTick(t, w)
			}
		}
		if w.Sent != w.Taken+w.Lost+impl.WorldWaits(w) || w.Now != 22 {
			t.Errorf("%q: %+v", text, w)
		}
	}
}

func TestP68AValueIsSet(t *testing.T) {
	for slot := range 4 {
		for _, v := range edgeVals() {
			w := desk(t, fmt.Sprintf("set %d %s", slot, handVals[v]), "ggn", "1-2")
			checkStepIs(t, "set", w, func(x *impl.World, r *impl.Run) { r.Slots[slot] = v })
		}
	}
}

func TestP68AValueIsMoved(t *testing.T) {
	vals := []impl.Val{num(7), {}, name(4), run(5)}
	for to := range 4 {
		for from := range 4 {
			w := desk(t, fmt.Sprintf("move %d %d", to, from), "gga", "", vals...)
			checkStepIs(t, "move", w, func(x *impl.World, r *impl.Run) { r.Slots[to] = vals[from] })
		}
	}
}

func TestP68TheRunItself(t *testing.T) {
	for slot := range 4 {
		for id := 1; id <= 6; id++ {
			w := seated(desk(t, fmt.Sprintf("self %d", slot), "gggggg", ""), id)
			checkStepIs(t, "self", w, func(x *impl.World, r *impl.Run) { r.Slots[slot] = run(id) })
		}
	}
}

// Slots that were empty are full behind the step, and just those.
func TestP68ASlotThatWasEmpty(t *testing.T) {
	for _, c := range []struct {
		text  string
		slots []impl.Val
		full  int
	}{
		{"set 2 n7|go 0", []impl.Val{run(1), {}, num(7), {}}, 5},
		{"set 3 none|go 0", []impl.Val{run(1), {}, {}, {}}, 9},
		{"set 0 none|go 0", []impl.Val{{}, {}, {}, {}}, 1},
		{"move 1 0|go 0", []impl.Val{run(1), run(1), {}, {}}, 3},
		{"self 3|go 0", []impl.Val{run(1), {}, {}, run(1)}, 9},
		{"begin 1 1|go 0", []impl.Val{run(1), run(2), {}, {}}, 3},
	} {
		w, _ := impl.WorldNew(byBars(t, c.text))
		if r := checkStep(t, w).Runs[0]; r.Full != c.full || !slices.Equal(r.Slots, c.slots) || r.At != 1 {
			t.Errorf("%s: %+v", c.text, r)
		}
	}
}

func TestP68Sums(t *testing.T) {
	counts := []int{-99, -98, -50, -49, -1, 0, 1, 2, 49, 50, 98, 99}
	for _, a := range counts {
		for _, b := range counts {
			w := desk(t, "add 2 3", "ggrntg", steady, name(1), name(2), num(a), num(b))
			if sum := a + b; -99 <= sum && sum <= 99 {
				checkStepIs(t, "sum", w, func(x *impl.World, r *impl.Run) { r.Slots[2] = num(sum) })
			} else {
				checkStepEnds(t, "no sum", w, name(1), 1, 2)
			}
		}
		w := desk(t, "add 1 1", "g", "", name(1), num(a))
		if within(2*a, -99, 99) {
			checkStepIs(t, "twice", w, func(x *impl.World, r *impl.Run) { r.Slots[1] = num(2 * a) })
		} else {
			checkStepEnds(t, "no sum of one slot", w, name(1), 1)
		}
	}
}

func TestP68NoSumsOfWhatIsNoNumber(t *testing.T) {
	for _, a := range edgeVals() {
		for _, b := range edgeVals() {
			if a.Kind == impl.ValNum && b.Kind == impl.ValNum {
				continue
			}
			w := desk(t, "add 0 1", "ggrntg", steady, a, b)
			w = mailed(w, 1, num(1), num(2))
			checkStepEnds(t, "no numbers", w, name(1), 1, 2)
			other := desk(t, "add 2 0", "ggg", "3-2")
			other.Runs[2].Slots[2], other.Runs[2].Slots[0] = a, b
			checkStepEnds(t, "no numbers, of another run", seated(other, 3), impl.Val{Kind: impl.ValName, N: impl.EndSum}, 2, 3)
			if impl.TurnDo(w).Runs[0].Why != name(1) {
				t.Errorf("%v and %v: %+v", a, b, impl.TurnDo(w))
			}
		}
	}
}

// Run 1 sends to run 2, of each sort, a value of each kind.
func TestP69SendToEachSortOfRuns(t *testing.T) {
	for letter, kinds := range map[string][]int{"g": nil, "a": {0, 1, 2, 3}, "r": {3}, "n": {1}, "t": {3}} {
		for _, v := range edgeVals() {
			w := desk(t, "send 3 1", "g"+letter+"g", "2-3 1>2", name(9), v, name(9), run(2))
			x := checkStepIs(t, "send", w, func(x *impl.World, r *impl.Run) {
				x.Sent++
				x.Runs[1].Mail = []impl.Val{v}
				if slices.Contains(kinds, v.Kind) {
					x.Runs[1].State = impl.RunGoing
					x.Queue = []int{1, 3, 2}
				}
			})
			if x.Runs[1].Due != w.Runs[1].Due {
				t.Errorf("%s, given %v: %+v", letter, v, x.Runs[1])
			}
			moved := keptWorld(w)
			moved.Runs[0].At++
			if want := impl.WorldGive(moved, 2, v); !sameWorld(x, want) {
				t.Errorf("%s, given %v: %+v, not %+v", letter, v, x, want)
			}
		}
	}
}

func TestP69SendWithRoomAndWithNone(t *testing.T) {
	for many := 0; many <= 12; many++ {
		for _, letter := range []string{"g", "n", "t"} {
			w := mailed(desk(t, "send 2 0", "g"+letter, "", num(8), name(9), run(2), name(9)), 2, slices.Repeat([]impl.Val{name(3)}, many)...)
			checkStepIs(t, "room", w, func(x *impl.World, r *impl.Run) {
				x.Sent++
				if many == 12 {
					x.Lost++
					return
				}
				x.Runs[1].Mail = append(x.Runs[1].Mail, num(8))
				if letter == "n" {
					x.Runs[1].State, x.Queue = impl.RunGoing, []int{1, 2}
				}
			})
		}
	}
}

func TestP69SendToOneThatEndedOrThatThereIsNot(t *testing.T) {
	for to := 2; to <= 6; to++ {
		for _, v := range edgeVals() {
			w := desk(t, "send 0 3", "ge", "", run(to), name(9), name(9), v)
			checkStepIs(t, "to nobody", w, func(x *impl.World, r *impl.Run) { x.Sent, x.Lost = x.Sent+1, x.Lost+1 })
		}
	}
}

func TestP69SendToItself(t *testing.T) {
	for many := 0; many <= 12; many++ {
		for _, id := range []int{1, 3} {
			w := desk(t, "send 1 1", "ggg", "", name(9), run(id))
			w.Runs[2].Slots[1] = run(id)
			w = mailed(seated(w, id), id, slices.Repeat([]impl.Val{num(3)}, many)...)
			checkStepIs(t, "to itself", w, func(x *impl.World, r *impl.Run) {
				x.Sent++
				if many == 12 {
					x.Lost++
				} else {
					r.Mail = append(r.Mail, run(id))
				}
			})
		}
	}
}

// One that sends to, links with, or watches what is no run ends with all that fall, where it stands, and the turn is over.
func TestP69AndP72ToWhatIsNoRun(t *testing.T) {
	for _, step := range []string{"send 2 3", "link 2", "watch 2"} {
		for _, v := range []impl.Val{{}, num(2), name(2), num(0), name(0), num(-99), num(3), name(3)} {
			for _, other := range edgeVals() {
				w := desk(t, step, "ggrntg", steady, name(9), name(9), v, other)
				checkStepEnds(t, step, w, impl.Val{Kind: impl.ValName, N: impl.EndAddress}, 1, 2)
				x := checkTurn(t, w)
				if r := x.Runs[0]; r.Why != name(2) || r.At != deskStep || r.Turns != w.Runs[0].Turns+1 || slices.Contains(x.Queue, 1) {
					t.Errorf("%s of %v: %+v", step, v, x)
				}
			}
		}
	}
}

// dues are till when one that goes may have waited: not at all, till a time that is over, and till one to come or gone, as it was given something ahead of it.
var dues = []int{0, -1, 1, stageNow, stageNow + 1, 400}

// All mails of at most three values, at steps that take each kind, with each time that may be left.
func TestP70TakeWhatFitsOrWait(t *testing.T) {
	for kind := 0; kind <= 3; kind++ {
		base := desk(t, fmt.Sprintf("take 2 %d", kind), "gga", "1-2")
		for _, mail := range mailsOf(3) {
			for _, due := range dues {
				w := mailed(base, 1, mail...)
				w.Runs[0].Due = due
				checkStepIs(t, "take", w, func(x *impl.World, r *impl.Run) {
					r.Due = 0
					if !takesFitting(x, r, 2, kind) {
						waitsHere(x, r)
					}
				})
			}
		}
	}
}

// takesFitting lets a run take the first value of its mail that fits, if there is one.
func takesFitting(x *impl.World, r *impl.Run, slot, kind int) bool {
	i := slices.IndexFunc(r.Mail, func(v impl.Val) bool { return kind == 0 || v.Kind == kind })
	if i < 0 {
		return false
	}
	r.Slots[slot] = r.Mail[i]
	r.Mail = slices.Delete(r.Mail, i, i+1)
	x.Taken++
	return true
}

// waitsHere lets a run wait at the place from which it would go on.
func waitsHere(x *impl.World, r *impl.Run) {
	r.At, r.State = r.At-1, impl.RunWaiting
	x.Queue = but(x.Queue, r.Id)
}

func TestP70TakeWhatFitsOrWaitForATime(t *testing.T) {
	for kind := 0; kind <= 3; kind++ {
		base := desk(t, fmt.Sprintf("after 3 %d 6 n7", kind), "gga", "1-2")
		for _, mail := range mailsOf(3) {
			for _, due := range dues {
				w := mailed(base, 1, mail...)
				w.Runs[0].Due = due
				checkStepIs(t, "after", w, func(x *impl.World, r *impl.Run) {
					r.Due = 0
					switch {
					case takesFitting(x, r, 3, kind):
					case due == -1:
						r.At = deskElse
					default:
						waitsHere(x, r)
						r.Due = stageNow + 7
					}
				})
			}
		}
	}
}

func TestP70TillWhichTimeOneWaits(t *testing.T) {
	for _, now := range []int{0, 1, 249, 250, 251, 299, 300} {
		for _, long := range []int{1, 2, 98, 99} {
			w := desk(t, fmt.Sprintf("after 0 0 6 n%d", long), "g", "")
			w.Now = now
			if r := checkStep(t, w).Runs[0]; r.Due != now+long || r.State != impl.RunWaiting || r.At != deskStep {
				t.Errorf("at %d, for %d: %+v", now, long, r)
			}
		}
	}
}

// Of many that wait just one that stands far behind fits.
func TestP70ALaterValueFits(t *testing.T) {
	for place := range 12 {
		for _, step := range []string{"take 1 2", "after 1 2 6 n1"} {
			mail := slices.Repeat([]impl.Val{num(1), run(3), {}}, 4)
			mail[place] = name(5)
			w := mailed(desk(t, step, "g", ""), 1, mail...)
			checkStepIs(t, step, w, func(x *impl.World, r *impl.Run) {
				r.Slots[1], r.Mail = name(5), slices.Concat(mail[:place], mail[place+1:])
				x.Taken++
			})
		}
	}
}

// overWorld is a world in which the time of run 1 is just over: it waited for a name till now, and is to go on, behind two others.
func overWorld(t *testing.T) impl.World {
	t.Helper()
	w, _ := impl.WorldNew(byBars(t, "begin 1 4|begin 2 4|after 3 2 5 n2|end 3|go 4|set 1 a7|go 6|go 6"))
	w = checkTick(t, checkTick(t, checkTurn(t, w)))
	if r := w.Runs[0]; r.Due != -1 || r.State != impl.RunGoing || r.At != 2 || !slices.Equal(w.Queue, []int{2, 3, 1}) {
		t.Fatalf("the time of the first run is not over: %+v", w)
	}
	return w
}

// A value comes when the time is over, and the run is still to go on: it takes that, if it fits, and goes elsewhere, if not.
func TestP70ATimeThatIsOverWhenAValueComes(t *testing.T) {
	for _, v := range edgeVals() {
		w := impl.WorldGive(overWorld(t), 1, v)
		if r := w.Runs[0]; r.Due != -1 || !slices.Equal(r.Mail, []impl.Val{v}) || !slices.Equal(w.Queue, []int{2, 3, 1}) {
			t.Fatalf("given %v: %+v", v, w)
		}
		w = checkStep(t, checkTurn(t, checkTurn(t, w)))
		r := w.Runs[0]
		if v.Kind == impl.ValName {
			if r.At != 3 || r.Slots[3] != v || r.Full != 15 || len(r.Mail) != 0 || w.Taken != 1 {
				t.Errorf("given %v: %+v", v, w)
			}
		} else if r.At != 5 || r.Full != 7 || !slices.Equal(r.Mail, []impl.Val{v}) || w.Taken != 0 {
			t.Errorf("given %v: %+v", v, w)
		}
		if r.Due != 0 || r.State != impl.RunGoing {
			t.Errorf("given %v, its time is %d: %+v", v, r.Due, r)
		}
	}
}

// What does not fit came first, and what fits behind it: the one that fits is taken.
func TestP70ATimeThatIsOverWhenSeveralValuesCome(t *testing.T) {
	w := overWorld(t)
	for _, v := range []impl.Val{num(1), name(3), name(4)} {
		w = impl.WorldGive(w, 1, v)
	}
	w = checkTurn(t, checkTick(t, checkTurn(t, checkTurn(t, w))))
	if r := w.Runs[0]; r.Why != name(3) || r.State != impl.RunEnded || w.Taken != 1 || w.Lost != 2 {
		t.Errorf("%+v", w)
	}
}

// A value comes ahead of the time: the run is to go on with the time still told, which does not matter when it comes.
func TestP70AValueThatComesAheadOfTheTime(t *testing.T) {
	w, _ := impl.WorldNew(byBars(t, "after 1 1 3 n3|after 2 1 3 n3|go 0|end 0"))
	w = checkTick(t, checkTurn(t, w))
	w = impl.WorldGive(w, 1, num(6))
	if r := w.Runs[0]; r.Due != 3 || r.State != impl.RunGoing {
		t.Fatalf("%+v", r)
	}
	w = checkTick(t, checkTick(t, checkTick(t, w)))
	if r := w.Runs[0]; r.Due != 3 || !slices.Equal(w.Queue, []int{1}) || w.Now != 4 {
		t.Fatalf("%+v", w)
	}
	w = checkTurn(t, w)
	if r := w.Runs[0]; r.At != 1 || r.Slots[1] != num(6) || r.Due != 7 || r.State != impl.RunWaiting {
		t.Errorf("%+v", r)
	}
}

// A time that is over is not so for the next step that waits.
func TestP70ATimeThatIsOverIsOverOnce(t *testing.T) {
	w, _ := impl.WorldNew(byBars(t, "after 1 0 1 n1|after 1 0 2 n2|after 1 0 0 n3|go 0"))
	for i, c := range []struct{ at, due int }{{0, 1}, {1, 3}, {2, 6}, {0, 7}, {1, 9}} {
		w = checkTurn(t, w)
		if r := w.Runs[0]; r.At != c.at || r.Due != c.due || r.State != impl.RunWaiting {
			t.Fatalf("turn %d: %+v", i, r)
		}
		for w.Now < c.due {
			w = checkTick(t, w)
		}
	}
}

// With each number of runs: the new one, its place to go on, and the slot, which was empty, of who began it.
func TestP71ARunBegins(t *testing.T) {
	for many := 1; many <= 6; many++ {
		for _, slot := range []int{0, 1, 3} {
			w := desk(t, fmt.Sprintf("begin %d 6", slot), "gegnag"[:many], "")
			checkStepIs(t, "begins", w, func(x *impl.World, r *impl.Run) {
				if many == 6 {
					r.Slots[slot] = impl.Val{}
					return
				}
				r.Slots[slot] = run(many + 1)
				x.Runs = append(x.Runs, impl.Run{Id: many + 1, At: deskElse, Slots: []impl.Val{run(1), {}, {}, {}}, Full: 1, State: impl.RunGoing})
				x.Queue = append(x.Queue, many+1)
			})
		}
	}
}

// Two slots were empty: the one that is filled is full behind it, be there room or not.
func TestP71TheSlotIsFullInEachCase(t *testing.T) {
	for many := 1; many <= 6; many++ {
		w := hall(t, "gggggg"[:many], "")
		w.Code = byBars(t, "begin 3 1|go 1")
		for i := range w.Runs {
			w.Runs[i].At, w.Runs[i].Full, w.Runs[i].Slots = 0, 3, []impl.Val{num(1), num(2), {}, {}}
		}
		for id := 1; id <= many; id++ {
			w.Queue = append([]int{id}, but(w.Queue, id)...)
			begun := impl.Val{}
			if many < 6 {
				begun = run(many + 1)
			}
			x := checkStep(t, w)
			if r := x.Runs[id-1]; r.Full != 11 || !slices.Equal(r.Slots, []impl.Val{num(1), num(2), {}, begun}) || r.At != 1 {
				t.Errorf("of %d runs: %+v", many, r)
			}
			if many < 6 && x.Runs[many].Slots[0] != run(id) {
				t.Errorf("of %d runs %d begins: %+v", many, id, x.Runs[many])
			}
			if len(x.Runs) != min(many+1, 6) || x.Queue[0] != id || x.Queue[len(x.Queue)-1] != len(x.Runs) && many < 6 {
				t.Errorf("of %d runs: %+v", many, x)
			}
		}
	}
}

// What a run that is begun has not: anything of the one that began it.
func TestP71WhoBeganItHandsDownNothing(t *testing.T) {
	w := mailed(desk(t, "begin 1 6", "gg", "1-2 2>1 1!"), 1, num(1), num(2))
	w.Runs[0].Turns, w.Runs[0].Due = 33, -1
	want := impl.Run{Id: 3, At: deskElse, Slots: []impl.Val{run(1), {}, {}, {}}, Full: 1, State: impl.RunGoing}
	x := checkStep(t, w)
	if !sameRun(x.Runs[2], want) {
		t.Errorf("%+v", x.Runs[2])
	}
	if r := x.Runs[0]; r.Turns != 33 || r.Due != -1 || !r.Trap || len(r.Mail) != 2 || !slices.Equal(r.Links, []int{2}) {
		t.Errorf("%+v", r)
	}
}

func TestP71RunsBeginRuns(t *testing.T) {
	w, _ := impl.WorldNew(byBars(t, "begin 1 0|go 0"))
	x := checkTurn(t, checkTurn(t, w))
	if !slices.Equal(x.Queue, []int{3, 1, 4, 5, 2}) {
		t.Errorf("to go on are %v", x.Queue)
	}
	for id, by := range []int{1, 1, 1, 2, 2} {
		if x.Runs[id].Slots[0] != run(by) {
			t.Errorf("run %d has %v", id+1, x.Runs[id].Slots[0])
		}
	}
}

func TestP72AStepThatLinks(t *testing.T) {
	both := func(x *impl.World, r *impl.Run) { x.Runs[0].Links, x.Runs[1].Links = []int{2}, []int{1} }
	for _, c := range []struct {
		what, letters, ties string
		to                  int
		change              func(*impl.World, *impl.Run)
	}{
		{"linked", "gg", "", 2, both},
		{"with one that waits", "gn", "", 2, both},
		{"with one that waits for a time", "gt", "", 2, both},
		{"behind other links", "gggg", "1-4 3-4 3-2", 3, func(x *impl.World, r *impl.Run) {
			x.Runs[0].Links, x.Runs[2].Links = []int{4, 3}, []int{4, 2, 1}
		}},
		{"the last of all", "gggggg", "1-6 5-1 1-4 1-3 2-6", 2, func(x *impl.World, r *impl.Run) {
			x.Runs[0].Links, x.Runs[1].Links = []int{6, 5, 4, 3, 2}, []int{6, 1}
		}},
		{"a second time", "gggg", "1-2 1-3 3-4", 3, nothingElse},
		{"a second time, from the other side", "ggg", "3-1 2-1", 3, nothingElse},
		{"watching is not being linked", "gg", "1>2 2>1", 2, both},
		{"who traps is linked", "gg", "1! 2!", 2, both},
		{"with itself", "gg", "", 1, nothingElse},
		{"with one that ended", "geg", "", 2, nothingElse},
		{"with one that there is not", "ggg", "", 4, nothingElse},
		{"with the last number", "ggg", "", 6, nothingElse},
	} {
		for slot := range 4 {
			w := desk(t, fmt.Sprintf("link %d", slot), c.letters, c.ties)
			w.Runs[0].Slots[slot] = run(c.to)
			x := checkStepIs(t, c.what, w, c.change)
			x.Runs[0].At = deskStep
			if y := checkStep(t, x); !slices.Equal(y.Runs[0].Links, x.Runs[0].Links) || y.Sent != w.Sent {
				t.Errorf("%s, and once more: %+v", c.what, y)
			}
		}
	}
}

func TestP72AStepThatWatches(t *testing.T) {
	watches := func(x *impl.World, r *impl.Run) { x.Runs[1].Watched = []int{1} }
	told := func(id int) func(*impl.World, *impl.Run) {
		return func(x *impl.World, r *impl.Run) { r.Mail, x.Sent = append(r.Mail, run(id)), x.Sent+1 }
	}
	for _, c := range []struct {
		what, letters, ties string
		to                  int
		change              func(*impl.World, *impl.Run)
	}{
		{"watches", "gg", "", 2, watches},
		{"one that waits", "gr", "", 2, watches},
		{"behind others that watch", "gggg", "4>3 2>3 1>2", 3, func(x *impl.World, r *impl.Run) { x.Runs[2].Watched = []int{4, 2, 1} }},
		{"the last of all", "gggggg", "6>2 3>2 5>2 4>2", 2, func(x *impl.World, r *impl.Run) { x.Runs[1].Watched = []int{6, 3, 5, 4, 1} }},
		{"a second time", "ggg", "1>3 2>3", 3, nothingElse},
		{"is watched, and linked", "gg", "2>1 1-2", 2, watches},
		{"itself", "gg", "", 1, nothingElse},
		{"one that ended", "geg", "", 2, told(2)},
		{"one that there is not", "ggg", "", 4, told(4)},
		{"the last number", "g", "", 6, told(6)},
	} {
		for slot := range 4 {
			w := desk(t, fmt.Sprintf("watch %d", slot), c.letters, c.ties)
			w.Runs[0].Slots[slot] = run(c.to)
			checkStepIs(t, c.what, w, c.change)
		}
	}
	for many := 0; many <= 12; many++ {
		w := mailed(desk(t, "watch 2", "ge", "", name(9), name(9), run(2)), 1, slices.Repeat([]impl.Val{num(1)}, many)...)
		checkStepIs(t, "room", w, func(x *impl.World, r *impl.Run) {
			if many < 12 {
				told(2)(x, r)
			} else {
				x.Sent, x.Lost = x.Sent+1, x.Lost+1
			}
		})
	}
}

// Who watches, and who is linked and traps, is told behind it; who is linked falls.
func TestP72WhatComesOfIt(t *testing.T) {
	for _, c := range []struct {
		step  string
		traps bool
		ends  bool
		mail  []impl.Val
	}{
		{"watch 3", false, false, []impl.Val{run(2)}},
		{"watch 3", true, false, []impl.Val{run(2)}},
		{"link 3", false, true, nil},
		{"link 3", true, false, []impl.Val{run(2)}},
	} {
		for to := 2; to <= 3; to++ {
			w := desk(t, c.step, "ggg", "", name(9), name(9), name(9), run(to))
			w.Runs[0].Trap = c.traps
			x := impl.FallEnd(checkStep(t, w), 2, num(4))
			r := x.Runs[0]
			if to == 3 && (r.State != impl.RunGoing || len(r.Mail) != 0) {
				t.Errorf("%s with another one: %+v", c.step, r)
			}
			if to == 2 && ((r.State == impl.RunEnded) != c.ends || !slices.Equal(r.Mail, c.mail)) {
				t.Errorf("%s: %+v", c.step, r)
			}
		}
	}
}

// How far one comes in a turn from the first step on, and in which state it is then.
func TestP73SoManyStepsOfATurn(t *testing.T) {
	for _, c := range []struct {
		text      string
		at, state int
	}{
		{"take 1 0|go 0", 0, impl.RunWaiting},
		{"set 1 n1|take 2 0|go 0", 1, impl.RunWaiting},
		{"set 1 n1|set 2 n1|take 2 0|go 0", 2, impl.RunWaiting},
		{"set 1 n1|set 2 n1|set 3 n1|take 2 0|go 0", 3, impl.RunGoing},
		{"after 1 0 0 n1|go 0", 0, impl.RunWaiting},
		{"end 0", 0, impl.RunEnded},
		{"set 1 n1|end 1", 1, impl.RunEnded},
		{"set 1 n1|set 2 n1|end 2", 2, impl.RunEnded},
		{"set 1 n1|set 2 n1|set 3 n1|end 3", 3, impl.RunGoing},
		{"set 1 n1|set 2 n1|set 3 n1|set 1 n2|set 1 n3|end 3", 3, impl.RunGoing},
		{"set 1 n1|add 1 0|go 0", 1, impl.RunEnded},
		{"go 0", 0, impl.RunGoing},
		{"go 2|go 0|go 1", 0, impl.RunGoing},
		{"go 3|go 2|end 0|go 1", 2, impl.RunGoing},
		{"self 1|send 1 1|take 2 3|take 3 0|go 0", 3, impl.RunGoing},
		{"self 1|watch 1|link 1|end 1", 3, impl.RunGoing},
	} {
		w, _ := impl.WorldNew(byBars(t, c.text))
		x := checkTurn(t, w)
		if r := x.Runs[0]; r.At != c.at || r.State != c.state || r.Turns != 1 || len(x.Queue) == 0 != (c.state != impl.RunGoing) {
			t.Errorf("%s: %+v", c.text, x)
		}
	}
}

func TestP73TurnsAreCountedToTheirBound(t *testing.T) {
	for _, step := range []string{"go 5", "take 1 0", "end 1", "send 1 1", "add 1 0"} {
		for _, turns := range []int{0, 1, 9997, 9998, 9999} {
			w := desk(t, step, "gg", "")
			w.Runs[0].Turns, w.Runs[1].Turns = turns, turns
			x := checkTurn(t, w)
			if x.Runs[0].Turns != min(turns+1, 9999) || x.Runs[1].Turns != turns {
				t.Errorf("%s, behind %d turns: %+v", step, turns, x)
			}
			if y := checkStep(t, w); y.Runs[0].Turns != turns {
				t.Errorf("%s is no turn: %+v", step, y)
			}
		}
	}
}

// Three begun in one turn stand behind all others, and have turns in their order, ahead of the one that began them.
func TestP73WhoBeganOthersIsTheLast(t *testing.T) {
	w, _ := impl.WorldNew(byBars(t, "begin 1 3|begin 2 4|begin 3 3|go 3|take 1 0|go 4"))
	x := checkTurn(t, w)
	if !slices.Equal(x.Queue, []int{2, 3, 4, 1}) || len(x.Runs) != 4 || !slices.Equal(x.Runs[0].Slots, []impl.Val{run(1), run(2), run(3), run(4)}) {
		t.Fatalf("%+v", x)
	}
	for id, at := range []int{3, 3, 4, 3} {
		if r := x.Runs[id]; r.At != at || r.Id != id+1 || r.State != impl.RunGoing || r.Slots[0] != run(1) {
			t.Errorf("run %d is %+v", id+1, r)
		}
	}
	if x = checkTurn(t, checkTurn(t, x)); !slices.Equal(x.Queue, []int{4, 1, 2}) || x.Runs[2].State != impl.RunWaiting {
		t.Errorf("%+v", x)
	}
}

// Three that wait are given something in one turn: they go on in that order, behind who was to go on, and ahead of who gave.
func TestP73WhoGaveToOthersIsTheLast(t *testing.T) {
	for _, to := range orders([]int{2, 3, 5}) {
		w := hall(t, "gaaga", "")
		w.Code = byBars(t, "take 1 0|set 2 n0|set 3 n0|send 1 1|send 2 2|send 3 3|go 0")
		for i := range w.Runs {
			w.Runs[i].At = 0
		}
		w.Runs[0].At = 3
		copy(w.Runs[0].Slots[1:], []impl.Val{run(to[0]), run(to[1]), run(to[2])})
		x := checkTurn(t, w)
		if !slices.Equal(x.Queue, append(append([]int{4}, to...), 1)) || x.Sent != w.Sent+3 {
			t.Errorf("%v: to go on are %v", to, x.Queue)
		}
	}
}

// Who waits, or ended, in its turn, is not to go on, and the next one has no part of that turn.
func TestP73TheNextOneDoesNothing(t *testing.T) {
	for _, step := range []string{"take 1 0", "after 1 0 6 n1", "end 1", "add 1 0", "link 1"} {
		w := desk(t, step, "gggg", "")
		x := checkTurn(t, w)
		if !slices.Equal(x.Queue, []int{2, 3, 4}) {
			t.Errorf("%s: to go on are %v", step, x.Queue)
		}
		for i := 1; i < 4; i++ {
			if !sameRun(x.Runs[i], w.Runs[i]) {
				t.Errorf("%s: %+v was %+v", step, x.Runs[i], w.Runs[i])
			}
		}
	}
}

// One to six that are to go on, in any order, each by steps of another sort.
func TestP74EachHasATurn(t *testing.T) {
	for many := 1; many <= 6; many++ {
		w := hall(t, "gggggg"[:many], "")
		w.Code = byBars(t, "if 0 7 n0|self 1|send 1 1|after 2 1 0 n3|begin 3 0|take 1 0|go 0|link 0|watch 0|end 0")
		for i, at := range []int{1, 3, 7, 5, 0, 6}[:many] {
			w.Runs[i].At = at
		}
		mustBeWorld(t, "fair", w)
		for _, queue := range orders(span(1, many)) {
			w.Queue = queue
			checkFair(t, w)
		}
	}
}

// checkFair lets as many turns be had as are to go on: each of these had one, or ended.
func checkFair(t *testing.T, w impl.World) {
	t.Helper()
	x := w
	for range w.Queue {
		x = checkTurn(t, x)
	}
	for _, id := range w.Queue {
		was, is := w.Runs[id-1], x.Runs[id-1]
		if is.State != impl.RunEnded && is.Turns < min(was.Turns+1, 9999) {
			t.Fatalf("%d had no turn: %+v was %+v", id, x, w)
		}
	}
}

func TestP74EachHasATurnInAnyWorld(t *testing.T) {
	for _, w := range throwWorlds(t, 74, 500) {
		checkFair(t, w)
	}
	seen := 0
	played(t, 74, 40, 30, func(w impl.World) {
		if seen++; seen%4 == 0 {
			checkFair(t, w)
		}
	})
}

func TestP74TurnsGoAroundInOrder(t *testing.T) {
	w := hall(t, "gggggg", "")
	w.Code = byBars(t, "go 0")
	for i := range w.Runs {
		w.Runs[i].At = 0
	}
	for _, queue := range [][]int{{1, 2, 3, 4, 5, 6}, {3, 1, 6, 2, 5, 4}} {
		w.Queue = queue
		x, want := w, slices.Clone(queue)
		for range 20 {
			want = append(want[1:], want[0])
			if x = checkTurn(t, x); !slices.Equal(x.Queue, want) {
				t.Fatalf("to go on are %v, not %v", x.Queue, want)
			}
		}
	}
}

// checkWhen holds TurnWhen of each number to where that stands in Queue.
func checkWhen(t *testing.T, w impl.World) {
	t.Helper()
	for id := -1; id <= 8; id++ {
		want := 0
		for i, n := range w.Queue {
			if n == id {
				want = i + 1
			}
		}
		if got := impl.TurnWhen(w, id); got != want {
			t.Fatalf("TurnWhen of %d, of %+v, is %d, not %d", id, w, got, want)
		}
	}
}

func TestP75WhenOneHasATurn(t *testing.T) {
	w := hall(t, "gangeg", "")
	w.Queue = []int{4, 6, 1}
	for id, want := range map[int]int{4: 1, 6: 2, 1: 3, 2: 0, 3: 0, 5: 0, 0: 0, 7: 0, -1: 0, math.MaxInt: 0, math.MinInt: 0} {
		if got := impl.TurnWhen(w, id); got != want {
			t.Errorf("TurnWhen of %d is %d, not %d", id, got, want)
		}
	}
	for _, queue := range orders([]int{1, 2, 3, 4, 5, 6}) {
		w := hall(t, "gggggg", "")
		w.Queue = queue
		checkWhen(t, w)
	}
	for _, w := range throwWorlds(t, 75, 500) {
		checkWhen(t, w)
	}
	first, _ := impl.WorldNew(byBars(t, "go 0"))
	checkWhen(t, first)
}

func TestP75WhenItIsBehindATurn(t *testing.T) {
	held := 0
	played(t, 75, 60, 40, func(w impl.World) {
		x := impl.TurnDo(w)
		if len(endedMore(w, x)) > 0 {
			return
		}
		for _, r := range w.Runs {
			if was := impl.TurnWhen(w, r.Id); was > 1 {
				held++
				if is := impl.TurnWhen(x, r.Id); is != was-1 {
					t.Fatalf("%d had its turn behind %d, and then behind %d: %+v", r.Id, was, is, x)
				}
			}
		}
		if len(w.Queue) == 0 {
			return
		}
		if first := x.Runs[w.Queue[0]-1]; impl.TurnWhen(x, first.Id) != 0 && impl.TurnWhen(x, first.Id) != len(x.Queue) || first.State != impl.RunGoing && impl.TurnWhen(x, first.Id) != 0 {
			t.Fatalf("who had a turn has the next one so: %+v", x)
		}
	})
	if held < 500 {
		t.Errorf("just %d were held", held)
	}
}

// Another one ends ahead of it, by the turn of the first one: it is two less.
func TestP75WhenAnotherOneEnds(t *testing.T) {
	w := desk(t, "end 1", "gggg", "1-2")
	x := checkTurn(t, w)
	for id, want := range []int{0, 0, 1, 2} {
		if got := impl.TurnWhen(x, id+1); got != want {
			t.Errorf("TurnWhen of %d is %d, not %d", id+1, got, want)
		}
	}
}

// dueWorld is a world in which runs wait till these times (0 is for ever, -2 goes, -3 ended).
func dueWorld(t *testing.T, now int, times ...int) impl.World {
	t.Helper()
	letters := ""
	for _, due := range times {
		letters += map[int]string{0: "n", -2: "g", -3: "e"}[due]
		if due > 0 {
			letters += "t"
		}
	}
	w := hall(t, letters, "")
	w.Now = now
	for i, due := range times {
		w.Runs[i].Due = max(due, 0)
	}
	if !okWorldByHand(w) {
		t.Fatalf("by hand %v at %d is not ok", times, now)
	}
	return w
}

func TestP76WhoseTimeIsOverGoes(t *testing.T) {
	for _, c := range []struct {
		times []int
		over  []int
		queue []int
	}{
		{[]int{-2}, nil, []int{1}},
		{[]int{0}, nil, nil},
		{[]int{-3}, nil, nil},
		{[]int{6}, []int{1}, []int{1}},
		{[]int{7}, nil, nil},
		{[]int{104}, nil, nil},
		{[]int{6, 6, 6, 6, 6, 6}, []int{1, 2, 3, 4, 5, 6}, []int{1, 2, 3, 4, 5, 6}},
		{[]int{6, -2, 6, 0, 7, 6}, []int{1, 3, 6}, []int{2, 1, 3, 6}},
		{[]int{-2, 6, -3, 7, 6, -2}, []int{2, 5}, []int{1, 6, 2, 5}},
		{[]int{7, 8, 9, 0, -2, -3}, nil, []int{5}},
	} {
		w := dueWorld(t, 5, c.times...)
		x, want := checkTick(t, w), keptWorld(w)
		want.Now, want.Queue = 6, c.queue
		for _, id := range c.over {
			want.Runs[id-1].State, want.Runs[id-1].Due = impl.RunGoing, -1
		}
		if !sameWorld(x, want) {
			t.Errorf("%v: TurnTick is %+v, not %+v", c.times, x, want)
		}
	}
}

// They go on behind all others, however these stand, in ascending order, whatever the order in which they began to wait.
func TestP76TheOrderInWhichTheyGoOn(t *testing.T) {
	for _, queue := range orders([]int{2, 4, 5}) {
		w := dueWorld(t, 40, 41, -2, 41, -2, -2, 41)
		w.Queue = queue
		if x := checkTick(t, w); !slices.Equal(x.Queue, append(slices.Clone(queue), 1, 3, 6)) {
			t.Errorf("%v: to go on are %v", queue, x.Queue)
		}
	}
	w, _ := impl.WorldNew(byBars(t, "begin 1 2|go 3|after 1 0 2 n2|after 1 0 3 n3|go 3"))
	w = checkTurn(t, checkTick(t, checkTurn(t, w)))
	if w.Runs[0].Due != 3 || w.Runs[1].Due != 3 {
		t.Fatalf("%+v", w)
	}
	if w = checkTick(t, checkTick(t, w)); !slices.Equal(w.Queue, []int{1, 2}) {
		t.Errorf("to go on are %v", w.Queue)
	}
}

// What goes, or ended, with a time that is told, is not touched when that comes.
func TestP76JustThoseThatWait(t *testing.T) {
	for _, state := range []int{impl.RunGoing, impl.RunEnded} {
		for _, due := range []int{-1, 0, 5, 6, 7} {
			w := hall(t, "ge", "")
			w.Now = 5
			w.Runs[state/2].Due = due
			x, want := checkTick(t, w), keptWorld(w)
			want.Now = 6
			if !sameWorld(x, want) {
				t.Errorf("state %d, till %d: %+v", state, due, x)
			}
		}
	}
}

// With links, watchers, and mail that does not fit, all else is as it was.
func TestP76AllElseIsAsItWas(t *testing.T) {
	w := mailed(mailed(hall(t, "tgtnet", "1-2 1-3 3>1 6>1 3!"), 1, num(1), name(2)), 4, name(3))
	w.Runs[0].Turns, w.Now = 55, stageNow+8
	x, want := checkTick(t, w), keptWorld(w)
	want.Now, want.Queue = stageNow+9, []int{2, 1, 3, 6}
	for _, i := range []int{0, 2, 5} {
		want.Runs[i].State, want.Runs[i].Due = impl.RunGoing, -1
	}
	if !sameWorld(x, want) {
		t.Errorf("%+v, not %+v", x, want)
	}
}

func TestP76AndP82TheLastTime(t *testing.T) {
	for _, now := range []int{0, 1, 248, 249, 250, 251, 299, 300} {
		w := dueWorld(t, now, now+1, -2, 0, now+2, -3)
		x := checkTick(t, w)
		if now >= 250 {
			if !sameWorld(x, w) {
				t.Errorf("at %d: %+v", now, x)
			}
			continue
		}
		if x.Now != now+1 || !slices.Equal(x.Queue, []int{2, 1}) || x.Runs[0].Due != -1 {
			t.Errorf("at %d: %+v", now, x)
		}
	}
}

// Behind so much time as the longest that is waited for each that waited for a time goes on; at 250 time is over.
func TestP77EachThatWaitedForATimeGoesOn(t *testing.T) {
	for _, now := range []int{0, 17, 149, 150, 151, 160} {
		w := dueWorld(t, now, now+99, now+1, -2, now+50, now+99, 0)
		x := w
		for gone := 1; gone <= 99; gone++ {
			x = checkTick(t, x)
			if x.Now != min(now+gone, 250) {
				t.Fatalf("behind %d ticks from %d on it is %d", gone, now, x.Now)
			}
		}
		want := []int{3, 2, 4, 1, 5}
		if now+99 > 250 {
			want = []int{3, 2, 4}
		}
		if !slices.Equal(x.Queue, want) || x.Runs[5].State != impl.RunWaiting {
			t.Errorf("from %d on: %+v", now, x)
		}
	}
}

func TestP77EachThatWaitedInPlays(t *testing.T) {
	held, seen := 0, 0
	played(t, 77, 40, 40, func(w impl.World) {
		var waited []int
		longest := w.Now
		for _, r := range w.Runs {
			if r.State == impl.RunWaiting && r.Due > 0 {
				waited = append(waited, r.Id)
				longest = max(longest, r.Due)
			}
		}
		if seen++; len(waited) == 0 || longest > 250 || seen%3 > 0 {
			return
		}
		x := w
		for range longest - w.Now {
			x = impl.TurnTick(x)
		}
		if x.Now != longest || !slices.Equal(slices.Sorted(slices.Values(x.Queue[len(w.Queue):])), waited) {
			t.Fatalf("%v waited till %d: %+v", waited, longest, x)
		}
		for _, id := range waited {
			if x.Runs[id-1].Due != -1 || x.Runs[id-1].State != impl.RunGoing {
				t.Fatalf("%d waited: %+v", id, x)
			}
		}
		held++
	})
	if held < 50 {
		t.Errorf("just %d worlds were held", held)
	}
}

func TestP82TwoTicks(t *testing.T) {
	for _, base := range throwWorlds(t, 82, 600) {
		x := checkTick(t, checkTick(t, base))
		if more := x.Now - base.Now; more != max(0, min(2, 250-base.Now)) {
			t.Fatalf("behind two ticks it is %d, and was %d", x.Now, base.Now)
		}
		for i, was := range base.Runs {
			if is := x.Runs[i]; was.State != impl.RunWaiting && !sameRun(is, was) {
				t.Fatalf("%+v was %+v", is, was)
			}
		}
		if !slices.Equal(x.Queue[:len(base.Queue)], base.Queue) || x.Sent != base.Sent || x.Taken != base.Taken || x.Lost != base.Lost {
			t.Fatalf("%+v was %+v", x, base)
		}
	}
}

func TestP78AStepThatGoes(t *testing.T) {
	for to := range 12 {
		w := desk(t, fmt.Sprintf("go %d", to), "gg", "1-2")
		checkStepIs(t, "go", w, func(x *impl.World, r *impl.Run) { r.At = to })
	}
}

// All values against all: just the same one goes.
func TestP78AStepThatGoesIf(t *testing.T) {
	near := append(edgeVals(), num(1), name(1), num(6), name(6), num(9))
	for slot := range 4 {
		for _, asked := range near {
			for _, had := range near {
				w := desk(t, fmt.Sprintf("if %d 6 %s", slot, handVals[asked]), "g", "", num(50), num(51), num(52), num(53))
				w.Runs[0].Slots[slot] = had
				checkStepIs(t, "if", w, func(x *impl.World, r *impl.Run) {
					if had == asked {
						r.At = deskElse
					}
				})
			}
		}
	}
}

func TestP78AStepThatTraps(t *testing.T) {
	for n := range 2 {
		for _, was := range []bool{false, true} {
			for id := 1; id <= 2; id++ {
				w := seated(desk(t, fmt.Sprintf("trap n%d", n), "gg", "1-2"), id)
				w.Runs[0].Trap, w.Runs[1].Trap = was, was
				checkStepIs(t, "trap", w, func(x *impl.World, r *impl.Run) { r.Trap = n == 1 })
			}
		}
	}
}

func TestP79AStepThatEnds(t *testing.T) {
	for slot := range 4 {
		for _, v := range append(edgeVals(), name(1), num(1), run(3)) {
			w := desk(t, fmt.Sprintf("end %d", slot), "ggrntg", steady, num(50), num(51), num(52), num(53))
			w.Runs[0].Slots[slot] = v
			w = mailed(w, 1, num(4), name(4))
			gone := []int{1, 2}
			if v == name(0) {
				gone = []int{1}
			}
			checkStepEnds(t, "end", w, v, gone...)
		}
	}
	w := desk(t, "end 1", "ggrntg", steady, num(50), name(0))
	x := checkStep(t, w)
	if !slices.Equal(x.Queue, []int{2, 6, 3}) || !slices.Equal(x.Runs[2].Mail, []impl.Val{run(1)}) || len(x.Runs[1].Links) != 1 {
		t.Errorf("a normal end: %+v", x)
	}
}

func TestP80NobodyIsToGoOn(t *testing.T) {
	for _, letters := range []string{"a", "e", "n", "t", "rae", "ntaern", "eeeeee"} {
		w := hall(t, letters, "")
		if x, y := checkStep(t, w), checkTurn(t, w); !sameWorld(x, w) || !sameWorld(y, w) {
			t.Errorf("%s: %+v, and %+v", letters, x, y)
		}
	}
	held := 0
	played(t, 80, 60, 40, func(w impl.World) {
		if len(w.Queue) > 0 {
			return
		}
		held++
		if !sameWorld(impl.TurnStep(w), w) || !sameWorld(impl.TurnDo(w), w) {
			t.Fatalf("%+v changed", w)
		}
	})
	if held < 100 {
		t.Errorf("just %d worlds were held", held)
	}
}

// By a turn that goes on, waits, ends with another one, wakes one, or begins one: who was to go on is still, in order, and nobody else had a turn.
func TestP81TheOthersInTheirOrder(t *testing.T) {
	for _, queue := range orders([]int{2, 3, 4}) {
		for step, want := range map[string][]int{
			"go 4":      slices.Concat(queue, []int{1}),
			"take 1 0":  queue,
			"end 1":     but(queue, 4),
			"add 1 3":   but(queue, 4),
			"send 3 1":  slices.Concat(queue, []int{5}),
			"begin 2 6": slices.Concat(queue, []int{6}),
			"link 0":    queue,
		} {
			w := desk(t, step, "gggga", "1-4", run(2), num(1), name(9), run(5))
			w.Queue = slices.Concat([]int{1}, queue)
			for i := range w.Runs {
				w.Runs[i].Turns = 10 * i
			}
			x := checkTurn(t, w)
			if !slices.Equal(x.Queue, want) {
				t.Errorf("%s, %v: to go on are %v", step, queue, x.Queue)
			}
			for i, r := range x.Runs {
				if turns := []int{1, 10, 20, 30, 40, 0}[i]; r.Turns != turns {
					t.Errorf("%s: %+v", step, r)
				}
			}
		}
	}
}

// isNoTurn says whether all three answer nothing.
func isNoTurn(w impl.World) bool {
	return isNoWorld(impl.TurnStep(w)) && isNoWorld(impl.TurnDo(w)) && isNoWorld(impl.TurnTick(w))
}

// spoiledDesks are desks that are not ok, each by one thing, and no world at all.
func spoiledDesks(t *testing.T) []impl.World {
	t.Helper()
	worlds := []impl.World{{}}
	for i, spoiled := range []func(*impl.World){
		func(w *impl.World) { w.Now = 301 },
		func(w *impl.World) { w.Now = -1 },
		func(w *impl.World) { w.Now = stageNow + 9 },
		func(w *impl.World) { w.Sent++ },
		func(w *impl.World) { w.Lost = -1 },
		func(w *impl.World) { w.Queue = append(w.Queue, 1) },
		func(w *impl.World) { w.Queue = append(w.Queue, 9) },
		func(w *impl.World) { w.Queue = []int{5, 1} },
		func(w *impl.World) { w.Queue = nil },
		func(w *impl.World) { w.Code = w.Code[:4] },
		func(w *impl.World) { w.Code = nil },
		func(w *impl.World) { w.Code[deskStep] = impl.Op{Kind: 15} },
		func(w *impl.World) { w.Code[deskStep] = impl.Op{Kind: impl.OpGo, To: 12} },
		func(w *impl.World) { w.Runs[0].At = 12 },
		func(w *impl.World) { w.Runs[0].At = -1 },
		func(w *impl.World) { w.Runs[0].Full, w.Runs[0].Slots[3] = 7, impl.Val{} },
		func(w *impl.World) { w.Runs[0].Slots = nil },
		func(w *impl.World) { w.Runs[0].Links = nil },
		func(w *impl.World) { w.Runs[0].Turns = 10000 },
		func(w *impl.World) { w.Runs[0].Due = -2 },
		func(w *impl.World) { w.Runs[1].Mail, w.Sent = []impl.Val{run(1)}, w.Sent+1 },
		func(w *impl.World) { w.Runs[2].Id = 2 },
		func(w *impl.World) { w.Runs = nil },
	} {
		w := keptWorld(desk(t, "send 1 1", "grgt", "1-2 4>1"))
		spoiled(&w)
		if okWorldByHand(w) {
			t.Fatalf("by hand spoiled %d is ok", i)
		}
		worlds = append(worlds, w)
	}
	return worlds
}

func TestP65AndP75OfAWorldThatIsNotOk(t *testing.T) {
	for i, w := range spoiledDesks(t) {
		if !isNoTurn(w) {
			t.Errorf("spoiled %d: %+v, %+v, %+v", i, impl.TurnStep(w), impl.TurnDo(w), impl.TurnTick(w))
		}
		for id := -1; id <= 9; id++ {
			if when := impl.TurnWhen(w, id); when != 0 {
				t.Errorf("spoiled %d: TurnWhen of %d is %d", i, id, when)
			}
		}
	}
}

func TestP65OfAnyWorldThatIsNotOk(t *testing.T) {
	d := &dice{state: 165}
	for _, base := range throwWorlds(t, 1650, 300) {
		for range 4 {
			w := keptWorld(base)
			d.changeWorld(&w)
			checkStep(t, w)
			checkTurn(t, w)
			checkTick(t, w)
			if !okWorldByHand(w) && (!isNoTurn(w) || impl.TurnWhen(w, base.Runs[0].Id) != 0) {
				t.Fatalf("%+v is not ok", w)
			}
		}
	}
}

// With as much sent as may be: of the first three nothing, but when one has a turn is told all the same.
func TestP65AndP75WithMuchSent(t *testing.T) {
	for _, sent := range []int{0, 8998, 8999, 9000, 9001, 9899, 9900, 9990, 9999} {
		for _, step := range []string{"send 1 1", "end 1", "go 5", "take 1 1"} {
			w := desk(t, step, "ggt", "1-2", num(50), run(1))
			w.Sent, w.Taken, w.Lost = sent, sent/3, sent-sent/3
			checkStep(t, w)
			checkTurn(t, w)
			checkTick(t, w)
			checkWhen(t, w)
			if isNoTurn(w) != (sent >= 9000) || isNoWorld(impl.TurnTick(w)) != (sent >= 9000) || isNoWorld(impl.TurnDo(w)) != (sent >= 9000) {
				t.Errorf("%d sent: %+v", sent, impl.TurnStep(w))
			}
		}
		nobody := hall(t, "nae", "")
		nobody.Sent, nobody.Taken, nobody.Lost = sent, sent, 0
		if isNoTurn(nobody) != (sent >= 9000) {
			t.Errorf("%d sent, nobody is to go on: %+v", sent, impl.TurnStep(nobody))
		}
	}
}

// A turn that began is done to its end, though more comes to be sent in it than a further one may begin with.
func TestP73ATurnThatSendsMuch(t *testing.T) {
	w, _ := impl.WorldNew(byBars(t, "send 0 0|send 0 0|send 0 0|go 0"))
	w.Sent, w.Lost = 8999, 8999
	if x := checkTurn(t, w); x.Sent != 9002 || len(x.Runs[0].Mail) != 3 || x.Runs[0].At != 3 || !isNoTurn(x) {
		t.Errorf("%+v", x)
	}
}

func TestTurnConstants(t *testing.T) {
	got := []int{impl.TurnSteps, impl.FallNormal, impl.EndSum, impl.EndAddress}
	if !slices.Equal(got, []int{3, 0, 1, 2}) {
		t.Errorf("%v", got)
	}
}

// turnsOf are all worlds that are answered of one.
func turnsOf(w impl.World) []impl.World {
	return []impl.World{impl.TurnStep(w), impl.TurnDo(w), impl.TurnTick(w), impl.TurnStep(w), impl.TurnDo(w), impl.TurnTick(w)}
}

func TestP66WhatIsHandedInIsNotWrittenInto(t *testing.T) {
	worlds := throwWorlds(t, 66, 500)
	played(t, 66, 20, 20, func(w impl.World) { worlds = append(worlds, w) })
	for i, w := range worlds {
		if i%12 == 11 {
			w.Now = 301
		}
		inside, same := settled(w)
		impl.TurnWhen(inside, 1)
		answers := turnsOf(inside)
		if !same() {
			t.Fatalf("%+v was written into", w)
		}
		for _, answer := range answers {
			spoilWorld(answer)
			if !same() {
				t.Fatalf("an answer shares memory with %+v", w)
			}
		}
	}
}

// mustBeApart asks that none of these answers shares memory with another one.
func mustBeApart(t *testing.T, w impl.World, answers []impl.World) {
	t.Helper()
	var kept []impl.World
	for _, x := range answers {
		kept = append(kept, keptWorld(x))
	}
	for i, x := range answers {
		spoilWorld(x)
		for j := i + 1; j < len(answers); j++ {
			if !sameWorld(answers[j], kept[j]) {
				t.Fatalf("answers %d and %d of %+v share memory", i, j, w)
			}
		}
	}
}

func TestP66AnswersShareNoMemoryWithEachOther(t *testing.T) {
	for _, w := range throwWorlds(t, 661, 200) {
		mustBeApart(t, w, turnsOf(w))
	}
}

// sharingDesk is a desk whose runs have lists that share their memory, whatever run they are of, and that with these.
func sharingDesk(t *testing.T, step string, ids []int, vals []impl.Val) impl.World {
	t.Helper()
	w := desk(t, step, "gggr", "")
	for i := range 3 {
		r := &w.Runs[i]
		r.Slots, r.Mail, r.Links, r.Watched = vals, vals[:3], ids[i+1:i+3], ids[i+1:i+3]
	}
	w.Queue, w.Sent, w.Now = ids[:3], w.Sent+9, stageNow
	mustBeWorld(t, "lists that share memory", w)
	return w
}

// mustShareNone asks that no two lists of one answer share memory.
func mustShareNone(t *testing.T, what string, answer func() impl.World) {
	t.Helper()
	many, _ := listsOf(answer())
	for i := range many {
		spoils, same := listsOf(answer())
		spoils[i]()
		for j, is := range same {
			if i != j && !is() {
				t.Errorf("%s: lists %d and %d of the answer share memory", what, i, j)
			}
		}
	}
}

// The lists that are handed in share their memory, whatever run they are of; those of an answer must share none all the same.
func TestP66ListsOfOneAnswerShareNoMemory(t *testing.T) {
	ids := []int{1, 2, 3, 1, 2}
	vals := []impl.Val{run(2), run(3), run(2), num(4)}
	for _, step := range []string{"set 1 n1", "add 3 3", "add 1 3", "self 2", "begin 1 6", "send 0 3", "take 1 3", "take 1 2", "after 1 1 6 n1", "go 6", "link 0", "watch 0", "watch 1", "trap n1", "end 3"} {
		w := sharingDesk(t, step, ids, vals)
		mustShareNone(t, step+", TurnStep", func() impl.World { return impl.TurnStep(w) })
		mustShareNone(t, step+", TurnDo", func() impl.World { return impl.TurnDo(w) })
		mustShareNone(t, step+", TurnTick", func() impl.World { return impl.TurnTick(w) })
		checkStep(t, w)
		checkTurn(t, w)
		checkTick(t, w)
	}
	if !slices.Equal(ids, []int{1, 2, 3, 1, 2}) || !slices.Equal(vals, []impl.Val{run(2), run(3), run(2), num(4)}) {
		t.Errorf("what was handed in is %v, %v", ids, vals)
	}
}

// Many at once ask of one world: each has the same answer, as nothing is kept, and nothing is written into what they share.
func TestP66ManyAtOnce(t *testing.T) {
	for _, w := range throwWorlds(t, 662, 20) {
		want := turnsOf(w)
		answers := make([][]impl.World, 8)
		var all sync.WaitGroup
		for i := range answers {
			all.Go(func() { answers[i] = turnsOf(w) })
		}
		all.Wait()
		for _, answer := range answers {
			if !slices.EqualFunc(answer, want, sameWorld) {
				t.Fatalf("%+v, not %+v", answer, want)
			}
		}
	}
}
