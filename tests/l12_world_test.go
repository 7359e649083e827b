package tests

import (
	"math"
	"slices"
	"testing"

	"loop.example/errandry/impl"
)

// stageText has a step of each kind at a place to which runs come, and two steps behind them to which nobody comes.
const stageText = "set 1 n5|move 2 1|add 1 1|self 3|begin 3 0|send 3 1|take 2 1|after 2 2 0 n9|link 3|watch 3|trap n1|if 1 13 n10|go 6|end 1|set 1 n1|end 0"

// Places of the stage: one at which all slots must be full, one at which a number is taken, one at which a name is waited for, and one to which nobody comes.
const (
	allPlace   = 5
	takePlace  = 6
	afterPlace = 7
	nonePlace  = 14
)

// stageFull is what is full at each place of the stage.
var stageFull = []int{1, 3, 7, 7, 15, 15, 15, 15, 15, 15, 15, 15, 15, 15, -1, -1}

// stageNow is the time of worlds on the stage.
const stageNow = 20

func runAt(id, at, state int) impl.Run {
	return impl.Run{Id: id, At: at, Slots: []impl.Val{run(1), num(5), name(2), run(2)}, Full: 15, State: state}
}

// Runs of each sort, all with all slots full: one that goes, one that waits for a number for ever, one that waits for a name for a time, and one that ended.
func goes(id int) impl.Run { return runAt(id, allPlace, impl.RunGoing) }

func sleeps(id int) impl.Run { return runAt(id, takePlace, impl.RunWaiting) }

func bides(id int) impl.Run {
	r := runAt(id, afterPlace, impl.RunWaiting)
	r.Due = stageNow + 9
	return r
}

func ended(id int) impl.Run {
	r := runAt(id, 13, impl.RunEnded)
	r.Why = name(3)
	return r
}

func withMail(r impl.Run, mail ...impl.Val) impl.Run {
	r.Mail = mail
	return r
}

// stage is a world of these runs: those that go are to go on, in order, and as much was sent as was taken, was lost, and waits.
func stage(t *testing.T, runs ...impl.Run) impl.World {
	t.Helper()
	w := impl.World{Code: byBars(t, stageText), Runs: runs, Now: stageNow, Taken: 4, Lost: 3}
	for _, r := range runs {
		if r.State == impl.RunGoing {
			w.Queue = append(w.Queue, r.Id)
		}
	}
	w.Sent = 7 + waitsByHand(w)
	return w
}

// crowd is a world with runs of every sort, mail, links, and some who watch.
func crowd(t *testing.T) impl.World {
	t.Helper()
	w := stage(t, withMail(goes(1), num(1), name(1)), withMail(sleeps(2), name(2), run(2), impl.Val{}), ended(3), withMail(bides(4), num(4)), goes(5), sleeps(6))
	w.Runs[0].Links, w.Runs[3].Links, w.Runs[5].Links = []int{4, 6}, []int{1}, []int{1}
	w.Runs[0].Watched, w.Runs[1].Watched = []int{6, 2}, []int{1, 4, 5}
	w.Queue = []int{5, 1}
	return w
}

func waitsByHand(w impl.World) int {
	mail := []impl.Val{}
	for _, r := range w.Runs {
		mail = append(mail, r.Mail...)
	}
	return len(mail)
}

func sameWorld(a, b impl.World) bool {
	return slices.Equal(a.Code, b.Code) && slices.EqualFunc(a.Runs, b.Runs, sameRun) && slices.Equal(a.Queue, b.Queue) &&
		a.Now == b.Now && a.Sent == b.Sent && a.Taken == b.Taken && a.Lost == b.Lost
}

func keptWorld(w impl.World) impl.World {
	w.Code, w.Runs, w.Queue = slices.Clone(w.Code), slices.Clone(w.Runs), slices.Clone(w.Queue)
	for i, r := range w.Runs {
		w.Runs[i] = keptRun(r)
	}
	return w
}

func isNoWorld(w impl.World) bool { return sameWorld(w, impl.World{}) }

// okWorldByHand is what the document says of worlds, worked out apart from the program.
func okWorldByHand(w impl.World) bool {
	if !okCodeByHand(w.Code) || !safeByHand(w.Code) || !within(len(w.Runs), 1, 6) {
		return false
	}
	for i, r := range w.Runs {
		if r.Id != i+1 || !okRunByHand(r) || r.At >= len(w.Code) {
			return false
		}
	}
	for _, n := range []int{w.Sent, w.Taken, w.Lost} {
		if !within(n, 0, 9999) {
			return false
		}
	}
	return within(w.Now, 0, 300) && w.Sent-w.Taken-w.Lost == waitsByHand(w) && okQueueByHand(w) && okTiesByHand(w) && okPlacesByHand(w)
}

func okQueueByHand(w impl.World) bool {
	var going []int
	for _, r := range w.Runs {
		if r.State == 1 {
			going = append(going, r.Id)
		}
	}
	return slices.Equal(slices.Sorted(slices.Values(w.Queue)), going)
}

// okTiesByHand marks each link in a table of pairs, and asks whether it is the same with the numbers exchanged.
func okTiesByHand(w impl.World) bool {
	var linked [7][7]bool
	for _, r := range w.Runs {
		for _, id := range r.Links {
			linked[r.Id][id] = true
		}
		for _, id := range append(slices.Clone(r.Links), r.Watched...) {
			if id > len(w.Runs) {
				return false
			}
		}
	}
	for a := range linked {
		for b := range linked {
			if linked[a][b] != linked[b][a] {
				return false
			}
		}
	}
	return true
}

func okPlacesByHand(w impl.World) bool {
	full := fullByHand(w.Code)
	for _, r := range w.Runs {
		if r.State == 3 {
			continue
		}
		if full[r.At] < 0 || full[r.At]&r.Full != full[r.At] {
			return false
		}
		if r.State == 2 && !waitsRightlyByHand(w.Code[r.At], r, w.Now) {
			return false
		}
	}
	return true
}

func waitsRightlyByHand(o impl.Op, r impl.Run, now int) bool {
	if o.Kind == 7 && r.Due != 0 || o.Kind == 8 && r.Due <= now || o.Kind != 7 && o.Kind != 8 {
		return false
	}
	_, there := firstByHand(r.Mail, o.S)
	return !there
}

// givenByHand is what the document says of giving, worked out apart from the program.
func givenByHand(w impl.World, id int, v impl.Val) impl.World {
	if !okWorldByHand(w) || !okValByHand(v) || w.Sent >= 9990 {
		return impl.World{}
	}
	g := keptWorld(w)
	handOver(&g, id, v)
	return g
}

// handOver gives a run a value, whatever the world is.
func handOver(g *impl.World, id int, v impl.Val) {
	g.Sent++
	if !within(id, 1, len(g.Runs)) || g.Runs[id-1].State == 3 || len(g.Runs[id-1].Mail) == 12 {
		g.Lost++
		return
	}
	r := keptRun(g.Runs[id-1])
	r.Mail = append(r.Mail, v)
	if kind := g.Code[r.At].S; r.State == 2 && (kind == 0 || kind == v.Kind) {
		r.State = 1
		g.Queue = append(g.Queue, id)
	}
	g.Runs[id-1] = r
}

// mustBeWorld asks for an ok world, and that the other functions answer of it as the document says.
func mustBeWorld(t *testing.T, what string, w impl.World) {
	t.Helper()
	if !impl.WorldOk(w) {
		t.Errorf("%s: WorldOk of %+v is false", what, w)
	}
	if n := impl.WorldWaits(w); n != waitsByHand(w) {
		t.Errorf("%s: WorldWaits of %+v is %d, not %d", what, w, n, waitsByHand(w))
	}
	var alive []int
	idle := len(w.Queue) == 0
	for _, r := range w.Runs {
		if r.State != 3 {
			alive = append(alive, r.Id)
		}
		idle = idle && (r.State != 2 || w.Code[r.At].Kind == 7)
	}
	if got := impl.WorldAlive(w); !slices.Equal(got, alive) {
		t.Errorf("%s: WorldAlive of %+v is %v, not %v", what, w, got, alive)
	}
	if got := impl.WorldIdle(w); got != idle {
		t.Errorf("%s: WorldIdle of %+v is %v", what, w, got)
	}
	checkGive(t, what, w, 1, num(1))
}

// mustNotBeWorld holds each function to its one fixed answer at a world that is not ok.
func mustNotBeWorld(t *testing.T, what string, w impl.World) {
	t.Helper()
	if impl.WorldOk(w) {
		t.Errorf("%s: WorldOk of %+v is true", what, w)
	}
	if n := impl.WorldWaits(w); n != -1 {
		t.Errorf("%s: WorldWaits of %+v is %d", what, w, n)
	}
	if alive := impl.WorldAlive(w); len(alive) != 0 {
		t.Errorf("%s: WorldAlive of %+v is %v", what, w, alive)
	}
	if impl.WorldIdle(w) {
		t.Errorf("%s: WorldIdle of %+v is true", what, w)
	}
	for id := -1; id <= 7; id++ {
		if g := impl.WorldGive(w, id, num(1)); !isNoWorld(g) {
			t.Errorf("%s: WorldGive of %+v to %d is %+v", what, w, id, g)
		}
	}
}

// checkWorld holds WorldOk, and what hangs on it, to what is asked; what is worked out by hand must say so, too.
func checkWorld(t *testing.T, what string, w impl.World, want bool) {
	t.Helper()
	if okWorldByHand(w) != want {
		t.Fatalf("%s: by hand %+v is not as asked", what, w)
	}
	if want {
		mustBeWorld(t, what, w)
	} else {
		mustNotBeWorld(t, what, w)
	}
}

// checkGive holds WorldGive to what is worked out by hand, and is what it answered.
func checkGive(t *testing.T, what string, w impl.World, id int, v impl.Val) impl.World {
	t.Helper()
	got, want := impl.WorldGive(w, id, v), givenByHand(w, id, v)
	if !sameWorld(got, want) {
		t.Errorf("%s: WorldGive of %+v to %d of %v is %+v, not %+v", what, w, id, v, got, want)
	}
	if !isNoWorld(want) && !impl.WorldOk(got) {
		t.Errorf("%s: WorldGive of %+v to %d of %v is not ok: %+v", what, w, id, v, got)
	}
	return got
}

func pick[T any](d *dice, list []T) T { return list[d.below(len(list))] }

func (d *dice) slots(r *impl.Run) {
	r.Slots = make([]impl.Val, 4)
	for slot := range r.Slots {
		if r.Full>>slot%2 == 1 {
			r.Slots[slot] = d.val()
		}
	}
}

// placesWhere are the places to which runs come, of all steps, or of those that take.
func placesWhere(code []impl.Op, takes bool) []int {
	var places []int
	for at, full := range fullByHand(code) {
		if full >= 0 && (!takes || code[at].Kind == impl.OpTake || code[at].Kind == impl.OpAfter) {
			places = append(places, at)
		}
	}
	return places
}

// runIn is an ok run of a world with these steps, at this time, linked with nobody.
func (d *dice) runIn(code []impl.Op, id, now int) impl.Run {
	r := impl.Run{Id: id, State: 1 + d.below(3), Due: d.below(402) - 1, Trap: d.below(2) == 0, Turns: d.below(10000)}
	takes := placesWhere(code, true)
	if r.State == impl.RunWaiting && len(takes) == 0 {
		r.State = impl.RunGoing
	}
	if r.State == impl.RunEnded {
		r.At, r.Full, r.Why = d.below(len(code)), d.below(16), d.val()
		d.slots(&r)
		return r
	}
	r.At = pick(d, placesWhere(code, false))
	if r.State == impl.RunWaiting {
		r.At = pick(d, takes)
		r.Due = 0
		if code[r.At].Kind == impl.OpAfter {
			r.Due = now + 1 + d.below(100)
		}
	}
	r.Full = fullByHand(code)[r.At] | d.below(16)
	d.slots(&r)
	for range d.below(13) {
		v := d.val()
		if kind := code[r.At].S; r.State == impl.RunGoing || kind != 0 && kind != v.Kind {
			r.Mail = append(r.Mail, v)
		}
	}
	return r
}

// world is an ok world with these steps.
func (d *dice) world(code []impl.Op) impl.World {
	w := impl.World{Code: code, Now: d.below(301), Taken: d.below(4000), Lost: d.below(4000)}
	for id := range 1 + d.below(6) {
		w.Runs = append(w.Runs, d.runIn(code, id+1, w.Now))
	}
	for i := range w.Runs {
		r := &w.Runs[i]
		if r.State == impl.RunGoing {
			w.Queue = slices.Insert(w.Queue, d.below(len(w.Queue)+1), r.Id)
		}
		for j := range w.Runs {
			other := &w.Runs[j]
			if i == j || r.State == impl.RunEnded {
				continue
			}
			if j < i && other.State != impl.RunEnded && d.below(3) == 0 {
				r.Links = slices.Insert(r.Links, d.below(len(r.Links)+1), other.Id)
				other.Links = slices.Insert(other.Links, d.below(len(other.Links)+1), r.Id)
			}
			if d.below(3) == 0 {
				r.Watched = slices.Insert(r.Watched, d.below(len(r.Watched)+1), other.Id)
			}
		}
	}
	w.Sent = w.Taken + w.Lost + waitsByHand(w)
	return w
}

// throwWorlds are ok worlds, on the stage and with steps that dice throw.
func throwWorlds(t *testing.T, state uint64, many int) []impl.World {
	t.Helper()
	d, codes := &dice{state: state}, safeCodes(t)
	worlds := []impl.World{crowd(t)}
	for i := range many {
		code := byBars(t, stageText)
		if i%3 > 0 {
			code = slices.Clone(pick(d, codes).code)
		}
		w := d.world(code)
		if !okWorldByHand(w) {
			t.Fatalf("by hand %+v is not ok", w)
		}
		worlds = append(worlds, w)
	}
	return worlds
}

func TestTheStageItself(t *testing.T) {
	code := byBars(t, stageText)
	if !safeByHand(code) || !slices.Equal(fullByHand(code), stageFull) {
		t.Fatalf("the stage is safe: %v, full: %v", safeByHand(code), fullByHand(code))
	}
	mustBeWorld(t, "all sorts of runs", crowd(t))
}

func checkNewWorld(t *testing.T, code []impl.Op) {
	t.Helper()
	is := okCodeByHand(code) && safeByHand(code)
	want := impl.World{}
	if is {
		first := impl.Run{Id: 1, Slots: []impl.Val{run(1), {}, {}, {}}, Full: 1, State: 1}
		want = impl.World{Code: code, Runs: []impl.Run{first}, Queue: []int{1}}
	}
	w, ok := impl.WorldNew(code)
	if ok != is || !sameWorld(w, want) {
		t.Errorf("WorldNew(%v) is %+v, %v, not %+v, %v", code, w, ok, want, is)
	}
	checkWorld(t, "new", w, is)
}

func TestP41NewOfSafeStepsAndOfOthers(t *testing.T) {
	for i, c := range manyCodes() {
		if i%7 == 0 || i < 6000 && safeByHand(c.code) {
			checkNewWorld(t, c.code)
		}
	}
	for _, text := range []string{stageText, "end 0", "go 0", "take 1 1|go 0", "end 1", "set 1 n1", "if 0 2 r1|set 2 a1|end 2", "send 0 1|end 0", "end 0|end 3"} {
		checkNewWorld(t, byBars(t, text))
	}
}

func TestP41NewOfStepsThatAreNotOk(t *testing.T) {
	for _, size := range []int{0, 1, 15, 16, 17, 40} {
		checkNewWorld(t, filler(size))
	}
	checkNewWorld(t, nil)
	for _, o := range []impl.Op{{}, {Kind: 15}, {Kind: -1}, {Kind: impl.OpGo, To: 3}, {Kind: impl.OpEnd, R: 4}, {Kind: impl.OpEnd, S: 1}, {Kind: impl.OpTrap, V: num(2)}} {
		for place := range 3 {
			code := filler(3)
			code[place] = o
			checkNewWorld(t, code)
		}
	}
}

func TestP41NewHasOneRunThatHasItself(t *testing.T) {
	w, ok := impl.WorldNew(byBars(t, "take 1 1|go 0"))
	if !ok || len(w.Runs) != 1 || !slices.Equal(w.Queue, []int{1}) || w.Now != 0 || w.Sent != 0 || w.Taken != 0 || w.Lost != 0 {
		t.Fatalf("%+v, %v", w, ok)
	}
	r := w.Runs[0]
	if r.Id != 1 || r.At != 0 || r.State != impl.RunGoing || r.Full != 1 || r.Slots[0] != run(1) {
		t.Errorf("the first run is %+v", r)
	}
}

// Each sort of runs, given a value of each kind, with mail or none ahead of it.
func TestP42AndP43GiveToEachSortOfRuns(t *testing.T) {
	sorts := []func(int) impl.Run{goes, sleeps, bides, ended}
	for i, sort := range sorts {
		for _, v := range edgeVals() {
			for id := 1; id <= 3; id++ {
				runs := []impl.Run{goes(1), goes(2), goes(3)}
				runs[id-1] = sort(id)
				g := checkGive(t, "no mail", stage(t, runs...), id, v)
				wakes := i == 1 && v.Kind == impl.ValNum || i == 2 && v.Kind == impl.ValName
				if is := g.Runs[id-1].State == impl.RunGoing; is != (i == 0 || wakes) {
					t.Errorf("sort %d, given %v: %+v", i, v, g)
				}
				if wakes && (len(g.Queue) != 3 || g.Queue[2] != id) {
					t.Errorf("sort %d, given %v, is not the last to go on: %v", i, v, g.Queue)
				}
			}
		}
	}
	w := crowd(t)
	for id := 1; id <= 6; id++ {
		for _, v := range edgeVals() {
			checkGive(t, "all sorts", w, id, v)
		}
	}
}

// One that waits for a kind, at each of the two steps that take, is given one value of each kind.
func TestP43WhoWaitsForWhatJustCame(t *testing.T) {
	vals := []impl.Val{{}, num(0), name(0), run(1)}
	for kind := 0; kind <= 3; kind++ {
		for _, o := range []impl.Op{{Kind: impl.OpTake, R: 1, S: kind}, {Kind: impl.OpAfter, R: 1, S: kind, To: 1, V: num(3)}} {
			for _, v := range vals {
				w := impl.World{Code: []impl.Op{o, {Kind: impl.OpEnd}}, Runs: []impl.Run{runAt(1, 0, impl.RunWaiting), runAt(2, 1, impl.RunGoing)}, Queue: []int{2}}
				if o.Kind == impl.OpAfter {
					w.Runs[0].Due = 1
				}
				g := checkGive(t, "one that waits", w, 1, v)
				wakes := kind == 0 || kind == v.Kind
				if r := g.Runs[0]; wakes != (r.State == impl.RunGoing) || wakes != slices.Equal(g.Queue, []int{2, 1}) || r.Due != w.Runs[0].Due || !slices.Equal(r.Mail, []impl.Val{v}) {
					t.Errorf("%+v given %v: %+v", o, v, g)
				}
			}
		}
	}
}

func TestP43WhoGoesGoes(t *testing.T) {
	for at, full := range stageFull {
		if full < 0 {
			continue
		}
		w := stage(t, goes(1), runAt(2, at, impl.RunGoing), goes(3))
		for _, v := range edgeVals() {
			g := checkGive(t, "one that goes", w, 2, v)
			if g.Runs[1].State != impl.RunGoing || !slices.Equal(g.Queue, []int{1, 2, 3}) || g.Runs[1].At != at {
				t.Errorf("at %d, given %v: %+v", at, v, g)
			}
		}
	}
}

func TestP42GiveToARunThatThereIsNot(t *testing.T) {
	for many := 1; many <= 6; many++ {
		var runs []impl.Run
		for id := 1; id <= many; id++ {
			runs = append(runs, []impl.Run{goes(id), sleeps(id)}[id%2])
		}
		w := stage(t, runs...)
		for _, id := range append(numbersAround(1, many), 0, -1, many+1) {
			g := checkGive(t, "any number", w, id, num(1))
			if lost := g.Lost - w.Lost; g.Sent != w.Sent+1 || (lost == 1) == within(id, 1, many) {
				t.Errorf("of %d runs to %d: %+v", many, id, g)
			}
		}
	}
}

func TestP42GiveWithNoRoomAndRoomForOne(t *testing.T) {
	for many := 0; many <= 12; many++ {
		for _, r := range []impl.Run{goes(2), sleeps(2), bides(2)} {
			r.Mail = slices.Repeat([]impl.Val{run(3)}, many)
			w := stage(t, goes(1), r)
			for _, v := range []impl.Val{num(7), name(7), run(6), {}} {
				g := checkGive(t, "room", w, 2, v)
				got := g.Runs[1]
				if many == 12 && (g.Lost != w.Lost+1 || !sameRun(got, r) || !slices.Equal(g.Queue, w.Queue)) {
					t.Errorf("with no room: %+v", g)
				}
				if many < 12 && (g.Lost != w.Lost || len(got.Mail) != many+1 || got.Mail[many] != v) {
					t.Errorf("with %d that wait: %+v", many, g)
				}
			}
		}
	}
}

func TestP42GiveOfWhatIsNoValue(t *testing.T) {
	w := crowd(t)
	for _, v := range wrongVals() {
		for id := -1; id <= 7; id++ {
			if g := impl.WorldGive(w, id, v); !isNoWorld(g) {
				t.Errorf("to %d of %v: %+v", id, v, g)
			}
		}
	}
}

func TestP42GiveWithMuchSent(t *testing.T) {
	for _, sent := range []int{0, 1, 8999, 9000, 9899, 9900, 9988, 9989, 9990, 9991, 9998, 9999} {
		for _, id := range []int{1, 2, 3} {
			w := stage(t, goes(1), sleeps(2))
			w.Sent, w.Taken, w.Lost = sent, sent/2, sent-sent/2
			g := checkGive(t, "much sent", w, id, num(1))
			if sent < 9990 && g.Sent != sent+1 || sent >= 9990 && !isNoWorld(g) {
				t.Errorf("with %d sent, to %d: %+v", sent, id, g)
			}
		}
	}
}

func TestP42AllOtherRunsAreAsTheyWere(t *testing.T) {
	d := &dice{state: 42}
	for _, w := range throwWorlds(t, 421, 1500) {
		id, v := d.below(8), d.val()
		g := checkGive(t, "any world", w, id, v)
		for i, r := range g.Runs {
			if r.Id != id && !sameRun(r, w.Runs[i]) {
				t.Fatalf("given to %d: run %d was %+v, is %+v", id, r.Id, w.Runs[i], r)
			}
		}
		if g.Now != w.Now || g.Taken != w.Taken || !slices.Equal(g.Code, w.Code) || !slices.Equal(g.Queue[:len(w.Queue)], w.Queue) {
			t.Fatalf("given to %d: %+v was %+v", id, g, w)
		}
	}
}

func TestP44TwoValuesToTwoRunsInBothOrders(t *testing.T) {
	d := &dice{state: 44}
	for _, w := range throwWorlds(t, 441, 1500) {
		one, other, v, x := 1+d.below(6), 1+d.below(6), d.val(), d.val()
		if one == other {
			continue
		}
		a := impl.WorldGive(impl.WorldGive(w, one, v), other, x)
		b := impl.WorldGive(impl.WorldGive(w, other, x), one, v)
		if !slices.EqualFunc(a.Runs, b.Runs, sameRun) || len(a.Runs) == 0 || a.Sent != b.Sent || a.Lost != b.Lost || a.Sent != w.Sent+2 {
			t.Fatalf("%v to %d, %v to %d: %+v, the other way about %+v", v, one, x, other, a, b)
		}
		if !slices.Equal(slices.Sorted(slices.Values(a.Queue)), slices.Sorted(slices.Values(b.Queue))) {
			t.Fatalf("%v to %d, %v to %d: to go on are %v, the other way about %v", v, one, x, other, a.Queue, b.Queue)
		}
	}
}

func TestP44TwoThatWaitGoOnInTheOrderInWhichTheyWereGiven(t *testing.T) {
	w := stage(t, sleeps(1), goes(2), bides(3))
	a := checkGive(t, "the other", checkGive(t, "one", w, 1, num(1)), 3, name(1))
	b := checkGive(t, "one", checkGive(t, "the other", w, 3, name(1)), 1, num(1))
	if !slices.Equal(a.Queue, []int{2, 1, 3}) || !slices.Equal(b.Queue, []int{2, 3, 1}) || !slices.EqualFunc(a.Runs, b.Runs, sameRun) {
		t.Errorf("%+v, the other way about %+v", a, b)
	}
}

func TestP44TwoValuesToOneRun(t *testing.T) {
	for _, w := range []impl.World{stage(t, goes(1), sleeps(2)), stage(t, goes(1), withMail(sleeps(2), name(9)))} {
		was := w.Runs[1].Mail
		for _, v := range edgeVals() {
			for _, x := range edgeVals() {
				g := checkGive(t, "the second", checkGive(t, "the first", w, 2, v), 2, x)
				if want := append(slices.Clone(was), v, x); !slices.Equal(g.Runs[1].Mail, want) || g.Sent != w.Sent+2 || g.Lost != w.Lost {
					t.Errorf("%v, then %v: %+v", v, x, g)
				}
				if wakes := v.Kind == 1 || x.Kind == 1; wakes != slices.Equal(g.Queue, []int{1, 2}) || !wakes && !slices.Equal(g.Queue, []int{1}) {
					t.Errorf("%v, then %v: to go on are %v", v, x, g.Queue)
				}
			}
		}
	}
}

func TestP52AsManyAsThereIsRoom(t *testing.T) {
	for _, base := range []impl.World{stage(t, goes(1)), stage(t, sleeps(1)), stage(t, bides(1), goes(2)), crowd(t)} {
		for _, r := range base.Runs {
			if r.State == impl.RunEnded {
				continue
			}
			w := base
			want := slices.Clone(r.Mail)
			for i := range 20 {
				v := edgeVals()[i%8]
				w = checkGive(t, "one more", w, r.Id, v)
				if len(want) < 12 {
					want = append(want, v)
				}
			}
			room := 12 - len(r.Mail)
			if !impl.WorldOk(w) || !slices.Equal(w.Runs[r.Id-1].Mail, want) || w.Lost != base.Lost+20-room || w.Sent != base.Sent+20 {
				t.Errorf("twenty given to %+v: %+v", r, w)
			}
		}
	}
}

func TestP52WhoCameToGoGoesOnceHoweverMuchComes(t *testing.T) {
	w := stage(t, sleeps(1), sleeps(2), sleeps(3), sleeps(4), sleeps(5), sleeps(6))
	order := []int{4, 4, 2, 6, 4, 2, 1, 1, 3, 5, 6, 3}
	for _, id := range order {
		w = checkGive(t, "all that sleep", w, id, num(id))
	}
	if !slices.Equal(w.Queue, []int{4, 2, 6, 1, 3, 5}) || impl.WorldWaits(w) != 12 {
		t.Errorf("%+v", w)
	}
}

func TestP45Waits(t *testing.T) {
	three := []impl.Val{name(1), run(1), {}}
	for _, c := range []struct {
		w    impl.World
		want int
	}{
		{stage(t, goes(1)), 0},
		{stage(t, goes(1), sleeps(2), bides(3), ended(4)), 0},
		{stage(t, withMail(goes(1), three...)), 3},
		{stage(t, ended(1), withMail(sleeps(2), name(1))), 1},
		{stage(t, withMail(goes(1), three...), withMail(sleeps(2), three...), goes(3), withMail(bides(4), num(1))), 7},
		{crowd(t), 6},
		{impl.World{}, -1},
	} {
		if n := impl.WorldWaits(c.w); n != c.want {
			t.Errorf("WorldWaits of %+v is %d, not %d", c.w, n, c.want)
		}
	}
	var full []impl.Run
	for id := 1; id <= 6; id++ {
		full = append(full, withMail(goes(id), slices.Repeat(three, 4)...))
	}
	if n := impl.WorldWaits(stage(t, full...)); n != 72 {
		t.Errorf("of six runs with twelve each: %d", n)
	}
}

func TestP45WhatWasSentIsTakenLostOrWaits(t *testing.T) {
	for _, base := range []impl.World{stage(t, goes(1)), crowd(t)} {
		for sent := -1; sent <= 1; sent++ {
			for taken := -1; taken <= 1; taken++ {
				for lost := -1; lost <= 1; lost++ {
					w := base
					w.Sent, w.Taken, w.Lost = w.Sent+sent, w.Taken+taken, w.Lost+lost
					checkWorld(t, "off by one", w, sent == taken+lost)
				}
			}
		}
	}
	w := stage(t, withMail(goes(1), num(1)))
	w.Runs[0].Mail = nil
	mustNotBeWorld(t, "a value went", w)
	w.Runs[0].Mail = []impl.Val{num(1), num(1)}
	mustNotBeWorld(t, "a value came", w)
}

// orders are all orders of a list.
func orders(list []int) [][]int {
	if len(list) == 0 {
		return [][]int{nil}
	}
	var all [][]int
	for i, first := range list {
		for _, rest := range orders(slices.Concat(list[:i], list[i+1:])) {
			all = append(all, append([]int{first}, rest...))
		}
	}
	return all
}

func TestP46QueueInAnyOrder(t *testing.T) {
	w := stage(t, goes(1), goes(2), goes(3), goes(4), goes(5), goes(6))
	for _, queue := range orders([]int{1, 2, 3, 4, 5, 6}) {
		w.Queue = queue
		mustBeWorld(t, "any order", w)
	}
}

// Of five runs, 1 and 4 go: all lists of at most three numbers, such as there are not among them.
func TestP46QueueIsJustThoseThatGoEachOnce(t *testing.T) {
	w := stage(t, goes(1), sleeps(2), ended(3), goes(4), bides(5))
	lists, from := [][]int{nil}, 0
	for range 3 {
		till := len(lists)
		for _, list := range lists[from:till] {
			for id := -1; id <= 7; id++ {
				lists = append(lists, append(slices.Clone(list), id))
			}
		}
		from = till
	}
	for _, queue := range lists {
		w.Queue = queue
		checkWorld(t, "queue", w, slices.Equal(queue, []int{1, 4}) || slices.Equal(queue, []int{4, 1}))
	}
}

func TestP46QueueWithOneMoreOrTwice(t *testing.T) {
	for _, w := range throwWorlds(t, 46, 400) {
		was := w.Queue
		for id := -1; id <= 7; id++ {
			for place := 0; place <= len(was); place++ {
				w.Queue = slices.Insert(slices.Clone(was), place, id)
				mustNotBeWorld(t, "one more", w)
			}
		}
		for place := range was {
			w.Queue = slices.Delete(slices.Clone(was), place, place+1)
			mustNotBeWorld(t, "one less", w)
		}
		for _, id := range []int{math.MinInt, math.MaxInt, 1 << 32, 1<<32 + 1} {
			w.Queue = append(slices.Clone(was), id)
			mustNotBeWorld(t, "a number that there is not", w)
		}
	}
	w := stage(t, goes(1), goes(2))
	w.Queue = slices.Repeat([]int{1, 2}, 2000)
	mustNotBeWorld(t, "very long", w)
}

func TestP46EachStateHasToDoWithTheQueue(t *testing.T) {
	for state := -1; state <= 5; state++ {
		for _, queue := range [][]int{nil, {1}, {1, 1}} {
			w := stage(t, runAt(1, takePlace, state))
			w.Queue = queue
			checkWorld(t, "state", w, state == 1 && len(queue) == 1 || len(queue) == 0 && (state == 2 || state == 3))
		}
	}
}

// One that waits, at each place of the stage, till each time.
func TestP47WhoWaitsIsAtAStepThatTakes(t *testing.T) {
	for at := range stageFull {
		for _, due := range []int{-1, 0, 1, stageNow - 1, stageNow, stageNow + 1, stageNow + 9, stageNow + 99, 400} {
			r := runAt(1, at, impl.RunWaiting)
			r.Due = due
			checkWorld(t, "one that waits", stage(t, r), at == takePlace && due == 0 || at == afterPlace && due > stageNow)
		}
	}
}

func TestP47TheTimeIsALaterOne(t *testing.T) {
	for _, now := range []int{0, 1, 2, 150, 299, 300} {
		for _, due := range []int{-1, 0, 1, 2, 3, 149, 150, 151, 299, 300, 301, 399, 400} {
			w := stage(t, bides(1), goes(2))
			w.Now, w.Runs[0].Due = now, due
			checkWorld(t, "till a time", w, due > now)
			w.Runs[0] = sleeps(1)
			w.Runs[0].Due = due
			checkWorld(t, "for ever", w, due == 0)
			w.Runs[0] = goes(1)
			w.Runs[0].Due, w.Queue = due, []int{2, 1}
			checkWorld(t, "one that goes", w, true)
			w.Runs[0] = ended(1)
			w.Runs[0].Due, w.Queue = due, []int{2}
			checkWorld(t, "one that ended", w, true)
		}
	}
}

// What waits for one that waits is of a kind that its step takes, ahead of others or behind them, or is not.
func TestP47NobodySleepsOnWhatIsThere(t *testing.T) {
	for kind := 0; kind <= 3; kind++ {
		for _, o := range []impl.Op{{Kind: impl.OpTake, R: 2, S: kind}, {Kind: impl.OpAfter, R: 2, S: kind, To: 1, V: num(9)}} {
			for _, mail := range mailsOf(3) {
				r := withMail(runAt(1, 0, impl.RunWaiting), mail...)
				if o.Kind == impl.OpAfter {
					r.Due = 3
				}
				w := impl.World{Code: []impl.Op{o, {Kind: impl.OpEnd}}, Runs: []impl.Run{r}, Now: 2, Sent: len(mail)}
				fits := slices.ContainsFunc(mail, func(v impl.Val) bool { return kind == 0 || v.Kind == kind })
				checkWorld(t, "one that waits with mail", w, !fits)
				w.Runs = []impl.Run{r}
				w.Runs[0].State, w.Queue = impl.RunGoing, []int{1}
				checkWorld(t, "one that goes with mail", w, true)
			}
		}
	}
}

// S of a step that takes is a kind; that of a step that sends, the same number, is a slot, and nobody waits there.
func TestP47NobodyWaitsElsewhereEvenWithNoMail(t *testing.T) {
	for _, text := range []string{"set 1 n1|end 0", "move 1 0|end 0", "add 0 0|end 0", "send 0 0|end 0", "go 1|end 0", "if 0 1 n1|end 0", "end 0", "begin 1 1|end 0", "trap n0|end 0", "self 1|end 0", "link 0|end 0", "watch 0|end 0"} {
		for _, due := range []int{0, 1, 400} {
			r := runAt(1, 0, impl.RunWaiting)
			r.Due = due
			mustNotBeWorld(t, text, impl.World{Code: byBars(t, text), Runs: []impl.Run{r}})
		}
	}
}

// Of three runs, all ways in which each is linked with others: two bits a run.
func TestP48LinksOneWayAndBothWays(t *testing.T) {
	for bits := range 64 {
		w := stage(t, goes(1), sleeps(2), bides(3))
		both := true
		for i := range w.Runs {
			for k, other := range []int{(i+1)%3 + 1, (i+2)%3 + 1} {
				if bits>>(2*i+k)%2 == 1 {
					w.Runs[i].Links = append(w.Runs[i].Links, other)
				}
			}
		}
		for i, r := range w.Runs {
			for _, id := range r.Links {
				both = both && slices.Contains(w.Runs[id-1].Links, i+1)
			}
		}
		checkWorld(t, "links", w, both)
	}
}

func TestP48LinkedWithOneThatEndedOrThatThereIsNot(t *testing.T) {
	for at, sort := range []func(int) impl.Run{goes, sleeps, bides} {
		for id := -1; id <= 8; id++ {
			w := stage(t, sort(1), ended(2), goes(3))
			w.Runs[0].Links = []int{id}
			mustNotBeWorld(t, "one way", w)
			if within(id, 1, 3) {
				w.Runs[id-1].Links = append(w.Runs[id-1].Links, 1)
				checkWorld(t, "both ways", w, id == 3)
			}
			if at == 0 && id == 3 {
				w.Runs[0].Links = []int{3, 4}
				mustNotBeWorld(t, "and with one that there is not", w)
			}
		}
	}
	w := stage(t, ended(1), goes(2))
	w.Runs[0].Links, w.Runs[1].Links = []int{2}, []int{1}
	mustNotBeWorld(t, "one that ended is linked", w)
}

func TestP48LinksInAnyOrder(t *testing.T) {
	for _, links := range orders([]int{2, 3, 4}) {
		w := stage(t, goes(1), goes(2), sleeps(3), bides(4))
		w.Runs[0].Links = links
		w.Runs[1].Links, w.Runs[2].Links, w.Runs[3].Links = []int{1}, []int{1}, []int{1}
		mustBeWorld(t, "all linked with one", w)
		w.Runs[2].Links = nil
		mustNotBeWorld(t, "one is not linked back", w)
	}
}

func TestP48WatchedByANumberThatThereIsNot(t *testing.T) {
	for many := 2; many <= 6; many++ {
		for _, sort := range []func(int) impl.Run{goes, sleeps, bides} {
			for id := -1; id <= 8; id++ {
				runs := []impl.Run{sort(1), ended(2)}
				for next := 3; next <= many; next++ {
					runs = append(runs, goes(next))
				}
				w := stage(t, runs...)
				w.Runs[0].Watched = []int{id}
				checkWorld(t, "watched", w, within(id, 2, many))
				if many > 2 {
					w.Runs[0].Watched = []int{many, id}
					checkWorld(t, "watched by two", w, within(id, 2, many-1))
				}
			}
		}
	}
}

// Each way to be full, at each place, of one that goes, that waits, and that ended.
func TestP49FullAsCodeFullTells(t *testing.T) {
	for at, must := range stageFull {
		for full := range 16 {
			for state := 1; state <= 3; state++ {
				r := runAt(2, at, state)
				r.Full = full
				for slot := range r.Slots {
					if full>>slot%2 == 0 {
						r.Slots[slot] = impl.Val{}
					}
				}
				if state == impl.RunWaiting && at == afterPlace {
					r.Due = 21
				}
				there := must >= 0 && full&must == must && (state == 1 || at == takePlace || at == afterPlace)
				checkWorld(t, "full", stage(t, goes(1), r), there || state == 3)
			}
		}
	}
}

func TestP49PlacesThatThereAreNot(t *testing.T) {
	for _, text := range []string{"end 0", "take 1 1|go 0", "after 1 0 0 n1|set 2 a1|end 0"} {
		code := byBars(t, text)
		for at := -1; at <= 16; at++ {
			for _, state := range []int{impl.RunGoing, impl.RunEnded} {
				w := impl.World{Code: code, Runs: []impl.Run{runAt(1, at, state)}}
				if state == impl.RunGoing {
					w.Queue = []int{1}
				}
				checkWorld(t, "place", w, within(at, 0, len(code)-1))
			}
		}
		for _, at := range []int{0, len(code) - 1, len(code), 15, 16} {
			w := impl.World{Code: code, Runs: []impl.Run{runAt(1, at, impl.RunWaiting)}}
			checkWorld(t, "place of one that waits", w, at == 0 && code[0].Kind == impl.OpTake)
		}
	}
}

func TestP49WhereNobodyComes(t *testing.T) {
	for state := 1; state <= 3; state++ {
		for at := nonePlace; at <= 15; at++ {
			checkWorld(t, "nobody comes there", stage(t, goes(1), runAt(2, at, state)), state == 3)
		}
	}
	code := byBars(t, "go 2|take 1 1|end 0")
	w := impl.World{Code: code, Runs: []impl.Run{runAt(1, 1, impl.RunWaiting)}}
	mustNotBeWorld(t, "waits where nobody comes", w)
}

func TestP53HowManyRuns(t *testing.T) {
	for many := 0; many <= 8; many++ {
		for _, sort := range []func(int) impl.Run{goes, sleeps, bides, ended} {
			var runs []impl.Run
			for id := 1; id <= many; id++ {
				runs = append(runs, sort(id))
			}
			checkWorld(t, "so many runs", stage(t, runs...), within(many, 1, 6))
		}
	}
}

func TestP53NumbersFromOneOn(t *testing.T) {
	for a := -1; a <= 7; a++ {
		for b := -1; b <= 7; b++ {
			checkWorld(t, "ended", stage(t, ended(a), ended(b)), a == 1 && b == 2)
			checkWorld(t, "going", stage(t, goes(a), goes(b)), a == 1 && b == 2)
		}
		checkWorld(t, "one", stage(t, ended(a)), a == 1)
	}
	for _, ids := range orders([]int{1, 2, 3}) {
		checkWorld(t, "any order", stage(t, goes(ids[0]), goes(ids[1]), goes(ids[2])), slices.IsSorted(ids))
	}
}

func TestP53WithARunMoreOfANumberThatIsTaken(t *testing.T) {
	for _, w := range throwWorlds(t, 53, 300) {
		was := w.Runs
		for id := 1; id <= len(was); id++ {
			w.Runs = append(slices.Clone(was), ended(id))
			mustNotBeWorld(t, "a run more of a number that is taken", w)
		}
		w.Runs = append(slices.Clone(was), runAt(len(was)+1, 0, impl.RunEnded))
		checkWorld(t, "a run more of the next number", w, len(was) < 6)
	}
}

func TestP53WithARunThatIsNotOk(t *testing.T) {
	for _, sort := range []func(int) impl.Run{goes, sleeps, bides, ended} {
		for i, spoiled := range []func(*impl.Run){
			func(r *impl.Run) { r.Slots = r.Slots[:3] },
			func(r *impl.Run) { r.Slots = append(slices.Clone(r.Slots), impl.Val{}) },
			func(r *impl.Run) { r.Slots[3] = run(7) },
			func(r *impl.Run) { r.Full = 16 + 15 },
			func(r *impl.Run) { r.Due = 401 },
			func(r *impl.Run) { r.Due = -2 },
			func(r *impl.Run) { r.Turns = -1 },
			func(r *impl.Run) { r.Turns = 10000 },
			func(r *impl.Run) { r.At = -1 },
			func(r *impl.Run) { r.State = 4 },
			func(r *impl.Run) { r.Links = []int{2} },
			func(r *impl.Run) { r.Watched = []int{1, 1} },
			func(r *impl.Run) { r.Mail = slices.Repeat([]impl.Val{run(1)}, 13) },
			func(r *impl.Run) { r.Mail = []impl.Val{name(10)} },
			func(r *impl.Run) { r.State, r.Why, r.Mail = 1, name(1), nil },
		} {
			w := stage(t, goes(1), sort(2), ended(3))
			spoiled(&w.Runs[1])
			w.Sent = 7 + waitsByHand(w)
			if okWorldByHand(w) {
				t.Fatalf("by hand spoiled %d is ok", i)
			}
			mustNotBeWorld(t, "a run that is not ok", w)
		}
	}
}

// Each count at its bounds: what the others must be for it follows.
func TestP53BoundsOfCounts(t *testing.T) {
	for _, n := range append(numbersAround(0, 9999), 0) {
		w := stage(t, goes(1))
		w.Sent, w.Taken, w.Lost = n, n, 0
		checkWorld(t, "Sent and Taken", w, within(n, 0, 9999))
		w.Sent, w.Taken, w.Lost = n, 0, n
		checkWorld(t, "Sent and Lost", w, within(n, 0, 9999))
		w = stage(t, withMail(goes(1), num(1)))
		w.Sent, w.Taken, w.Lost = n, n-1, 0
		checkWorld(t, "Sent, with one that waits", w, within(n, 1, 9999))
	}
	for _, c := range [][3]int{{0, -1, 1}, {0, 1, -1}, {5, -1, 6}, {5, 6, -1}, {9999, -1, 10000}, {9999, 10000, -1}, {-1, -1, 0}, {-2, -1, -1}, {10000, 5000, 5000}, {math.MinInt, math.MinInt, 0}, {-2, math.MaxInt, math.MaxInt}} {
		w := stage(t, goes(1))
		w.Sent, w.Taken, w.Lost = c[0], c[1], c[2]
		checkWorld(t, "beyond a bound, though the sum is right", w, false)
	}
}

func TestP53BoundsOfNow(t *testing.T) {
	for _, now := range append(numbersAround(0, 300), 0) {
		for _, r := range []impl.Run{goes(1), sleeps(1), ended(1)} {
			w := stage(t, r)
			w.Now = now
			checkWorld(t, "Now", w, within(now, 0, 300))
		}
		w := stage(t, bides(1))
		w.Now, w.Runs[0].Due = now, 400
		checkWorld(t, "Now of one that waits", w, within(now, 0, 300))
	}
}

func TestP53StepsThatAreNotSafe(t *testing.T) {
	for _, c := range manyCodes()[:3000] {
		w := impl.World{Code: c.code, Runs: []impl.Run{runAt(1, 0, impl.RunGoing)}, Queue: []int{1}}
		checkWorld(t, c.String(), w, safeByHand(c.code))
		w.Runs, w.Queue = []impl.Run{runAt(1, 0, impl.RunEnded)}, nil
		checkWorld(t, c.String(), w, safeByHand(c.code))
	}
	for _, code := range [][]impl.Op{nil, {}, filler(17), {{Kind: impl.OpGo, To: 1}}, {{Kind: 15}}, {{}}, byBars(t, "end 1"), byBars(t, "set 1 n1")} {
		for _, r := range []impl.Run{runAt(1, 0, impl.RunGoing), runAt(1, 0, impl.RunEnded)} {
			w := stage(t, r)
			w.Code = code
			mustNotBeWorld(t, "steps that are not safe", w)
		}
	}
	mustNotBeWorld(t, "nothing", impl.World{})
}

// All mixtures of sorts of up to five runs.
func TestP50AndP51AliveAndIdleOfAnyMixture(t *testing.T) {
	sorts := []func(int) impl.Run{goes, sleeps, bides, ended}
	many := 1
	for size := 1; size <= 5; size++ {
		many *= 4
		for mixture := range many {
			var runs []impl.Run
			var alive []int
			idle := true
			for id := 1; id <= size; id++ {
				sort := mixture >> (2 * (id - 1)) % 4
				runs = append(runs, sorts[sort](id))
				idle = idle && sort != 0 && sort != 2
				if sort != 3 {
					alive = append(alive, id)
				}
			}
			w := stage(t, runs...)
			if got := impl.WorldAlive(w); !slices.Equal(got, alive) {
				t.Errorf("alive of %+v: %v", w, got)
			}
			if got := impl.WorldIdle(w); got != idle {
				t.Errorf("idle of %+v: %v", w, got)
			}
		}
	}
}

// Due of one that goes, or that ended, is not a time for which it waits.
func TestP51OnlyWhoWaitsWaitsForATime(t *testing.T) {
	w := stage(t, ended(1), sleeps(2))
	w.Runs[0].Due = 400
	if !impl.WorldIdle(w) {
		t.Errorf("one that ended waits: %+v", w)
	}
	w = stage(t, bides(1))
	w.Now, w.Runs[0].Due = 0, 1
	if impl.WorldIdle(w) {
		t.Errorf("nobody waits: %+v", w)
	}
}

func TestP50AndP51OfAWorldThatIsNotOk(t *testing.T) {
	for _, w := range throwWorlds(t, 50, 200) {
		w.Sent++
		mustNotBeWorld(t, "one more sent", w)
	}
	w := stage(t, sleeps(1))
	w.Now = 301
	mustNotBeWorld(t, "idle but for the time", w)
}

// Worlds of which one to three things are something else: most are not ok, some still are.
func TestP46ToP53OkAsWorkedOutByHand(t *testing.T) {
	d, ok := &dice{state: 4653}, 0
	worlds := throwWorlds(t, 46530, 700)
	for _, base := range worlds {
		mustBeWorld(t, "thrown", base)
		for range 25 {
			w := keptWorld(base)
			for range 1 + d.below(3) {
				d.changeWorld(&w)
			}
			want := okWorldByHand(w)
			checkWorld(t, "changed", w, want)
			if want {
				ok++
			}
		}
	}
	if ok < len(worlds) || ok > 20*len(worlds) {
		t.Errorf("%d of %d were ok", ok, 25*len(worlds))
	}
}

// changeWorld sets one thing of a world, as like as not to what it may not be.
func (d *dice) changeWorld(w *impl.World) {
	r := &w.Runs[d.below(len(w.Runs))]
	switch d.below(15) {
	case 0:
		d.change(r)
	case 1:
		w.Queue = append(w.Queue, d.below(8))
	case 2:
		w.Queue = w.Queue[:len(w.Queue)*d.below(2)]
	case 3:
		w.Now = pick(d, []int{-1, 0, 300, 301, d.below(300)})
	case 4:
		w.Sent, w.Lost = w.Sent+1, w.Lost+d.below(2)
	case 5:
		w.Sent, w.Taken = w.Sent-1, w.Taken-d.below(2)
	case 6:
		r.Mail, w.Sent = append(r.Mail, d.val()), w.Sent+1
	case 7:
		r.At = d.below(16)
	case 8:
		r.Full |= d.below(16)
	case 9:
		r.Due = pick(d, []int{-1, 0, w.Now, w.Now + 1, 400})
	case 10:
		other := &w.Runs[d.below(len(w.Runs))]
		r.Links, other.Links = append(r.Links, other.Id), append(other.Links, r.Id)
	case 11:
		r.Watched = append(r.Watched, 1+d.below(6))
	case 12:
		w.Code = append(w.Code, impl.Op{Kind: impl.OpEnd})
	case 13:
		w.Code[d.below(len(w.Code))] = d.step(len(w.Code))
	case 14:
		w.Runs = append(w.Runs, runAt(len(w.Runs)+d.below(2), 0, impl.RunEnded))
	}
}

// settled lays all lists of a world in the midst of longer ones, with marks ahead and behind; whether all is as it was is asked by the function.
func settled(w impl.World) (impl.World, func() bool) {
	step, n := impl.Op{Kind: 99, R: 99, S: 99, To: 99, V: num(99)}, 99
	code := slices.Concat([]impl.Op{step}, w.Code, []impl.Op{step, step})
	queue := slices.Concat([]int{n}, w.Queue, slices.Repeat([]int{n}, 8))
	runs := []impl.Run{{Id: n}}
	var same []func() bool
	for _, r := range w.Runs {
		inside, is := lodged(r)
		runs, same = append(runs, inside), append(same, is)
	}
	runs = append(runs, impl.Run{Id: n}, impl.Run{Id: n}, impl.Run{Id: n})
	was := keptWorld(impl.World{Code: code, Runs: runs, Queue: queue})
	inside := w
	inside.Code, inside.Queue = code[1:1+len(w.Code)], queue[1:1+len(w.Queue)]
	inside.Runs = runs[1 : 1+len(w.Runs)]
	return inside, func() bool {
		for _, is := range same {
			if !is() {
				return false
			}
		}
		return sameWorld(was, impl.World{Code: code, Runs: runs, Queue: queue})
	}
}

// spoilWorld writes over all lists of a world, those of its runs ahead of these, and the room behind their ends too.
func spoilWorld(w impl.World) {
	for _, r := range w.Runs[:cap(w.Runs)] {
		spoilRun(r)
	}
	spoil(w.Code, impl.Op{Kind: 77})
	spoil(w.Runs, impl.Run{Id: 77})
	spoil(w.Queue, 77)
}

// worldsOf are all worlds that are answered of one.
func worldsOf(w impl.World) []impl.World {
	var answers []impl.World
	for id := 0; id <= 7; id++ {
		for _, v := range []impl.Val{num(1), name(1)} {
			answers = append(answers, impl.WorldGive(w, id, v))
		}
	}
	first, _ := impl.WorldNew(w.Code)
	return append(answers, first)
}

func TestP42WhatIsHandedInIsNotWrittenInto(t *testing.T) {
	for i, w := range throwWorlds(t, 542, 250) {
		if i%6 == 5 {
			w.Now = 301
		}
		inside, same := settled(w)
		impl.WorldOk(inside)
		impl.WorldWaits(inside)
		impl.WorldIdle(inside)
		spoil(impl.WorldAlive(inside), 77)
		if !same() {
			t.Fatalf("%+v was written into", w)
		}
		for _, answer := range worldsOf(inside) {
			if !same() {
				t.Fatalf("%+v was written into", w)
			}
			spoilWorld(answer)
			if !same() {
				t.Fatalf("an answer shares memory with %+v", w)
			}
		}
	}
}

func TestP42AnswersShareNoMemoryWithEachOther(t *testing.T) {
	for _, w := range throwWorlds(t, 742, 60) {
		answers := worldsOf(w)
		var kept []impl.World
		for _, a := range answers {
			kept = append(kept, keptWorld(a))
		}
		for i, a := range answers {
			spoilWorld(a)
			for j := i + 1; j < len(answers); j++ {
				if !sameWorld(answers[j], kept[j]) {
					t.Fatalf("answers %d and %d of %+v share memory", i, j, w)
				}
			}
		}
		one, other := impl.WorldAlive(w), impl.WorldAlive(w)
		was := slices.Clone(other)
		spoil(one, 77)
		if !slices.Equal(other, was) {
			t.Fatalf("two of WorldAlive share memory")
		}
	}
}

// listsOf are all lists of numbers and values of a world, each by what spoils it and what asks whether it is as it was.
func listsOf(w impl.World) (spoils []func(), same []func() bool) {
	numbers := [][]int{w.Queue}
	var vals [][]impl.Val
	for _, r := range w.Runs {
		numbers = append(numbers, r.Links, r.Watched)
		vals = append(vals, r.Slots, r.Mail)
	}
	for _, list := range numbers {
		was := slices.Clone(list[:cap(list)])
		spoils = append(spoils, func() { spoil(list, 77) })
		same = append(same, func() bool { return slices.Equal(list[:cap(list)], was) })
	}
	for _, list := range vals {
		was := slices.Clone(list[:cap(list)])
		spoils = append(spoils, func() { spoil(list, impl.Val{Kind: 77}) })
		same = append(same, func() bool { return slices.Equal(list[:cap(list)], was) })
	}
	return spoils, same
}

// The lists that are handed in share their memory, whatever run they are of; those of an answer must share none all the same.
func TestP42ListsOfOneAnswerShareNoMemory(t *testing.T) {
	vals := []impl.Val{run(1), name(1), run(2), {}}
	ids := []int{1, 2, 3}
	shared := func(id, at int) impl.Run {
		return impl.Run{Id: id, At: at, Slots: vals, Full: 15, Mail: vals[:3], State: impl.RunGoing, Links: ids[id%3 : id%3+1], Watched: ids[id%3 : id%3+1]}
	}
	w := stage(t, shared(1, 0), shared(2, 5), shared(3, 6))
	w.Queue = ids
	w.Runs[0].Links, w.Runs[1].Links, w.Runs[2].Links = ids[1:2], ids[:1], nil
	mustBeWorld(t, "lists that share memory", w)
	for id := 0; id <= 4; id++ {
		spoils, _ := listsOf(impl.WorldGive(w, id, num(1)))
		for i := range spoils {
			answer := impl.WorldGive(w, id, num(1))
			spoils, same := listsOf(answer)
			spoils[i]()
			for j, is := range same {
				if i != j && !is() {
					t.Errorf("given to %d: lists %d and %d of the answer share memory", id, i, j)
				}
			}
		}
	}
	if !slices.Equal(vals, []impl.Val{run(1), name(1), run(2), {}}) || !slices.Equal(ids, []int{1, 2, 3}) {
		t.Errorf("what was handed in is %v, %v", vals, ids)
	}
}
