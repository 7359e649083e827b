package tests

import (
	"slices"
	"testing"

	"loop.example/errandry/impl"
)

// takeText takes a number for ever, takes a name or goes back behind a time, and begins anew.
const takeText = "take 1 1|after 2 2 0 n9|go 0"

func takeWorld(t *testing.T, runs ...impl.Run) impl.World {
	t.Helper()
	w := stage(t, runs...)
	w.Code = byBars(t, takeText)
	return w
}

// checkTurn holds TurnDo to a world: where the first run is behind it, in which state, till when, with which mail, and who is to go on.
func checkTurn(t *testing.T, w impl.World, at, state, due, taken int, mail []impl.Val, queue ...int) impl.World {
	t.Helper()
	x := impl.TurnDo(w)
	if !impl.WorldOk(x) {
		t.Fatalf("TurnDo of %+v is not ok: %+v", w, x)
	}
	r := x.Runs[w.Queue[0]-1]
	if r.At != at || r.State != state || r.Due != due || !slices.Equal(r.Mail, mail) || r.Turns != w.Runs[r.Id-1].Turns+1 {
		t.Errorf("TurnDo of %+v: the run is %+v", w, r)
	}
	if !slices.Equal(x.Queue, queue) || x.Taken != w.Taken+taken || x.Sent != w.Sent || x.Lost != w.Lost || x.Now != w.Now {
		t.Errorf("TurnDo of %+v is %+v", w, x)
	}
	for i, other := range x.Runs {
		if other.Id != r.Id && !sameRun(other, w.Runs[i]) {
			t.Errorf("TurnDo of %+v: another run is %+v", w, other)
		}
	}
	return x
}

func TestTurnsOfStepsThatTake(t *testing.T) {
	first, second := runAt(1, 0, impl.RunGoing), runAt(2, 1, impl.RunGoing)
	w := checkTurn(t, takeWorld(t, first, second), 0, impl.RunWaiting, 0, 0, nil, 2)
	checkTurn(t, w, 1, impl.RunWaiting, stageNow+9, 0, nil)
	mail := []impl.Val{run(1), num(1), name(1), name(2), num(2)}
	w = checkTurn(t, takeWorld(t, withMail(first, mail...), second), 0, impl.RunGoing, 0, 2, []impl.Val{run(1), name(2), num(2)}, 2, 1)
	if got := w.Runs[0].Slots; !slices.Equal(got, []impl.Val{run(1), num(1), name(1), run(2)}) {
		t.Errorf("the slots are %v", got)
	}
	checkTurn(t, takeWorld(t, withMail(first, num(7), num(8))), 1, impl.RunWaiting, stageNow+9, 1, []impl.Val{num(8)})
}

func TestTurnsOfOneWhoseTimeIsOver(t *testing.T) {
	over := runAt(1, 1, impl.RunGoing)
	over.Due = -1
	checkTurn(t, takeWorld(t, over, runAt(2, 0, impl.RunWaiting)), 0, impl.RunWaiting, 0, 0, nil)
	checkTurn(t, takeWorld(t, withMail(over, name(4))), 0, impl.RunWaiting, 0, 1, nil)
}

// A step that takes into one slot what is of a kind of another number, and goes elsewhere than to the first place.
func TestTurnsOfAStepThatGoesElsewhere(t *testing.T) {
	over := runAt(1, 0, impl.RunGoing)
	over.Due = -1
	w := takeWorld(t, over)
	w.Code = byBars(t, "after 3 1 2 n5|go 1|take 2 0|go 2")
	checkTurn(t, w, 2, impl.RunWaiting, 0, 0, nil)
	w.Runs[0].Mail, w.Sent = []impl.Val{run(3), num(3)}, w.Sent+2
	if x := checkTurn(t, w, 1, impl.RunGoing, 0, 1, []impl.Val{run(3)}, 1); x.Runs[0].Slots[3] != num(3) {
		t.Errorf("the slot has not what was taken: %+v", x)
	}
	w.Code = byBars(t, "after 3 1 2 n5|go 1|go 3|go 3")
	w.Runs[0].Mail, w.Sent = nil, w.Sent-2
	checkTurn(t, w, 3, impl.RunGoing, 0, 0, nil, 1)
	w.Code = byBars(t, "after 1 1 2 n5|go 1|go 2")
	checkTurn(t, w, 2, impl.RunGoing, 0, 0, nil, 1)
}

// One that goes with a time that is left of what it waited for waits for ever, or takes, and has none any more.
func TestTurnsOfOneWithATimeLeft(t *testing.T) {
	left := runAt(1, 0, impl.RunGoing)
	left.Due = 300
	checkTurn(t, takeWorld(t, left), 0, impl.RunWaiting, 0, 0, nil)
	w := takeWorld(t, withMail(left, num(1)))
	w.Code = byBars(t, "take 1 1|go 1")
	checkTurn(t, w, 1, impl.RunGoing, 0, 1, nil, 1)
}

func TestTurnsWhereNobodyIsToGoOn(t *testing.T) {
	for _, w := range []impl.World{takeWorld(t, runAt(1, 0, impl.RunWaiting)), takeWorld(t, runAt(1, 2, impl.RunEnded))} {
		if x := impl.TurnDo(w); !sameWorld(x, w) || !impl.WorldOk(w) {
			t.Errorf("TurnDo of %+v is %+v", w, x)
		}
	}
}

func TestTurnsOfAWorldThatIsNotOkOrSentTooMuch(t *testing.T) {
	for _, sent := range []int{8999, 9000, 9001} {
		w := takeWorld(t, runAt(1, 0, impl.RunGoing))
		w.Sent, w.Taken, w.Lost = sent, sent, 0
		if x := impl.TurnDo(w); isNoWorld(x) != (sent >= 9000) {
			t.Errorf("with %d sent: %+v", sent, x)
		}
		w.Taken--
		if x := impl.TurnDo(w); !isNoWorld(x) {
			t.Errorf("of a world that is not ok: %+v", x)
		}
	}
}

func TestTurnsAreCountedToTheirBound(t *testing.T) {
	for _, turns := range []int{0, 9998, 9999} {
		w := takeWorld(t, runAt(1, 2, impl.RunGoing))
		w.Runs[0].Turns = turns
		if x := impl.TurnDo(w); x.Runs[0].Turns != min(turns+1, 9999) {
			t.Errorf("behind %d turns: %+v", turns, x)
		}
	}
}

func TestTurnsGoAroundInOrder(t *testing.T) {
	code := byBars(t, "go 0")
	w := impl.World{Code: code, Runs: []impl.Run{runAt(1, 0, 1), runAt(2, 0, 1), runAt(3, 0, 1), runAt(4, 0, 1), runAt(5, 0, 1), runAt(6, 0, 1)}, Queue: []int{3, 1, 6, 2, 5, 4}}
	want := slices.Clone(w.Queue)
	for range 20 {
		want = append(want[1:], want[0])
		if w = impl.TurnDo(w); !slices.Equal(w.Queue, want) {
			t.Fatalf("to go on are %v, not %v", w.Queue, want)
		}
	}
}

func TestTurnsShareNoMemory(t *testing.T) {
	for _, base := range []impl.World{takeWorld(t, withMail(runAt(1, 0, 1), num(1), run(2)), runAt(2, 2, 1)), takeWorld(t, runAt(1, 0, 2))} {
		inside, same := settled(base)
		spoilWorld(impl.TurnDo(inside))
		if !same() {
			t.Errorf("%+v was written into", base)
		}
	}
}

// checkChange holds TurnDo to the world that is left when a run did one step, and stays at the next one: all that is more is done by the function.
func checkChange(t *testing.T, what string, w impl.World, change func(*impl.World)) {
	t.Helper()
	want := keptWorld(w)
	first := want.Queue[0]
	want.Runs[first-1].At = 2
	want.Runs[first-1].Turns++
	want.Queue = append(want.Queue[1:], first)
	change(&want)
	if !okWorldByHand(w) || !okWorldByHand(want) {
		t.Fatalf("%s: by hand %+v or %+v is not ok", what, w, want)
	}
	inside, same := settled(w)
	got := impl.TurnDo(inside)
	if !sameWorld(got, want) {
		t.Errorf("%s: TurnDo of %+v is %+v, not %+v", what, w, got, want)
	}
	spoilWorld(got)
	if !same() {
		t.Errorf("%s: %+v was written into", what, w)
	}
}

// tieWorld is a world in which run 1 is at this step, with slot 2 full, and all others are behind it, where they stay; with letters, and ties, as in the hall.
func tieWorld(t *testing.T, step, letters, ties string) impl.World {
	t.Helper()
	w := hall(t, letters, ties)
	w.Code = byBars(t, "take 2 0|"+step+"|go 2")
	for i := range w.Runs {
		w.Runs[i].At = min(i+1, 2)
	}
	return w
}

func TestTurnsOfAStepThatBegins(t *testing.T) {
	for many := 1; many <= 6; many++ {
		w := tieWorld(t, "begin 3 2", "gegggg"[:many], "")
		w.Runs[0].Slots[3], w.Runs[0].Full = impl.Val{}, 7
		checkChange(t, "begins", w, func(x *impl.World) {
			r := &x.Runs[0]
			r.Full = 15
			if many == 6 {
				return
			}
			r.Slots[3] = run(many + 1)
			x.Runs = append(x.Runs, impl.Run{Id: many + 1, At: 2, Slots: []impl.Val{run(1), {}, {}, {}}, Full: 1, State: impl.RunGoing})
			x.Queue = slices.Insert(x.Queue, len(x.Queue)-1, many+1)
		})
	}
	w := tieWorld(t, "begin 1 2", "gggggg", "")
	checkChange(t, "no room, and the slot had something", w, func(x *impl.World) { x.Runs[0].Slots[1] = impl.Val{} })
}

// Three begun in one turn stand behind all others, and have turns in their order.
func TestTurnsThatBeginMany(t *testing.T) {
	w, _ := impl.WorldNew(byBars(t, "begin 1 3|begin 2 4|begin 3 3|go 3|take 1 0|go 4"))
	x := impl.TurnDo(w)
	if !slices.Equal(x.Queue, []int{2, 3, 4, 1}) || len(x.Runs) != 4 || !slices.Equal(x.Runs[0].Slots, []impl.Val{run(1), run(2), run(3), run(4)}) {
		t.Fatalf("%+v", x)
	}
	for id, at := range []int{3, 3, 4, 3} {
		if r := x.Runs[id]; r.At != at || r.Id != id+1 || r.State != impl.RunGoing || r.Slots[0] != run(1) {
			t.Errorf("run %d is %+v", id+1, r)
		}
	}
	if x = impl.TurnDo(impl.TurnDo(x)); !slices.Equal(x.Queue, []int{4, 1, 2}) || x.Runs[2].State != impl.RunWaiting || !impl.WorldOk(x) {
		t.Errorf("%+v", x)
	}
}

// Run 2 begins, so who is in the first slot of what it began is 2.
func TestTurnsOfAnotherRunThatBegins(t *testing.T) {
	w, _ := impl.WorldNew(byBars(t, "begin 1 0|go 0"))
	x := impl.TurnDo(impl.TurnDo(w))
	if !slices.Equal(x.Queue, []int{3, 1, 4, 5, 2}) || !impl.WorldOk(x) {
		t.Errorf("to go on are %v", x.Queue)
	}
	for id, by := range []int{1, 1, 1, 2, 2} {
		if x.Runs[id].Slots[0] != run(by) {
			t.Errorf("run %d has %v", id+1, x.Runs[id].Slots[0])
		}
	}
}

func TestTurnsOfAStepThatLinks(t *testing.T) {
	none := func(*impl.World) {}
	for _, c := range []struct {
		what, letters, ties string
		to                  int
		change              func(*impl.World)
	}{
		{"linked", "gg", "", 2, func(x *impl.World) { x.Runs[0].Links, x.Runs[1].Links = []int{2}, []int{1} }},
		{"behind other links", "gggg", "1-4 3-4 3-2", 3, func(x *impl.World) {
			x.Runs[0].Links, x.Runs[2].Links = []int{4, 3}, []int{4, 2, 1}
		}},
		{"linked already", "gggg", "1-2 1-3 3-4", 3, none},
		{"linked already, from the other side", "ggg", "3-1 2-1", 3, none},
		{"watching is not being linked", "gg", "1>2 2>1", 2, func(x *impl.World) { x.Runs[0].Links, x.Runs[1].Links = []int{2}, []int{1} }},
		{"with itself", "gg", "", 1, none},
		{"with one that ended", "geg", "", 2, none},
		{"with one that there is not", "ggg", "", 4, none},
		{"with the last number", "ggg", "", 6, none},
	} {
		w := tieWorld(t, "link 2", c.letters, c.ties)
		w.Runs[0].Slots[2] = run(c.to)
		checkChange(t, c.what, w, c.change)
	}
}

func TestTurnsOfAStepThatWatches(t *testing.T) {
	none := func(*impl.World) {}
	told := func(x *impl.World, id int) { x.Runs[0].Mail, x.Sent = append(x.Runs[0].Mail, run(id)), x.Sent+1 }
	for _, c := range []struct {
		what, letters, ties string
		to                  int
		change              func(*impl.World)
	}{
		{"watches", "gg", "", 2, func(x *impl.World) { x.Runs[1].Watched = []int{1} }},
		{"behind others that watch", "gggg", "4>3 2>3 1>2", 3, func(x *impl.World) { x.Runs[2].Watched = []int{4, 2, 1} }},
		{"watches already", "ggg", "1>3 2>3", 3, none},
		{"is watched, and linked", "gg", "2>1 1-2", 2, func(x *impl.World) { x.Runs[1].Watched = []int{1} }},
		{"itself", "gg", "", 1, none},
		{"one that ended", "geg", "", 2, func(x *impl.World) { told(x, 2) }},
		{"one that there is not", "ggg", "", 4, func(x *impl.World) { told(x, 4) }},
		{"the last number", "g", "", 6, func(x *impl.World) { told(x, 6) }},
	} {
		w := tieWorld(t, "watch 2", c.letters, c.ties)
		w.Runs[0].Slots[2] = run(c.to)
		checkChange(t, c.what, w, c.change)
	}
	w := tieWorld(t, "watch 2", "ge", "")
	w = mailed(w, 1, slices.Repeat([]impl.Val{num(1)}, 12)...)
	w.Runs[0].Slots[2] = run(2)
	checkChange(t, "no room", w, func(x *impl.World) { x.Sent, x.Lost = x.Sent+1, x.Lost+1 })
}

// One that links with, or watches, what is no run ends with all that fall, where it stands, and the turn is over.
func TestTurnsOfAStepToWhatIsNoRun(t *testing.T) {
	for _, text := range []string{"link 2", "watch 2"} {
		for _, v := range []impl.Val{{}, num(2), name(2), num(0)} {
			w := tieWorld(t, text, "gggggg", "1-2 3>1 2-4 4! 1-5 5!")
			w.Runs[0].Slots[2] = v
			x := impl.TurnDo(w)
			counted := keptWorld(w)
			counted.Runs[0].Turns++
			if want := fallenByHand(counted, 1, name(2)); !sameWorld(x, want) || !slices.Equal(endedMore(w, x), []int{1, 2}) {
				t.Errorf("%s of %v: %+v, not %+v", text, v, x, want)
			}
			if !slices.Equal(x.Queue, []int{3, 4, 5, 6}) || !impl.WorldOk(x) {
				t.Errorf("%s of %v: to go on are %v", text, v, x.Queue)
			}
		}
	}
}
