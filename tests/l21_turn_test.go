package tests

import (
	"slices"
	"testing"

	"loop.example/errandry/impl"
)

// takeText takes a number for ever, takes a name or goes back behind a time, and begins anew.
const takeText = "take 1 1|after 2 2 0 n9|go 0"

func takeWorld(t *testing.T, runs ...impl.Run) impl.World {
	t.Helper()
	w := stage(t, runs...)
	w.Code = byBars(t, takeText)
	return w
}

// checkTurn holds TurnDo to a world: where the first run is behind it, in which state, till when, with which mail, and who is to go on.
func checkTurn(t *testing.T, w impl.World, at, state, due, taken int, mail []impl.Val, queue ...int) impl.World {
	t.Helper()
	x := impl.TurnDo(w)
	if !impl.WorldOk(x) {
		t.Fatalf("TurnDo of %+v is not ok: %+v", w, x)
	}
	r := x.Runs[w.Queue[0]-1]
	if r.At != at || r.State != state || r.Due != due || !slices.Equal(r.Mail, mail) || r.Turns != w.Runs[r.Id-1].Turns+1 {
		t.Errorf("TurnDo of %+v: the run is %+v", w, r)
	}
	if !slices.Equal(x.Queue, queue) || x.Taken != w.Taken+taken || x.Sent != w.Sent || x.Lost != w.Lost || x.Now != w.Now {
		t.Errorf("TurnDo of %+v is %+v", w, x)
	}
	for i, other := range x.Runs {
		if other.Id != r.Id && !sameRun(other, w.Runs[i]) {
			t.Errorf("TurnDo of %+v: another run is %+v", w, other)
		}
	}
	return x
}

func TestTurnsOfStepsThatTake(t *testing.T) {
	first, second := runAt(1, 0, impl.RunGoing), runAt(2, 1, impl.RunGoing)
	w := checkTurn(t, takeWorld(t, first, second), 0, impl.RunWaiting, 0, 0, nil, 2)
	checkTurn(t, w, 1, impl.RunWaiting, stageNow+9, 0, nil)
	mail := []impl.Val{run(1), num(1), name(1), name(2), num(2)}
	w = checkTurn(t, takeWorld(t, withMail(first, mail...), second), 0, impl.RunGoing, 0, 2, []impl.Val{run(1), name(2), num(2)}, 2, 1)
	if got := w.Runs[0].Slots; !slices.Equal(got, []impl.Val{run(1), num(1), name(1), run(2)}) {
		t.Errorf("the slots are %v", got)
	}
	checkTurn(t, takeWorld(t, withMail(first, num(7), num(8))), 1, impl.RunWaiting, stageNow+9, 1, []impl.Val{num(8)})
}

func TestTurnsOfOneWhoseTimeIsOver(t *testing.T) {
	over := runAt(1, 1, impl.RunGoing)
	over.Due = -1
	checkTurn(t, takeWorld(t, over, runAt(2, 0, impl.RunWaiting)), 0, impl.RunWaiting, 0, 0, nil)
	checkTurn(t, takeWorld(t, withMail(over, name(4))), 0, impl.RunWaiting, 0, 1, nil)
}

// A step that takes into one slot what is of a kind of another number, and goes elsewhere than to the first place.
func TestTurnsOfAStepThatGoesElsewhere(t *testing.T) {
	over := runAt(1, 0, impl.RunGoing)
	over.Due = -1
	w := takeWorld(t, over)
	w.Code = byBars(t, "after 3 1 2 n5|go 1|take 2 0|go 2")
	checkTurn(t, w, 2, impl.RunWaiting, 0, 0, nil)
	w.Runs[0].Mail, w.Sent = []impl.Val{run(3), num(3)}, w.Sent+2
	if x := checkTurn(t, w, 1, impl.RunGoing, 0, 1, []impl.Val{run(3)}, 1); x.Runs[0].Slots[3] != num(3) {
		t.Errorf("the slot has not what was taken: %+v", x)
	}
	w.Code = byBars(t, "after 3 1 2 n5|go 1|go 3|go 3")
	w.Runs[0].Mail, w.Sent = nil, w.Sent-2
	checkTurn(t, w, 3, impl.RunGoing, 0, 0, nil, 1)
}

// One that goes with a time that is left of what it waited for waits for ever, or takes, and has none any more.
func TestTurnsOfOneWithATimeLeft(t *testing.T) {
	left := runAt(1, 0, impl.RunGoing)
	left.Due = 300
	checkTurn(t, takeWorld(t, left), 0, impl.RunWaiting, 0, 0, nil)
	w := takeWorld(t, withMail(left, num(1)))
	w.Code = byBars(t, "take 1 1|go 1")
	checkTurn(t, w, 1, impl.RunGoing, 0, 1, nil, 1)
}

func TestTurnsWhereNobodyIsToGoOn(t *testing.T) {
	for _, w := range []impl.World{takeWorld(t, runAt(1, 0, impl.RunWaiting)), takeWorld(t, runAt(1, 2, impl.RunEnded))} {
		if x := impl.TurnDo(w); !sameWorld(x, w) || !impl.WorldOk(w) {
			t.Errorf("TurnDo of %+v is %+v", w, x)
		}
	}
}

func TestTurnsOfAWorldThatIsNotOkOrSentTooMuch(t *testing.T) {
	for _, sent := range []int{8999, 9000, 9001} {
		w := takeWorld(t, runAt(1, 0, impl.RunGoing))
		w.Sent, w.Taken, w.Lost = sent, sent, 0
		if x := impl.TurnDo(w); isNoWorld(x) != (sent >= 9000) {
			t.Errorf("with %d sent: %+v", sent, x)
		}
		w.Taken--
		if x := impl.TurnDo(w); !isNoWorld(x) {
			t.Errorf("of a world that is not ok: %+v", x)
		}
	}
}

func TestTurnsAreCountedToTheirBound(t *testing.T) {
	for _, turns := range []int{0, 9998, 9999} {
		w := takeWorld(t, runAt(1, 2, impl.RunGoing))
		w.Runs[0].Turns = turns
		if x := impl.TurnDo(w); x.Runs[0].Turns != min(turns+1, 9999) {
			t.Errorf("behind %d turns: %+v", turns, x)
		}
	}
}

func TestTurnsGoAroundInOrder(t *testing.T) {
	code := byBars(t, "go 0")
	w := impl.World{Code: code, Runs: []impl.Run{runAt(1, 0, 1), runAt(2, 0, 1), runAt(3, 0, 1), runAt(4, 0, 1), runAt(5, 0, 1), runAt(6, 0, 1)}, Queue: []int{3, 1, 6, 2, 5, 4}}
	want := slices.Clone(w.Queue)
	for range 20 {
		want = append(want[1:], want[0])
		if w = impl.TurnDo(w); !slices.Equal(w.Queue, want) {
			t.Fatalf("to go on are %v, not %v", w.Queue, want)
		}
	}
}

func TestTurnsShareNoMemory(t *testing.T) {
	for _, base := range []impl.World{takeWorld(t, withMail(runAt(1, 0, 1), num(1), run(2)), runAt(2, 2, 1)), takeWorld(t, runAt(1, 0, 2))} {
		inside, same := settled(base)
		spoilWorld(impl.TurnDo(inside))
		if !same() {
			t.Errorf("%+v was written into", base)
		}
	}
}
