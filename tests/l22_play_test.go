package tests

import (
	"slices"
	"testing"

	"loop.example/errandry/impl"
)

// playWorld is a world in which runs begin others, are linked, watch, and take, each in its turn.
func playWorld(t *testing.T) impl.World {
	t.Helper()
	w, ok := impl.WorldNew(byBars(t, "begin 1 4|link 1|begin 2 0|watch 2|take 3 3|go 4"))
	if !ok {
		t.Fatal("the steps are not safe")
	}
	return w
}

func TestPlaysOfTurnsOneByOne(t *testing.T) {
	w := playWorld(t)
	want := w
	for turns := 0; turns <= 80; turns++ {
		if x := impl.PlayTurns(w, turns); !sameWorld(x, want) || !impl.WorldOk(x) {
			t.Fatalf("%d turns: %+v, not %+v", turns, x, want)
		}
		want = impl.TurnDo(want)
	}
	x := impl.PlayTurns(w, 80)
	if len(x.Runs) != 6 || len(x.Queue) != 0 {
		t.Errorf("80 turns: %+v", x)
	}
	had := 0
	for _, r := range x.Runs {
		had += r.Turns
	}
	if again := impl.PlayTurns(w, had); !sameWorld(again, x) || sameWorld(impl.PlayTurns(w, had-1), x) {
		t.Errorf("all turns that were had are %d: %+v", had, again)
	}
}

func TestPlaysOfSomeTurnsAndThenOthers(t *testing.T) {
	w, _ := impl.WorldNew(byBars(t, "begin 1 0|go 1"))
	for some := 0; some <= 40; some++ {
		for others := 0; others <= 40; others += 7 {
			a, b := impl.PlayTurns(impl.PlayTurns(w, some), others), impl.PlayTurns(w, some+others)
			if !sameWorld(a, b) || isNoWorld(a) {
				t.Fatalf("%d and %d turns: %+v, together %+v", some, others, a, b)
			}
		}
	}
}

func TestPlaysOfSoManyTurnsAsThereMayBe(t *testing.T) {
	w, _ := impl.WorldNew(byBars(t, "go 0"))
	for _, turns := range append(numbersAround(0, 80), 0, 1, 79, 80, 81, -1) {
		x := impl.PlayTurns(w, turns)
		if !within(turns, 0, 80) {
			if !isNoWorld(x) {
				t.Errorf("%d turns: %+v", turns, x)
			}
			continue
		}
		if len(x.Runs) != 1 || x.Runs[0].Turns != turns || !slices.Equal(x.Queue, []int{1}) {
			t.Errorf("%d turns: %+v", turns, x)
		}
	}
}

func TestPlaysOfAWorldThatIsNotOkOrSentTooMuch(t *testing.T) {
	for _, turns := range []int{0, 1, 80} {
		for _, sent := range []int{8999, 9000, 9001, 9999} {
			w, _ := impl.WorldNew(byBars(t, "go 0"))
			w.Sent, w.Taken = sent, sent
			if x := impl.PlayTurns(w, turns); isNoWorld(x) != (sent >= 9000) {
				t.Errorf("%d sent, %d turns: %+v", sent, turns, x)
			}
			w.Taken--
			if x := impl.PlayTurns(w, turns); !isNoWorld(x) {
				t.Errorf("of a world that is not ok, %d turns: %+v", turns, x)
			}
		}
		if x := impl.PlayTurns(impl.World{}, turns); !isNoWorld(x) {
			t.Errorf("of no world: %+v", x)
		}
	}
}

// By a turn as much comes to be sent as there may be: the turn is had, but none behind it.
func TestPlaysThatComeToSendTooMuch(t *testing.T) {
	w := hall(t, "ge", "")
	w.Code = byBars(t, "watch 0|go 0")
	w.Runs[0].At, w.Runs[1].At, w.Runs[0].Slots[0] = 0, 0, run(2)
	w.Sent, w.Taken, w.Lost = 8997, 8997, 0
	for turns := 0; turns <= 4; turns++ {
		x := impl.PlayTurns(w, turns)
		if isNoWorld(x) != (turns > 2) {
			t.Errorf("%d turns: %+v", turns, x)
		}
		if turns == 2 && x.Sent != 9000 {
			t.Errorf("two turns: %+v", x)
		}
	}
}

func TestPlaysShareNoMemory(t *testing.T) {
	for turns := -1; turns <= 6; turns++ {
		for _, base := range []impl.World{playWorld(t), impl.PlayTurns(playWorld(t), 3), crowd(t)} {
			inside, same := settled(base)
			spoilWorld(impl.PlayTurns(inside, turns))
			if !same() {
				t.Errorf("%d turns: %+v was written into", turns, base)
			}
		}
	}
}
