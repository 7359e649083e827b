package tests

import (
	"fmt"
	"slices"
	"strconv"
	"strings"
	"testing"

	"loop.example/errandry/impl"
)

// hallText waits for anything, for runs, for numbers, and for runs for a time, and begins anew.
const hallText = "take 1 0|take 1 3|take 1 1|after 1 3 0 n9|go 0"

// hallRun is a run by a letter: g goes, a waits for anything, r for runs, n for numbers, t for runs for a time, e ended.
func hallRun(t *testing.T, id int, letter string) impl.Run {
	t.Helper()
	switch letter {
	case "g":
		return runAt(id, 4, impl.RunGoing)
	case "a":
		return runAt(id, 0, impl.RunWaiting)
	case "r":
		return runAt(id, 1, impl.RunWaiting)
	case "n":
		return runAt(id, 2, impl.RunWaiting)
	case "t":
		r := runAt(id, 3, impl.RunWaiting)
		r.Due = stageNow + 9
		return r
	case "e":
		r := runAt(id, 2, impl.RunEnded)
		r.Why = name(3)
		return r
	}
	t.Fatalf("no letter of a run: %q", letter)
	return impl.Run{}
}

// hall is an ok world of runs by their letters, and of ties: 1-2 are linked, each behind the other one's links, 1>2 watches, 1! traps.
func hall(t *testing.T, letters, ties string) impl.World {
	t.Helper()
	var runs []impl.Run
	for i, letter := range strings.Split(letters, "") {
		runs = append(runs, hallRun(t, i+1, letter))
	}
	w := stage(t, runs...)
	w.Code = byBars(t, hallText)
	for _, tie := range strings.Fields(ties) {
		one := &w.Runs[tie[0]-'1']
		switch tie[1] {
		case '!':
			one.Trap = true
		case '-':
			other := &w.Runs[tie[2]-'1']
			one.Links, other.Links = append(one.Links, other.Id), append(other.Links, one.Id)
		case '>':
			other := &w.Runs[tie[2]-'1']
			other.Watched = append(other.Watched, one.Id)
		}
	}
	if !okWorldByHand(w) {
		t.Fatalf("%s, %s is not ok by hand", letters, ties)
	}
	return w
}

// mailed is a world in which these values wait for a run, and were sent.
func mailed(w impl.World, id int, mail ...impl.Val) impl.World {
	w = keptWorld(w)
	w.Sent += len(mail) - len(w.Runs[id-1].Mail)
	w.Runs[id-1].Mail = mail
	return w
}

func but(list []int, n int) []int {
	var others []int
	for _, x := range list {
		if x != n {
			others = append(others, x)
		}
	}
	return others
}

// endAlone ends one run, by hand, and is who falls next by it.
func endAlone(g *impl.World, id int, why impl.Val) []int {
	was := g.Runs[id-1]
	if was.State == 3 {
		return nil
	}
	g.Lost += len(was.Mail)
	g.Runs[id-1] = impl.Run{Id: id, At: was.At, Slots: was.Slots, Full: was.Full, State: 3, Trap: was.Trap, Why: why, Turns: was.Turns}
	g.Queue = but(g.Queue, id)
	for i := range g.Runs {
		g.Runs[i].Watched = but(g.Runs[i].Watched, id)
	}
	var next []int
	for _, other := range was.Links {
		r := &g.Runs[other-1]
		r.Links = but(r.Links, id)
		if why == name(0) {
			continue
		}
		if r.Trap {
			handOver(g, other, run(id))
		} else {
			next = append(next, other)
		}
	}
	for _, other := range was.Watched {
		handOver(g, other, run(id))
	}
	return next
}

// fallByHand ends a run, whatever the world is, with all that fall: who falls next stands in a line.
func fallByHand(g *impl.World, id int, why impl.Val) {
	for line := []int{id}; len(line) > 0; {
		next := endAlone(g, line[0], why)
		line = append(line[1:], next...)
	}
}

// fallenByHand is what the document says of FallEnd, worked out apart from the program.
func fallenByHand(w impl.World, id int, why impl.Val) impl.World {
	if !okWorldByHand(w) || !okValByHand(why) || w.Sent >= 9900 {
		return impl.World{}
	}
	g := keptWorld(w)
	if within(id, 1, len(g.Runs)) {
		fallByHand(&g, id, why)
	}
	return g
}

// aliveByHand says whether there is such a run in an ok world, and it did not end.
func aliveByHand(w impl.World, id int) bool {
	return okWorldByHand(w) && within(id, 1, len(w.Runs)) && w.Runs[id-1].State != 3
}

// withByHand marks who falls, again and again, until nobody is marked anew.
func withByHand(w impl.World, id int) []int {
	if !aliveByHand(w, id) {
		return nil
	}
	falls := map[int]bool{id: true}
	for range 6 {
		for _, r := range w.Runs {
			for _, other := range r.Links {
				if falls[other] && !r.Trap {
					falls[r.Id] = true
				}
			}
		}
	}
	var with []int
	for n := 1; n <= 6; n++ {
		if falls[n] {
			with = append(with, n)
		}
	}
	return with
}

func toldByHand(w impl.World, id int, why impl.Val) []int {
	if !aliveByHand(w, id) || !okValByHand(why) {
		return nil
	}
	var told []int
	for _, r := range w.Runs {
		watches := slices.Contains(w.Runs[id-1].Watched, r.Id)
		linked := slices.Contains(r.Links, id)
		if watches || linked && r.Trap && why != name(0) {
			told = append(told, r.Id)
		}
	}
	return told
}

// endedMore are the runs that did not end in the one world, and ended in the other.
func endedMore(w, x impl.World) []int {
	var more []int
	for i, r := range x.Runs {
		if r.State == impl.RunEnded && w.Runs[i].State != impl.RunEnded {
			more = append(more, r.Id)
		}
	}
	return more
}

// checkEnd holds FallEnd, FallWith and FallTold to what is worked out by hand, and to what is promised of each end; it is what FallEnd answered.
func checkEnd(t *testing.T, w impl.World, id int, why impl.Val) impl.World {
	t.Helper()
	x, want := impl.FallEnd(w, id, why), fallenByHand(w, id, why)
	if !sameWorld(x, want) {
		t.Fatalf("FallEnd of %d with %v, of %+v, is %+v, not %+v", id, why, w, x, want)
	}
	with, told := impl.FallWith(w, id), impl.FallTold(w, id, why)
	if !slices.Equal(with, withByHand(w, id)) {
		t.Fatalf("FallWith of %d, of %+v, is %v, not %v", id, w, with, withByHand(w, id))
	}
	if !slices.Equal(told, toldByHand(w, id, why)) {
		t.Fatalf("FallTold of %d with %v, of %+v, is %v, not %v", id, why, w, told, toldByHand(w, id, why))
	}
	if isNoWorld(want) {
		return x
	}
	if !impl.WorldOk(x) {
		t.Fatalf("FallEnd of %d with %v, of %+v, is not ok: %+v", id, why, w, x)
	}
	more := endedMore(w, x)
	if why == name(0) && len(more) > 1 || why != name(0) && !slices.Equal(more, with) {
		t.Fatalf("FallEnd of %d with %v, of %+v: %v ended", id, why, w, more)
	}
	checkGone(t, x, more, why)
	checkCounts(t, w, x, more)
	checkTold(t, w, x, id, why)
	checkOthers(t, w, x, more, why)
	return x
}

// checkGone: of those that ended nothing is left to do.
func checkGone(t *testing.T, x impl.World, gone []int, why impl.Val) {
	t.Helper()
	for _, id := range gone {
		r := x.Runs[id-1]
		if r.Why != why || r.Due != 0 || len(r.Mail)+len(r.Links)+len(r.Watched) > 0 || slices.Contains(x.Queue, id) {
			t.Fatalf("%d ended so: %+v", id, x)
		}
		for _, other := range x.Runs {
			if slices.Contains(other.Links, id) || slices.Contains(other.Watched, id) {
				t.Fatalf("%d has to do with %d, which ended: %+v", other.Id, id, x)
			}
		}
	}
}

// checkCounts: what waited for those that ended is lost, nothing is taken, and no value is missing.
func checkCounts(t *testing.T, w, x impl.World, gone []int) {
	t.Helper()
	waited := 0
	for _, id := range gone {
		waited += len(w.Runs[id-1].Mail)
	}
	if x.Lost < w.Lost+waited || x.Taken != w.Taken || x.Now != w.Now || x.Sent != x.Taken+x.Lost+waitsByHand(x) {
		t.Fatalf("%v ended: %+v was %+v", gone, x, w)
	}
}

// checkTold: who is told, and did not end, has the run among what is more of its mail, unless there was no room.
func checkTold(t *testing.T, w, x impl.World, id int, why impl.Val) {
	t.Helper()
	told := toldByHand(w, id, why)
	if x.Sent < w.Sent+len(told) {
		t.Fatalf("%v are told, but %d values were sent", told, x.Sent-w.Sent)
	}
	for _, n := range told {
		was, is := w.Runs[n-1], x.Runs[n-1]
		if is.State == impl.RunEnded || len(was.Mail) == impl.MailMax {
			continue
		}
		if more := is.Mail[len(was.Mail):]; !slices.Contains(more, run(id)) {
			t.Fatalf("%d is not told of %d: %+v", n, id, x)
		}
	}
}

// checkOthers: who did not end has what it had, with what it was told behind it; who is not told is as it was, but for whom it has to do with.
func checkOthers(t *testing.T, w, x impl.World, gone []int, why impl.Val) {
	t.Helper()
	told := map[int]bool{}
	for _, id := range gone {
		for _, n := range toldByHand(w, id, why) {
			told[n] = true
		}
	}
	for i, was := range w.Runs {
		is := x.Runs[i]
		if slices.Contains(gone, is.Id) {
			continue
		}
		if is.At != was.At || is.Full != was.Full || !slices.Equal(is.Slots, was.Slots) || !slices.Equal(is.Mail[:len(was.Mail)], was.Mail) {
			t.Fatalf("%v ended: %+v was %+v", gone, is, was)
		}
		was.Links, was.Watched = is.Links, is.Watched
		if !told[is.Id] && !sameRun(is, was) {
			t.Fatalf("%v ended, %d is not told: %+v was %+v", gone, is.Id, is, was)
		}
	}
}

// ends are values with which nobody ends normally, those that are near to it among them.
func ends() []impl.Val { return []impl.Val{name(1), num(0), {}, num(3), run(1), name(9)} }

func TestTheHallItself(t *testing.T) {
	w := hall(t, "garnte", "1-2 3>1 3-1 2!")
	if !slices.Equal(w.Runs[0].Links, []int{2, 3}) || !slices.Equal(w.Runs[0].Watched, []int{3}) || !slices.Equal(w.Runs[2].Links, []int{1}) || !w.Runs[1].Trap {
		t.Fatalf("%+v", w)
	}
	mustBeWorld(t, "the hall", w)
}

func TestP54JustThoseThatAreLinkedEnd(t *testing.T) {
	for _, c := range []struct {
		ties string
		id   int
		want []int
	}{
		{"", 1, []int{1}},
		{"", 6, []int{6}},
		{"1-2", 1, []int{1, 2}},
		{"1-2", 2, []int{1, 2}},
		{"1-2", 3, []int{3}},
		{"3-1 3-6 3-4", 3, []int{1, 3, 4, 6}},
		{"3-1 3-6 3-4", 6, []int{1, 3, 4, 6}},
		{"1-2 2-3 3-4 4-5 5-6", 1, []int{1, 2, 3, 4, 5, 6}},
		{"1-2 2-3 3-4 4-5 5-6", 4, []int{1, 2, 3, 4, 5, 6}},
		{"1-2 2-3 3-4 4-5 5-6 6-1", 5, []int{1, 2, 3, 4, 5, 6}},
		{"2-4 4-6 6-2", 4, []int{2, 4, 6}},
		{"1-2 2-3 4-5 5-6", 2, []int{1, 2, 3}},
		{"1-2 2-3 4-5 5-6", 6, []int{4, 5, 6}},
		{"1-2 2-3 3-4 2!", 1, []int{1}},
		{"1-2 2-3 3-4 2!", 2, []int{1, 2, 3, 4}},
		{"1-2 2-3 3-4 2!", 4, []int{3, 4}},
		{"1-2 1-3 2-3 2! 3!", 1, []int{1}},
		{"1-2 1-3 2-3 2! 3!", 2, []int{1, 2}},
		{"2>1 3>1 1>4", 1, []int{1}},
	} {
		for _, letters := range []string{"gggggg", "arntga", "nnnnnn"} {
			for _, why := range ends() {
				w := hall(t, letters, c.ties)
				x := checkEnd(t, w, c.id, why)
				if more := endedMore(w, x); !slices.Equal(more, c.want) {
					t.Errorf("%s, %s, %d ends with %v: %v ended", letters, c.ties, c.id, why, more)
				}
				for _, id := range c.want {
					if r := x.Runs[id-1]; r.Why != why || r.Due != 0 || r.State != impl.RunEnded {
						t.Errorf("%s, %s, %d ends with %v: %+v", letters, c.ties, c.id, why, r)
					}
				}
			}
		}
	}
}

// All worlds of four runs, by which are linked and which trap: every run ends, with every sort of value.
func TestP54AndP59AllWaysToBeLinked(t *testing.T) {
	pairs := []string{"1-2", "3-1", "1-4", "3-2", "2-4", "4-3"}
	for bits := range 1 << 10 {
		var ties []string
		for i, pair := range pairs {
			if bits>>i%2 == 1 {
				ties = append(ties, pair)
			}
		}
		for i := range 4 {
			if bits>>(6+i)%2 == 1 {
				ties = append(ties, strconv.Itoa(i+1)+"!")
			}
		}
		w := hall(t, "garn", strings.Join(ties, " "))
		for id := 1; id <= 4; id++ {
			for _, why := range []impl.Val{name(0), name(1), num(0)} {
				checkEnd(t, w, id, why)
			}
		}
	}
}

func TestP54ToP64AnyWorld(t *testing.T) {
	d := &dice{state: 54}
	for _, w := range throwWorlds(t, 5464, 1500) {
		for id := 0; id <= len(w.Runs)+1; id++ {
			checkEnd(t, w, id, d.val())
			checkEnd(t, w, id, name(d.below(2)))
		}
	}
}

// One end behind the other, until all ended.
func TestP55NothingIsLeftOfThoseThatEnded(t *testing.T) {
	d := &dice{state: 55}
	for _, w := range throwWorlds(t, 555, 300) {
		for i := range w.Runs {
			if w.Runs[i].State == impl.RunEnded {
				w.Runs[i].Due = 0
				for j := range w.Runs {
					w.Runs[j].Watched = but(w.Runs[j].Watched, i+1)
				}
			}
		}
		for _, id := range []int{3, 1, 6, 5, 2, 4} {
			w = checkEnd(t, w, id, d.val())
			for _, r := range w.Runs {
				if r.State == impl.RunEnded {
					checkGone(t, w, []int{r.Id}, r.Why)
				}
			}
		}
		if len(w.Queue) != 0 || impl.WorldWaits(w) != 0 || len(impl.WorldAlive(w)) != 0 {
			t.Fatalf("all ended, but %+v", w)
		}
	}
}

func TestP55TheQueueWithoutOne(t *testing.T) {
	for _, queue := range orders([]int{1, 2, 3, 4, 5, 6}) {
		w := hall(t, "gggggg", "2-5")
		w.Queue = queue
		for id := 1; id <= 6; id++ {
			x := checkEnd(t, w, id, name(1))
			want := but(queue, id)
			if id == 2 || id == 5 {
				want = but(but(queue, 2), 5)
			}
			if !slices.Equal(x.Queue, want) {
				t.Fatalf("%d of %v ends: to go on are %v", id, queue, x.Queue)
			}
		}
	}
}

// Run 1 ends; run 2, of each sort, with each number of values that wait for it, has this or that to do with it.
func TestP56WhoIsToldAndHowOften(t *testing.T) {
	for _, letter := range strings.Split("garnt", "") {
		for _, c := range []struct {
			ties  string
			given int
		}{
			{"1-2 2!", 1},
			{"2>1", 1},
			{"2>1 2!", 1},
			{"1-2 2! 2>1", 2},
			{"2!", 0},
			{"", 0},
			{"1>2", 0},
		} {
			for many := 0; many <= impl.MailMax; many++ {
				w := mailed(hall(t, "g"+letter+"g", c.ties), 2, slices.Repeat([]impl.Val{name(7)}, many)...)
				if letter == "a" && many > 0 {
					continue
				}
				x := checkEnd(t, w, 1, num(5))
				kept := min(c.given, impl.MailMax-many)
				mail := slices.Concat(w.Runs[1].Mail, slices.Repeat([]impl.Val{run(1)}, kept))
				if !slices.Equal(x.Runs[1].Mail, mail) || x.Sent != w.Sent+c.given || x.Lost != w.Lost+c.given-kept {
					t.Errorf("%s, %q, %d wait: %+v", letter, c.ties, many, x)
				}
				state, queue := w.Runs[1].State, []int{2, 3}
				if letter != "g" {
					queue = []int{3}
				}
				if kept > 0 && (letter == "a" || letter == "r" || letter == "t") {
					state, queue = impl.RunGoing, []int{3, 2}
				}
				if x.Runs[1].State != state || !slices.Equal(x.Queue, queue) || x.Runs[1].Due != w.Runs[1].Due {
					t.Errorf("%s, %q, %d wait: %+v, to go on are %v", letter, c.ties, many, x.Runs[1], x.Queue)
				}
			}
		}
	}
}

// Run 1 ends: what waits for each run behind it, in which order, who is to go on, and how many values more were sent, and lost.
func TestP54AndP56InWhichOrder(t *testing.T) {
	for _, c := range []struct {
		letters, ties string
		mail          map[int]string
		queue         string
		sent, lost    int
	}{
		// Who came to fall first falls first, ahead of those that came by its end: 1, 2, 3, 4.
		{"ggggng", "1-2 1-3 2-4 5>4 5>3 5>2 5>1", map[int]string{5: "r1 r2 r3 r4"}, "6", 4, 0},
		{"ggggng", "1-3 1-2 2-4 5>4 5>3 5>2 5>1", map[int]string{5: "r1 r3 r2 r4"}, "6", 4, 0},
		{"gggggn", "1-2 1-3 2-4 2-5 6>5 6>4 6>3 6>2 6>1", map[int]string{6: "r1 r2 r3 r4 r5"}, "", 5, 0},
		{"gggggn", "1-5 1-4 5-3 4-2 6>5 6>4 6>3 6>2 6>1", map[int]string{6: "r1 r5 r4 r3 r2"}, "", 5, 0},
		// One that came to fall twice falls by the first.
		{"ggggng", "1-2 1-3 2-3 3-4 5>4 5>3 5>2", map[int]string{5: "r2 r3 r4"}, "6", 3, 0},
		{"ggggng", "1-2 1-3 2-4 4-3 5>4 5>3 5>2", map[int]string{5: "r2 r3 r4"}, "6", 3, 0},
		// Those linked are told in their order, then those that watch, in theirs.
		{"gaaaag", "1-3 1-2 5>1 4>1 2! 3!", map[int]string{2: "r1", 3: "r1", 4: "r1", 5: "r1"}, "6 3 2 5 4", 4, 0},
		{"gaaaag", "5>1 4>1 1-2 1-3 2! 3!", map[int]string{2: "r1", 3: "r1", 4: "r1", 5: "r1"}, "6 2 3 5 4", 4, 0},
		{"grtrtr", "6>1 1-5 1-4 3>1 2>1 4! 5!", map[int]string{2: "r1", 3: "r1", 4: "r1", 5: "r1", 6: "r1"}, "5 4 6 3 2", 5, 0},
		// Who traps, and who falls, between one another: the end of 2 comes behind all that are told of 1.
		{"gnanaa", "1-2 1-3 1-4 2-5 3! 5! 6>2", map[int]string{3: "r1", 5: "r2", 6: "r2"}, "3 5 6", 3, 0},
		{"ggaaga", "1-2 2-3 1-4 3! 4! 2-5 5-6 6! 3>1", map[int]string{3: "r1 r2", 4: "r1", 6: "r5"}, "4 3 6", 4, 0},
		// Told by being linked, and by watching, with others told between.
		{"gnnggg", "1-2 1-3 2>1 3>1 2! 3!", map[int]string{2: "r1 r1", 3: "r1 r1"}, "4 5 6", 4, 0},
		// Told, and falls later by another way: what it was given is lost, and it does not go on.
		{"gagngg", "2>1 1-3 3-2 4>2", map[int]string{4: "r2"}, "5 6", 2, 1},
		{"gagngg", "2>1 1-2 4>2", map[int]string{4: "r2"}, "3 5 6", 2, 1},
		{"gnngrg", "2>1 3>1 1-4 4-2 2-3 5>3", map[int]string{5: "r3"}, "6 5", 3, 2},
		// Fell ahead of what it watches: it is not told any more.
		{"gaaggg", "1-2 1-3 2>3 3>2", map[int]string{}, "4 5 6", 1, 1},
		// Watches one that falls behind it, and is not told; who watches both is told of both.
		{"ggganr", "1-2 2-3 1>3 2>3 5>3 6>2", map[int]string{5: "r3", 6: "r2"}, "6", 2, 0},
	} {
		w := hall(t, c.letters, c.ties)
		x := checkEnd(t, w, 1, name(4))
		if queue := fmt.Sprint(x.Queue); queue != "["+c.queue+"]" {
			t.Errorf("%s, %s: to go on are %s", c.letters, c.ties, queue)
		}
		for id := 1; id <= 6; id++ {
			var mail []string
			for _, v := range x.Runs[id-1].Mail {
				mail = append(mail, impl.ValText(v))
			}
			if strings.Join(mail, " ") != c.mail[id] {
				t.Errorf("%s, %s: for %d wait %v", c.letters, c.ties, id, mail)
			}
		}
		if x.Sent != w.Sent+c.sent || x.Lost != w.Lost+c.lost {
			t.Errorf("%s, %s: %d more were sent, %d more lost", c.letters, c.ties, x.Sent-w.Sent, x.Lost-w.Lost)
		}
	}
}

func TestP56WithNoRoomAndRoomForOne(t *testing.T) {
	for many := 9; many <= 12; many++ {
		w := mailed(hall(t, "gggn", "1-2 1-3 4>1 4>3 4>2"), 4, slices.Repeat([]impl.Val{run(6)}, many)...)
		x := checkEnd(t, w, 1, num(1))
		want := append(slices.Repeat([]impl.Val{run(6)}, many), run(1), run(2), run(3))[:12]
		if !slices.Equal(x.Runs[3].Mail, want) || x.Sent != w.Sent+3 || x.Lost != w.Lost+many-9 {
			t.Errorf("%d wait: %+v", many, x)
		}
	}
}

// One that ended may still be named as one that watches: what it is given is lost.
func TestP56OneThatEndedIsToldForNothing(t *testing.T) {
	w := hall(t, "gea", "2>1 3>1")
	x := checkEnd(t, w, 1, name(0))
	if !sameRun(x.Runs[1], w.Runs[1]) || x.Sent != w.Sent+2 || x.Lost != w.Lost+1 || !slices.Equal(x.Queue, []int{3}) {
		t.Errorf("%+v", x)
	}
	if told := impl.FallTold(w, 1, name(0)); !slices.Equal(told, []int{2, 3}) {
		t.Errorf("told are %v", told)
	}
}

func TestP57OneThatEndedOrThatThereIsNot(t *testing.T) {
	for _, c := range []struct {
		letters string
		none    []int
	}{
		{"g", numbersAround(1, 1)},
		{"egr", append(numbersAround(1, 3), 1)},
		{"gae", append(numbersAround(1, 3), 3)},
		{"eeeeee", append(numbersAround(1, 6), 1, 2, 3, 4, 5, 6)},
		{"gggggg", numbersAround(1, 6)},
	} {
		w := hall(t, c.letters, "")
		for _, id := range append(c.none, 0, -1, len(c.letters)+1) {
			if within(id, 1, len(c.letters)) && c.letters[id-1] != 'e' {
				continue
			}
			for _, why := range append(ends(), name(0)) {
				if x := checkEnd(t, w, id, why); !sameWorld(x, w) {
					t.Errorf("%s: %d ends: %+v", c.letters, id, x)
				}
				if with, told := impl.FallWith(w, id), impl.FallTold(w, id, why); len(with)+len(told) > 0 {
					t.Errorf("%s: with %d fall %v, told are %v", c.letters, id, with, told)
				}
			}
		}
	}
	w := hall(t, "gar", "1-2 3>1 2!")
	x := checkEnd(t, w, 1, num(1))
	if again := checkEnd(t, x, 1, num(2)); !sameWorld(again, x) {
		t.Errorf("ended again: %+v was %+v", again, x)
	}
}

// A normal end, and ends that are near to one: linked is 2, which does not trap, 3, which does, and 4, which watches, too.
func TestP58OnlyOneNameIsNormal(t *testing.T) {
	w := hall(t, "gaaaag", "1-2 1-3 3! 1-4 4>1 5>1 2-6")
	x := checkEnd(t, w, 1, name(impl.FallNormal))
	if more := endedMore(w, x); !slices.Equal(more, []int{1}) || x.Runs[0].Why != name(0) {
		t.Errorf("%v ended", more)
	}
	for id, links := range [][]int{nil, {6}, nil, nil, nil, {2}} {
		if !slices.Equal(x.Runs[id].Links, links) {
			t.Errorf("%d is linked with %v", id+1, x.Runs[id].Links)
		}
	}
	for id, told := range []bool{false, false, false, true, true, false} {
		if is := slices.Equal(x.Runs[id].Mail, []impl.Val{run(1)}); is != told {
			t.Errorf("for %d wait %v", id+1, x.Runs[id].Mail)
		}
	}
	if !slices.Equal(x.Queue, []int{6, 4, 5}) || x.Sent != w.Sent+2 || x.Lost != w.Lost {
		t.Errorf("%+v", x)
	}
	for _, why := range ends() {
		x := checkEnd(t, w, 1, why)
		if more := endedMore(w, x); !slices.Equal(more, []int{1, 2, 4, 6}) {
			t.Errorf("with %v %v ended", why, more)
		}
		if !slices.Equal(x.Runs[2].Mail, []impl.Val{run(1)}) || !slices.Equal(x.Runs[4].Mail, []impl.Val{run(1)}) || x.Sent != w.Sent+3 || x.Lost != w.Lost+1 {
			t.Errorf("with %v: %+v", why, x)
		}
	}
}

func TestP58ANormalEndOfAnyRun(t *testing.T) {
	for _, w := range throwWorlds(t, 58, 400) {
		for _, r := range w.Runs {
			x := checkEnd(t, w, r.Id, name(0))
			if r.State == impl.RunEnded {
				continue
			}
			if more := endedMore(w, x); !slices.Equal(more, []int{r.Id}) || x.Sent != w.Sent+len(r.Watched) {
				t.Fatalf("%d ends: %v ended, of %+v", r.Id, more, w)
			}
			for i, is := range x.Runs {
				if is.Id != r.Id && !slices.Equal(is.Links, but(w.Runs[i].Links, r.Id)) {
					t.Fatalf("%d ends: %d is linked with %v, and was with %v", r.Id, is.Id, is.Links, w.Runs[i].Links)
				}
			}
		}
	}
}

// span is the numbers from one to another one.
func span(from, to int) []int {
	var list []int
	for n := from; n <= to; n++ {
		list = append(list, n)
	}
	return list
}

// Six runs in a chain, of which the one at each place traps, or none (0): who falls is all till there, on both sides.
func TestP59AndP61AChain(t *testing.T) {
	for trap := 0; trap <= 6; trap++ {
		ties := "5-6 2-3 1-2 4-3 5-4"
		if trap > 0 {
			ties += " " + strconv.Itoa(trap) + "!"
		}
		w := hall(t, "gnagrt", ties)
		for id := 1; id <= 6; id++ {
			want := span(1, 6)
			if 0 < trap && trap < id {
				want = span(trap+1, 6)
			} else if trap > id {
				want = span(1, trap-1)
			}
			if with := impl.FallWith(w, id); !slices.Equal(with, want) {
				t.Errorf("%d traps: with %d fall %v, not %v", trap, id, with, want)
			}
			checkEnd(t, w, id, num(0))
		}
	}
}

// In a ring all fall but the one that traps, from either side, unless it is that one which ends.
func TestP59AndP61ARing(t *testing.T) {
	for trap := 0; trap <= 6; trap++ {
		ties := "3-4 6-1 5-6 1-2 2-3 4-5"
		if trap > 0 {
			ties += " " + strconv.Itoa(trap) + "!"
		}
		w := hall(t, "rgnagt", ties)
		for id := 1; id <= 6; id++ {
			want := span(1, 6)
			if id != trap {
				want = but(want, trap)
			}
			if with := impl.FallWith(w, id); !slices.Equal(with, want) {
				t.Errorf("%d traps: with %d fall %v, not %v", trap, id, with, want)
			}
			checkEnd(t, w, id, num(0))
		}
	}
}

// Two groups, of the runs 1, 4 and 5, and of 2, 3 and 6, each all linked with one another.
func TestP59AndP61TwoGroups(t *testing.T) {
	groups := [][]int{{1, 4, 5}, {2, 3, 6}}
	for trap := 0; trap <= 6; trap++ {
		ties := "5-1 2-3 4-5 6-3 1-4 6-2"
		if trap > 0 {
			ties += " " + strconv.Itoa(trap) + "!"
		}
		w := hall(t, "rgnagt", ties)
		for _, group := range groups {
			for _, id := range group {
				want := group
				if id != trap {
					want = but(want, trap)
				}
				if with := impl.FallWith(w, id); !slices.Equal(with, want) {
					t.Errorf("%d traps: with %d fall %v, not %v", trap, id, with, want)
				}
				checkEnd(t, w, id, num(0))
			}
		}
	}
}

func TestP59AndP61WithEachOneAllThatAreLinkedAndDoNotTrap(t *testing.T) {
	for _, w := range throwWorlds(t, 59, 1500) {
		for _, r := range w.Runs {
			with := impl.FallWith(w, r.Id)
			if r.State == impl.RunEnded {
				if len(with) > 0 {
					t.Fatalf("%d ended, and with it fall %v", r.Id, with)
				}
				continue
			}
			if !slices.Contains(with, r.Id) || !slices.IsSorted(with) || len(slices.Compact(slices.Clone(with))) != len(with) {
				t.Fatalf("with %d fall %v", r.Id, with)
			}
			if len(r.Links) == 0 && len(with) != 1 {
				t.Fatalf("with %d, linked with nobody, fall %v", r.Id, with)
			}
			checkSameFrom(t, w, r, with)
		}
	}
}

// checkSameFrom: who falls with a run does not trap, nor has links with others that do not; from each of those it is the same, if the run does not trap.
func checkSameFrom(t *testing.T, w impl.World, r impl.Run, with []int) {
	t.Helper()
	for _, id := range with {
		other := w.Runs[id-1]
		if other.Trap && id != r.Id {
			t.Fatalf("with %d falls %d, which traps", r.Id, id)
		}
		for _, n := range other.Links {
			if !w.Runs[n-1].Trap && !slices.Contains(with, n) {
				t.Fatalf("with %d falls %d, but not %d, linked with that", r.Id, id, n)
			}
		}
		if again := impl.FallWith(w, id); !r.Trap && !slices.Equal(again, with) {
			t.Fatalf("with %d fall %v, with %d %v", r.Id, with, id, again)
		}
	}
}

// Run 3 has to do with nobody; run 4 traps, and is linked with one that does not fall; run 5 is watched by one that falls.
func TestP60WhoIsNotOfItIsAsItWas(t *testing.T) {
	for _, letters := range []string{"ggrggg", "ggnrnn", "ggttta", "ggaaag"} {
		w := hall(t, letters, "1-2 4! 4-6 6! 1>5 2>5")
		for id := 3; id <= 6; id++ {
			if letters[id-1] != 'a' {
				w = mailed(w, id, name(id), name(9), impl.Val{})
			}
			w.Runs[id-1].Turns = 77
		}
		x := checkEnd(t, w, 2, run(2))
		for id := 3; id <= 6; id++ {
			want := keptRun(w.Runs[id-1])
			want.Watched = nil
			if !sameRun(x.Runs[id-1], want) {
				t.Errorf("%s: %+v was %+v", letters, x.Runs[id-1], want)
			}
		}
		if x.Sent != w.Sent || x.Lost != w.Lost || !slices.Equal(x.Queue, but(but(w.Queue, 1), 2)) {
			t.Errorf("%s: %+v was %+v", letters, x, w)
		}
	}
}

// Who watches one that fell with the run is told of that one, though not of FallTold of the run.
func TestP60ToldOfOneThatFellWithIt(t *testing.T) {
	w := hall(t, "ggaa", "1-2 2-3 3! 4>2")
	x := checkEnd(t, w, 1, num(1))
	if told := impl.FallTold(w, 1, num(1)); len(told) != 0 {
		t.Errorf("told are %v", told)
	}
	for _, id := range []int{3, 4} {
		if !slices.Equal(x.Runs[id-1].Mail, []impl.Val{run(2)}) {
			t.Errorf("for %d wait %v", id, x.Runs[id-1].Mail)
		}
	}
}

// What is kept of one that ended: its place, its slots, whether it traps, and its turns.
func TestP54WhatIsKeptOfOneThatEnded(t *testing.T) {
	w := mailed(hall(t, "gt", "1-2 1! 2>1"), 2, name(1))
	w.Runs[0].Turns, w.Runs[1].Turns, w.Runs[0].Due = 5, 6, -1
	x := checkEnd(t, w, 1, run(3))
	for i, was := range w.Runs {
		want := impl.Run{Id: was.Id, At: was.At, Slots: was.Slots, Full: was.Full, State: impl.RunEnded, Trap: was.Trap, Why: run(3), Turns: was.Turns}
		if !sameRun(x.Runs[i], want) {
			t.Errorf("%+v was %+v", x.Runs[i], was)
		}
	}
}

// What is lost: what waited for those that ended, and what was given with no room, or to one that ended then.
func TestP62WhatIsLost(t *testing.T) {
	twelve := slices.Repeat([]impl.Val{name(2)}, 12)
	for _, c := range []struct {
		ties       string
		mails      [6]int
		sent, lost int
	}{
		{"", [6]int{3}, 0, 3},
		{"1-2", [6]int{3, 4}, 0, 7},
		{"1-2", [6]int{12, 12, 12}, 0, 24},
		{"1-2 2-3", [6]int{0, 0, 5}, 0, 5},
		{"1-2 2!", [6]int{3, 4}, 1, 3},
		{"1-2 2!", [6]int{3, 12}, 1, 4},
		{"1-2 2! 2>1", [6]int{3, 12}, 2, 5},
		{"1-2 2! 2>1", [6]int{3, 11}, 2, 4},
		{"1-2 2! 2>1", [6]int{3, 10}, 2, 3},
		{"2>1 1-2", [6]int{1, 1}, 1, 3},
		{"2>1 1-3 3-2", [6]int{0, 12, 2}, 1, 15},
		{"2>1 1-3 3-2", [6]int{0, 11, 2}, 1, 14},
		{"4>1 5>1 6>1 1-2 2-3", [6]int{1, 1, 1, 12, 12, 11}, 3, 5},
	} {
		w := hall(t, "gggggg", c.ties)
		for i, many := range c.mails {
			w = mailed(w, i+1, twelve[:many]...)
		}
		x := checkEnd(t, w, 1, name(5))
		if x.Sent != w.Sent+c.sent || x.Lost != w.Lost+c.lost || x.Taken != w.Taken || x.Sent != x.Taken+x.Lost+impl.WorldWaits(x) {
			t.Errorf("%s, %v: %d more were sent, %d more lost, %d more taken", c.ties, c.mails, x.Sent-w.Sent, x.Lost-w.Lost, x.Taken-w.Taken)
		}
	}
}

func TestP63TwoEndsInBothOrders(t *testing.T) {
	d, held := &dice{state: 63}, 0
	for _, w := range throwWorlds(t, 630, 1500) {
		for one := 1; one <= len(w.Runs); one++ {
			for other := one + 1; other <= len(w.Runs); other++ {
				if slices.Contains(impl.FallWith(w, one), other) || slices.Contains(impl.FallWith(w, other), one) {
					continue
				}
				v, x := d.val(), d.val()
				a := checkEnd(t, checkEnd(t, w, one, v), other, x)
				b := checkEnd(t, checkEnd(t, w, other, x), one, v)
				if v != name(0) && x != name(0) && !slices.Equal(endedMore(w, a), endedMore(w, b)) {
					t.Fatalf("%d and %d end: %v ended, the other way about %v", one, other, endedMore(w, a), endedMore(w, b))
				}
				held++
			}
		}
	}
	if held < 1000 {
		t.Errorf("just %d pairs were held against each other", held)
	}
}

func TestP64WhoIsTold(t *testing.T) {
	for _, c := range []struct {
		ties           string
		normal, others string
	}{
		{"", "[]", "[]"},
		{"4>3", "[4]", "[4]"},
		{"6>3 1>3 5>3", "[1 5 6]", "[1 5 6]"},
		{"3-4", "[]", "[]"},
		{"3-4 4!", "[]", "[4]"},
		{"3-4 4>3", "[4]", "[4]"},
		{"3-4 4! 4>3", "[4]", "[4]"},
		{"3-6 3-1 3-5 6! 1! 5! 5>3", "[5]", "[1 5 6]"},
		{"3-6 3-1 6! 1! 5>3 2>3", "[2 5]", "[1 2 5 6]"},
		{"3-6 3-1 6! 5>3 2>3 3!", "[2 5]", "[2 5 6]"},
		{"3-2 2-4 4! 3>4 3>1", "[]", "[]"},
		{"4! 5! 6!", "[]", "[]"},
	} {
		for _, letters := range []string{"gggggg", "arntga"} {
			w := hall(t, letters, c.ties)
			if told := fmt.Sprint(impl.FallTold(w, 3, name(0))); told != c.normal {
				t.Errorf("%s: told are %s of a normal end", c.ties, told)
			}
			for _, why := range ends() {
				if told := fmt.Sprint(impl.FallTold(w, 3, why)); told != c.others {
					t.Errorf("%s: told are %s of an end with %v", c.ties, told, why)
				}
			}
		}
	}
}

// isNoFall says whether all three answer nothing.
func isNoFall(w impl.World, id int, why impl.Val) bool {
	return isNoWorld(impl.FallEnd(w, id, why)) && len(impl.FallWith(w, id)) == 0 && len(impl.FallTold(w, id, why)) == 0
}

func TestP57OfAWorldThatIsNotOk(t *testing.T) {
	for i, spoiled := range []func(*impl.World){
		func(w *impl.World) { w.Now = 301 },
		func(w *impl.World) { w.Sent++ },
		func(w *impl.World) { w.Queue = append(w.Queue, 1) },
		func(w *impl.World) { w.Queue = nil },
		func(w *impl.World) { w.Code = w.Code[:4] },
		func(w *impl.World) { w.Code = nil },
		func(w *impl.World) { w.Runs[0].Links = nil },
		func(w *impl.World) { w.Runs[1].Links = append(w.Runs[1].Links, 5) },
		func(w *impl.World) { w.Runs[1].Links = append(w.Runs[1].Links, 7) },
		func(w *impl.World) { w.Runs[0].Watched = []int{5} },
		func(w *impl.World) { w.Runs[0].Watched = []int{0} },
		func(w *impl.World) { w.Runs[2].Id = 2 },
		func(w *impl.World) { w.Runs = nil },
	} {
		for id := -1; id <= 6; id++ {
			w := keptWorld(hall(t, "gran", "1-2 2-3 4>1 4>2 3!"))
			spoiled(&w)
			for _, why := range []impl.Val{name(0), num(1)} {
				if !isNoFall(w, id, why) {
					t.Errorf("spoiled %d, %d ends: %+v", i, id, impl.FallEnd(w, id, why))
				}
			}
		}
	}
	if !isNoFall(impl.World{}, 1, num(1)) {
		t.Error("of no world")
	}
}

func TestP57WithAValueThatIsNotOk(t *testing.T) {
	w := hall(t, "grae", "1-2 2-3 3! 3>1 2>1 1>2")
	for _, why := range wrongVals() {
		for id := -1; id <= 6; id++ {
			if x := impl.FallEnd(w, id, why); !isNoWorld(x) {
				t.Errorf("%d ends with %v: %+v", id, why, x)
			}
			if told := impl.FallTold(w, id, why); len(told) > 0 {
				t.Errorf("%d ends with %v: told are %v", id, why, told)
			}
		}
	}
}

func TestP57WithMuchSent(t *testing.T) {
	for _, sent := range []int{0, 8999, 9000, 9898, 9899, 9900, 9901, 9989, 9990, 9999} {
		w := hall(t, "gran", "1-2 2-3 3! 4>1")
		w.Sent, w.Taken, w.Lost = sent, sent/3, sent-sent/3
		for id := 0; id <= 5; id++ {
			x := checkEnd(t, w, id, num(1))
			if isNoWorld(x) != (sent >= 9900) {
				t.Errorf("%d sent, %d ends: %+v", sent, id, x)
			}
		}
		if with, told := impl.FallWith(w, 1), impl.FallTold(w, 2, num(1)); !slices.Equal(with, []int{1, 2}) || !slices.Equal(told, []int{3}) {
			t.Errorf("%d sent: with 1 fall %v, of 2 are told %v", sent, with, told)
		}
	}
}

// Of six runs, all linked and watched by all, with as much sent as may be, all end, and no count is beyond its bound.
func TestP62AsMuchAsCanBeSentByOneEnd(t *testing.T) {
	w := hall(t, "gggggg", "1-2 1-3 1-4 1-5 1-6 2-3 2-4 2-5 2-6 3-4 3-5 3-6 4-5 4-6 5-6")
	for i := range w.Runs {
		w.Runs[i].Watched = but(span(1, 6), i+1)
	}
	w.Sent, w.Taken, w.Lost = 9899, 0, 9899
	x := checkEnd(t, w, 4, num(1))
	if len(endedMore(w, x)) != 6 || x.Sent != 9899+5+4+3+2+1 || x.Lost != x.Sent {
		t.Errorf("%+v", x)
	}
}

// fallsOf are all worlds, and all lists, that are answered of one.
func fallsOf(w impl.World) (worlds []impl.World, lists [][]int) {
	for id := 0; id <= 7; id++ {
		lists = append(lists, impl.FallWith(w, id))
		for _, why := range []impl.Val{name(0), num(1)} {
			worlds = append(worlds, impl.FallEnd(w, id, why))
			lists = append(lists, impl.FallTold(w, id, why))
		}
	}
	return worlds, lists
}

func TestP60WhatIsHandedInIsNotWrittenInto(t *testing.T) {
	for i, w := range throwWorlds(t, 600, 250) {
		if i%6 == 5 {
			w.Now = 301
		}
		inside, same := settled(w)
		worlds, lists := fallsOf(inside)
		if !same() {
			t.Fatalf("%+v was written into", w)
		}
		for _, answer := range worlds {
			spoilWorld(answer)
		}
		for _, answer := range lists {
			spoil(answer, 77)
		}
		if !same() {
			t.Fatalf("an answer shares memory with %+v", w)
		}
	}
}

func TestP60AnswersShareNoMemoryWithEachOther(t *testing.T) {
	for _, w := range throwWorlds(t, 601, 60) {
		worlds, lists := fallsOf(w)
		var kept []impl.World
		for _, x := range worlds {
			kept = append(kept, keptWorld(x))
		}
		var were [][]int
		for _, list := range lists {
			were = append(were, slices.Clone(list))
		}
		for i, x := range worlds {
			spoilWorld(x)
			for j := i + 1; j < len(worlds); j++ {
				if !sameWorld(worlds[j], kept[j]) {
					t.Fatalf("worlds %d and %d of %+v share memory", i, j, w)
				}
			}
		}
		for i, list := range lists {
			if !slices.Equal(list, were[i]) {
				t.Fatalf("list %d of %+v shares memory", i, w)
			}
			spoil(list, 77)
		}
	}
}

// The lists that are handed in share their memory, whatever run they are of; those of an answer must share none all the same.
func TestP60ListsOfOneAnswerShareNoMemory(t *testing.T) {
	ids := []int{1, 2, 3, 1, 2}
	vals := []impl.Val{run(1), name(1), run(2), {}}
	w := hall(t, "gggg", "")
	for i := range 3 {
		r := &w.Runs[i]
		r.Slots, r.Mail, r.Links, r.Watched = vals, vals[:3], ids[i+1:i+3], ids[i+1:i+3]
	}
	w.Sent += 9
	mustBeWorld(t, "lists that share memory", w)
	for trap := 0; trap <= 3; trap++ {
		for i := range w.Runs {
			w.Runs[i].Trap = i+1 == trap
		}
		for id := 0; id <= 4; id++ {
			for _, why := range []impl.Val{name(0), num(1)} {
				checkEnd(t, w, id, why)
				many, _ := listsOf(impl.FallEnd(w, id, why))
				for i := range many {
					spoils, same := listsOf(impl.FallEnd(w, id, why))
					spoils[i]()
					for j, is := range same {
						if i != j && !is() {
							t.Errorf("%d ends: lists %d and %d of the answer share memory", id, i, j)
						}
					}
				}
			}
		}
	}
	if !slices.Equal(ids, []int{1, 2, 3, 1, 2}) || !slices.Equal(vals, []impl.Val{run(1), name(1), run(2), {}}) {
		t.Errorf("what was handed in is %v, %v", ids, vals)
	}
}
