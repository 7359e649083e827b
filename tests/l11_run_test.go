package tests

import (
	"math"
	"slices"
	"testing"

	"loop.example/errandry/impl"
)

// Bounds of the document, written out apart from the program's own constants.
const (
	mostRuns = 6
	allSlots = 4
	mostMail = 12
)

// handVals are all ok values, worked out apart from the program.
var handVals = okByHand()

func name(n int) impl.Val { return impl.Val{Kind: impl.ValName, N: n} }

func run(n int) impl.Val { return impl.Val{Kind: impl.ValRun, N: n} }

func okValByHand(v impl.Val) bool {
	_, is := handVals[v]
	return is
}

// edgeVals has of each kind the least and the greatest value, in no order of kinds.
func edgeVals() []impl.Val {
	return []impl.Val{num(-99), name(0), run(1), {}, num(99), name(9), run(6), num(0)}
}

// wrongVals are values that are not ok, though some are so but for one more.
func wrongVals() []impl.Val {
	return []impl.Val{
		{N: 1}, {N: -1}, num(100), num(-100), num(math.MaxInt), num(math.MinInt), name(-1), name(10), run(0), run(7), run(-1),
		{Kind: -1}, {Kind: 4}, {Kind: 4, N: 1}, {Kind: math.MinInt}, {Kind: math.MaxInt, N: 1}, {Kind: 1 << 32}, {Kind: 1<<32 + 1, N: 1},
	}
}

// sameRun holds all that a run has against another one's; an empty list is the same as nil.
func sameRun(a, b impl.Run) bool {
	return a.Id == b.Id && a.At == b.At && a.Full == b.Full && a.State == b.State && a.Due == b.Due && a.Trap == b.Trap && a.Why == b.Why && a.Turns == b.Turns &&
		slices.Equal(a.Slots, b.Slots) && slices.Equal(a.Mail, b.Mail) && slices.Equal(a.Links, b.Links) && slices.Equal(a.Watched, b.Watched)
}

func keptRun(r impl.Run) impl.Run {
	r.Slots, r.Mail = slices.Clone(r.Slots), slices.Clone(r.Mail)
	r.Links, r.Watched = slices.Clone(r.Links), slices.Clone(r.Watched)
	return r
}

func isNothing(r impl.Run) bool { return sameRun(r, impl.Run{}) }

func within(n, least, most int) bool { return least <= n && n <= most }

// okRunByHand is what the document says of runs, worked out apart from the program.
func okRunByHand(r impl.Run) bool {
	ok := within(r.Id, 1, mostRuns) && within(r.At, 0, 15) && within(r.Full, 0, 15) && within(r.State, 1, 3) && within(r.Due, -1, 400) && within(r.Turns, 0, 9999)
	if !ok || len(r.Slots) != allSlots || len(r.Mail) > mostMail {
		return false
	}
	bits := r.Full
	for _, v := range r.Slots {
		if !okValByHand(v) || bits%2 == 0 && v != (impl.Val{}) {
			return false
		}
		bits /= 2
	}
	for _, v := range r.Mail {
		if !okValByHand(v) {
			return false
		}
	}
	if r.State == 3 {
		return len(r.Mail)+len(r.Links)+len(r.Watched) == 0
	}
	return othersByHand(r.Id, r.Links) && othersByHand(r.Id, r.Watched) && r.Why == impl.Val{}
}

func othersByHand(id int, list []int) bool {
	seen := map[int]int{id: 1}
	for _, n := range list {
		seen[n]++
		if seen[n] > 1 || !within(n, 1, mostRuns) {
			return false
		}
	}
	return true
}

// Ok runs of each state: one that has just begun, one that has as much as may be, one that waits, and one that ended.
func newRun() impl.Run {
	return impl.Run{Id: 1, Slots: []impl.Val{num(5), {}, {}, {}}, Full: 1, State: impl.RunGoing}
}

func fullRun() impl.Run {
	return impl.Run{
		Id: 6, At: 15, Slots: []impl.Val{num(-99), {}, name(9), run(6)}, Full: 15, State: impl.RunGoing, Due: -1,
		Mail:  []impl.Val{num(1), name(1), {}, run(1), num(2), name(2), {}, run(2), num(99), name(0), num(-99), run(6)},
		Links: []int{5, 1, 4, 2, 3}, Watched: []int{2, 3, 1, 5, 4}, Trap: true, Turns: 9999,
	}
}

func waitingRun() impl.Run {
	return impl.Run{
		Id: 3, At: 7, Slots: []impl.Val{{}, name(3), {}, num(7)}, Full: 10, State: impl.RunWaiting, Due: 400,
		Mail: []impl.Val{name(4), run(3), name(4)}, Links: []int{6}, Watched: []int{1, 2}, Turns: 12,
	}
}

func endedRun() impl.Run {
	return impl.Run{Id: 2, At: 3, Slots: []impl.Val{run(2), {}, {}, num(1)}, Full: 13, State: impl.RunEnded, Why: name(1), Trap: true, Turns: 4}
}

func okRuns() []impl.Run {
	return []impl.Run{newRun(), fullRun(), waitingRun(), endedRun()}
}

func (d *dice) val() impl.Val {
	kinds := [][]impl.Val{{{}}, {num(1), num(2), num(-99)}, {name(0), name(9)}, {run(1), run(6)}}
	of := kinds[d.below(4)]
	return of[d.below(len(of))]
}

// others are some of the runs but this one, each once, in any order.
func (d *dice) others(id int) []int {
	var list []int
	for range d.below(7) {
		if n := 1 + d.below(6); n != id && !slices.Contains(list, n) {
			list = append(list, n)
		}
	}
	return list
}

// run is an ok run.
func (d *dice) run() impl.Run {
	r := impl.Run{Id: 1 + d.below(6), At: d.below(16), Slots: make([]impl.Val, 4), Full: d.below(16), State: 1 + d.below(3), Due: d.below(402) - 1, Trap: d.below(2) == 0, Turns: d.below(10000)}
	for slot := range r.Slots {
		if r.Full>>slot%2 == 1 {
			r.Slots[slot] = d.val()
		}
	}
	if r.State == impl.RunEnded {
		r.Why = d.val()
		return r
	}
	for range d.below(13) {
		r.Mail = append(r.Mail, d.val())
	}
	r.Links, r.Watched = d.others(r.Id), d.others(r.Id)
	return r
}

func throwRuns(state uint64, many int) []impl.Run {
	d := &dice{state: state}
	runs := okRuns()
	for range many {
		runs = append(runs, d.run())
	}
	return runs
}

// mailsOf are all lists of so many values, at most, of a few of each kind.
func mailsOf(most int) [][]impl.Val {
	few := []impl.Val{{}, num(1), num(2), name(1), run(1)}
	mails, from := [][]impl.Val{nil}, 0
	for range most {
		till := len(mails)
		for _, m := range mails[from:till] {
			for _, v := range few {
				mails = append(mails, append(slices.Clone(m), v))
			}
		}
		from = till
	}
	return mails
}

// runsWithMail are runs with all mails of at most five values, and those that dice throw.
func runsWithMail() []impl.Run {
	runs := throwRuns(31, 2000)
	for i, mail := range mailsOf(5) {
		r := []impl.Run{newRun(), fullRun(), waitingRun()}[i%3]
		r.Mail = mail
		runs = append(runs, r)
	}
	return runs
}

// firstByHand looks from the last value to the first: whichever fits last in that order is the eldest.
func firstByHand(mail []impl.Val, kind int) (int, bool) {
	at, is := 0, false
	for i := len(mail) - 1; i >= 0; i-- {
		if kind == 0 || mail[i].Kind == kind && within(kind, 1, 3) {
			at, is = i, true
		}
	}
	return at, is
}

func takenByHand(r impl.Run, kind int) (impl.Run, impl.Val, bool) {
	at, is := firstByHand(r.Mail, kind)
	if !is {
		return impl.Run{}, impl.Val{}, false
	}
	left := keptRun(r)
	left.Mail = nil
	for i, v := range r.Mail {
		if i != at {
			left.Mail = append(left.Mail, v)
		}
	}
	return left, r.Mail[at], true
}

func putByHand(r impl.Run, slot int, v impl.Val) impl.Run {
	put := keptRun(r)
	put.Slots[slot] = v
	if put.Full>>slot%2 == 0 {
		put.Full += []int{1, 2, 4, 8}[slot]
	}
	return put
}

// mustBeRun asks for a run, and that what the other functions ask of one is so.
func mustBeRun(t *testing.T, what string, r impl.Run) {
	t.Helper()
	if !impl.RunOk(r) {
		t.Errorf("%s: RunOk of %+v is false", what, r)
	}
	if put := impl.RunPut(r, 0, num(1)); !sameRun(put, putByHand(r, 0, num(1))) {
		t.Errorf("%s: RunPut of %+v is %+v", what, r, put)
	}
}

// mustNotBeRun holds each function to its one fixed answer at a run that is not ok.
func mustNotBeRun(t *testing.T, what string, r impl.Run) {
	t.Helper()
	if impl.RunOk(r) {
		t.Errorf("%s: RunOk of %+v is true", what, r)
	}
	for kind := -1; kind <= 4; kind++ {
		if at, ok := impl.RunFirst(r, kind); at != 0 || ok {
			t.Errorf("%s: RunFirst of %+v of %d is %d, %v", what, r, kind, at, ok)
		}
		if left, v, ok := impl.RunTake(r, kind); !isNothing(left) || v != (impl.Val{}) || ok {
			t.Errorf("%s: RunTake of %+v of %d is %+v, %v, %v", what, r, kind, left, v, ok)
		}
	}
	for slot := -1; slot <= 4; slot++ {
		if put := impl.RunPut(r, slot, num(1)); !isNothing(put) {
			t.Errorf("%s: RunPut of %+v in %d is %+v", what, r, slot, put)
		}
	}
}

// checkRun holds RunOk, and what hangs on it, to what is asked.
func checkRun(t *testing.T, what string, r impl.Run, want bool) {
	t.Helper()
	if want {
		mustBeRun(t, what, r)
	} else {
		mustNotBeRun(t, what, r)
	}
}

// numbersAround are the ends of a range, one beyond each, and such as look like ones within if bits are lost.
func numbersAround(least, most int) []int {
	return []int{least - 1, least, least + 1, most - 1, most, most + 1, -least - 2, -most - 1, math.MinInt, math.MaxInt, 1<<32 + most, 1 << 32, 256 + most, 65536 + most}
}

func TestRunConstants(t *testing.T) {
	got := []int{impl.RunGoing, impl.RunWaiting, impl.RunEnded, impl.MailMax}
	for i, want := range []int{1, 2, 3, 12} {
		if got[i] != want {
			t.Errorf("constant %d is %d, not %d", i, got[i], want)
		}
	}
}

func checkNew(t *testing.T, id, at int, v impl.Val) {
	t.Helper()
	is := within(id, 1, 6) && within(at, 0, 15) && okValByHand(v)
	want := impl.Run{}
	if is {
		want = impl.Run{Id: id, At: at, Slots: []impl.Val{v, {}, {}, {}}, Full: 1, State: 1}
	}
	r, ok := impl.RunNew(id, at, v)
	if ok != is || !sameRun(r, want) {
		t.Errorf("RunNew(%d, %d, %v) is %+v, %v, not %+v, %v", id, at, v, r, ok, want, is)
	}
	if ok && !impl.RunOk(r) {
		t.Errorf("RunNew(%d, %d, %v) is not ok: %+v", id, at, v, r)
	}
}

func TestP31NewAtTheBounds(t *testing.T) {
	vals := append(edgeVals(), wrongVals()...)
	for _, id := range append(numbersAround(1, 6), 3) {
		for _, at := range append(numbersAround(0, 15), 8) {
			for _, v := range vals {
				checkNew(t, id, at, v)
			}
		}
	}
}

func TestP31NewWithEveryValue(t *testing.T) {
	for _, v := range manyVals() {
		checkNew(t, 2, 4, v)
	}
	for _, r := range handRows {
		for id := 1; id <= 6; id++ {
			checkNew(t, id, 15, r.v)
		}
	}
}

func TestP31NewIsGoingAndLinkedWithNobody(t *testing.T) {
	r, ok := impl.RunNew(2, 4, run(2))
	if !ok || r.Id != 2 || r.At != 4 || r.State != impl.RunGoing || r.Full != 1 || len(r.Slots) != 4 || r.Slots[0] != run(2) {
		t.Fatalf("%+v, %v", r, ok)
	}
	if len(r.Mail)+len(r.Links)+len(r.Watched) != 0 || r.Trap || r.Why != (impl.Val{}) || r.Due != 0 || r.Turns != 0 {
		t.Errorf("%+v has more than it begins with", r)
	}
	if r, _ := impl.RunNew(2, 4, impl.Val{}); r.Full != 1 {
		t.Errorf("with nothing in it the first slot is not full: %+v", r)
	}
}

func TestP37OkAtTheBoundsOfEachNumber(t *testing.T) {
	for _, c := range []struct {
		what        string
		least, most int
		set         func(*impl.Run, int)
	}{
		{"At", 0, 15, func(r *impl.Run, n int) { r.At = n }},
		{"Due", -1, 400, func(r *impl.Run, n int) { r.Due = n }},
		{"Turns", 0, 9999, func(r *impl.Run, n int) { r.Turns = n }},
	} {
		for _, r := range okRuns() {
			for _, n := range append(numbersAround(c.least, c.most), 0) {
				c.set(&r, n)
				checkRun(t, c.what, r, within(n, c.least, c.most))
			}
		}
	}
}

func TestP37OkAtTheBoundsOfItsNumber(t *testing.T) {
	for _, id := range numbersAround(1, 6) {
		r := newRun()
		r.Id = id
		checkRun(t, "Id", r, within(id, 1, 6))
	}
}

func TestP37OkAtTheBoundsOfStates(t *testing.T) {
	for _, state := range numbersAround(1, 3) {
		r := newRun()
		r.State = state
		checkRun(t, "State", r, within(state, 1, 3))
	}
}

func TestP37HowManySlots(t *testing.T) {
	for _, base := range okRuns() {
		for many := 0; many <= 9; many++ {
			r := base
			r.Slots = slices.Clone(base.Slots)
			for len(r.Slots) < many {
				r.Slots = append(r.Slots, impl.Val{})
			}
			r.Slots = r.Slots[:many]
			checkRun(t, "slots", r, many == 4)
		}
	}
	r := newRun()
	r.Slots, r.Full = nil, 0
	mustNotBeRun(t, "no slots", r)
}

// Each way in which slots may be full, against each way in which they have something.
func TestP37ASlotThatIsNotFullHasNothing(t *testing.T) {
	for full := 0; full <= 15; full++ {
		for with := 0; with <= 15; with++ {
			for _, v := range []impl.Val{num(0), name(0), run(1), num(-5)} {
				r := waitingRun()
				r.Full, r.Slots = full, make([]impl.Val, 4)
				for slot := range r.Slots {
					if with>>slot%2 == 1 {
						r.Slots[slot] = v
					}
				}
				checkRun(t, "slots that are full", r, with&^full == 0)
			}
		}
	}
}

func TestP37FullBeyondItsBits(t *testing.T) {
	for _, base := range okRuns() {
		for _, full := range []int{-1, -2, -16, 16, 17, 31, 32, 63, 255, 256 + 15, 1 << 32, 1<<32 + 15, math.MinInt, math.MaxInt} {
			r := base
			r.Full = full
			mustNotBeRun(t, "Full", r)
			r.Full, r.Slots = full, make([]impl.Val, 4)
			mustNotBeRun(t, "Full, with nothing", r)
		}
	}
}

func TestP37SlotsWithAnyValue(t *testing.T) {
	for _, v := range append(edgeVals(), wrongVals()...) {
		for slot := range 4 {
			r := fullRun()
			r.Slots[slot] = v
			checkRun(t, "a slot that is full", r, okValByHand(v))
			r.Full &^= 1 << slot
			checkRun(t, "a slot that is not", r, v == impl.Val{})
		}
	}
}

func TestP37HowManyValuesWait(t *testing.T) {
	for many := 0; many <= 40; many++ {
		for _, v := range edgeVals() {
			r := newRun()
			r.Mail = slices.Repeat([]impl.Val{v}, many)
			checkRun(t, "mail", r, many <= 12)
		}
	}
}

func TestP37MailWithAnyValue(t *testing.T) {
	for _, v := range append(edgeVals(), wrongVals()...) {
		for many := 1; many <= 12; many++ {
			for place := range many {
				r := fullRun()
				r.Mail = r.Mail[:many]
				r.Mail[place] = v
				checkRun(t, "mail", r, okValByHand(v))
			}
		}
	}
}

// linkLists are lists of runs beside whether a run of the number 3 may have them.
func linkLists() []struct {
	list []int
	is   bool
} {
	return []struct {
		list []int
		is   bool
	}{
		{nil, true}, {[]int{}, true}, {[]int{1}, true}, {[]int{6}, true}, {[]int{2}, true}, {[]int{4}, true}, {[]int{6, 1}, true}, {[]int{1, 2, 4, 5, 6}, true}, {[]int{6, 5, 4, 2, 1}, true}, {[]int{4, 1, 6, 2, 5}, true},
		{[]int{3}, false}, {[]int{1, 3}, false}, {[]int{3, 1}, false}, {[]int{1, 2, 3, 4, 5, 6}, false}, {[]int{6, 5, 4, 2, 1, 3}, false},
		{[]int{0}, false}, {[]int{7}, false}, {[]int{-1}, false}, {[]int{1, 0}, false}, {[]int{1, 7}, false}, {[]int{0, 1}, false}, {[]int{7, 6}, false}, {[]int{math.MinInt}, false}, {[]int{math.MaxInt}, false}, {[]int{1<<32 + 1}, false}, {[]int{257}, false},
		{[]int{1, 1}, false}, {[]int{6, 6}, false}, {[]int{1, 2, 1}, false}, {[]int{2, 1, 1}, false}, {[]int{1, 2, 4, 5, 6, 1}, false}, {[]int{1, 2, 4, 5, 6, 6}, false}, {[]int{1, 2, 4, 5, 5}, false},
	}
}

func TestP37LinksAndWatched(t *testing.T) {
	for _, state := range []int{impl.RunGoing, impl.RunWaiting} {
		for _, c := range linkLists() {
			r := waitingRun()
			r.State, r.Links, r.Watched = state, c.list, nil
			checkRun(t, "Links", r, c.is)
			r.Links, r.Watched = nil, c.list
			checkRun(t, "Watched", r, c.is)
			r.Links, r.Watched = []int{6, 4}, c.list
			checkRun(t, "Links, and Watched", r, c.is)
			r.Links, r.Watched = c.list, []int{1, 5}
			checkRun(t, "Watched, and Links", r, c.is)
		}
	}
}

func TestP37LinkedWithItself(t *testing.T) {
	for _, base := range throwRuns(3, 300) {
		r := keptRun(base)
		r.Links = append(r.Links, r.Id)
		mustNotBeRun(t, "linked with itself", r)
		r = keptRun(base)
		r.Watched = append([]int{r.Id}, r.Watched...)
		mustNotBeRun(t, "watched by itself", r)
	}
}

func TestP37AnEmptySlotThatHasSomething(t *testing.T) {
	tried := 0
	for _, base := range throwRuns(4, 300) {
		for slot, v := range base.Slots {
			if v != (impl.Val{}) {
				r := keptRun(base)
				r.Full -= 1 << slot
				mustNotBeRun(t, "an empty slot", r)
				tried++
			}
		}
	}
	if tried < 200 {
		t.Errorf("just %d tried", tried)
	}
}

func TestP37OkWithoutAnyOfItsMail(t *testing.T) {
	for _, base := range throwRuns(5, 300) {
		mustBeRun(t, "thrown", base)
		for out := range base.Mail {
			r := keptRun(base)
			r.Mail = slices.Delete(r.Mail, out, out+1)
			mustBeRun(t, "without one value", r)
			r.Mail = base.Mail[:out]
			mustBeRun(t, "without the last ones", r)
			r.Mail = base.Mail[out:]
			mustBeRun(t, "without the first ones", r)
		}
		base.Mail = nil
		mustBeRun(t, "without mail", base)
	}
}

func TestP38OneThatEnded(t *testing.T) {
	for _, c := range []struct {
		what string
		with func(*impl.Run)
	}{
		{"mail", func(r *impl.Run) { r.Mail = []impl.Val{num(1)} }},
		{"nothing as mail", func(r *impl.Run) { r.Mail = []impl.Val{{}} }},
		{"links", func(r *impl.Run) { r.Links = []int{1} }},
		{"watchers", func(r *impl.Run) { r.Watched = []int{6} }},
		{"all of them", func(r *impl.Run) { r.Mail, r.Links, r.Watched = []impl.Val{num(1)}, []int{1}, []int{1} }},
	} {
		r := endedRun()
		mustBeRun(t, "ended", r)
		c.with(&r)
		mustNotBeRun(t, "ended, with "+c.what, r)
		r.State, r.Why = impl.RunGoing, impl.Val{}
		mustBeRun(t, "going, with "+c.what, r)
		r.State = impl.RunWaiting
		mustBeRun(t, "waiting, with "+c.what, r)
	}
}

func TestP38OneThatDidNotEndHasNoEnd(t *testing.T) {
	for _, v := range edgeVals() {
		for state := 1; state <= 3; state++ {
			r := endedRun()
			r.State, r.Why = state, v
			checkRun(t, "an end", r, state == 3 || v == impl.Val{})
		}
	}
	for _, v := range wrongVals() {
		r := waitingRun()
		r.Why = v
		mustNotBeRun(t, "an end that is no value", r)
	}
}

// Runs of which one to three things are something else: most are not ok, some still are.
func TestP37AndP38OkAsWorkedOutByHand(t *testing.T) {
	d, ok := &dice{state: 77}, 0
	for range 20000 {
		r := d.run()
		for range 1 + d.below(3) {
			d.change(&r)
		}
		want := okRunByHand(r)
		checkRun(t, "changed", r, want)
		if want {
			ok++
		}
	}
	if ok < 2000 || ok > 18000 {
		t.Errorf("%d were ok", ok)
	}
}

// change sets one thing of a run, as like as not to what it may not be.
func (d *dice) change(r *impl.Run) {
	vals := append(edgeVals(), wrongVals()...)
	v := vals[d.below(len(vals))]
	switch d.below(11) {
	case 0:
		r.Id = d.below(9) - 1
	case 1:
		r.At = d.below(20) - 2
	case 2:
		r.Slots[d.below(len(r.Slots))] = v
	case 3:
		r.Full = d.below(20) - 2
	case 4:
		r.Mail = append(r.Mail, v)
	case 5:
		r.State = d.below(5)
	case 6:
		r.Due = []int{-2, -1, 0, 400, 401}[d.below(5)]
	case 7:
		r.Links = append(r.Links, d.below(9)-1)
	case 8:
		r.Watched = append([]int{d.below(9) - 1}, r.Watched...)
	case 9:
		r.Why = v
	case 10:
		r.Turns = []int{-1, 0, 9999, 10000}[d.below(4)]
	}
}

func TestP32FirstIsTheEldest(t *testing.T) {
	r := waitingRun()
	r.Mail = []impl.Val{name(1), num(2), {}, num(3), run(1), name(2), run(2)}
	for kind, want := range map[int]int{0: 0, impl.ValNum: 1, impl.ValName: 0, impl.ValRun: 4} {
		if at, ok := impl.RunFirst(r, kind); !ok || at != want {
			t.Errorf("RunFirst of %d is %d, %v, not %d", kind, at, ok, want)
		}
	}
	slices.Reverse(r.Mail)
	for kind, want := range map[int]int{0: 0, impl.ValNum: 3, impl.ValName: 1, impl.ValRun: 0} {
		if at, ok := impl.RunFirst(r, kind); !ok || at != want {
			t.Errorf("the other way about RunFirst of %d is %d, %v, not %d", kind, at, ok, want)
		}
	}
}

// One value that fits, at each place of a full mail, with others of its kind behind it, or not.
func TestP32FirstAtEachPlace(t *testing.T) {
	for kind, v := range map[int]impl.Val{impl.ValNum: num(7), impl.ValName: name(7), impl.ValRun: run(5)} {
		for place := range 12 {
			r := newRun()
			r.Mail = slices.Repeat([]impl.Val{{}}, 12)
			r.Mail[place] = v
			for behind := place; behind < 12; behind++ {
				r.Mail[behind] = v
				if at, ok := impl.RunFirst(r, kind); !ok || at != place {
					t.Errorf("RunFirst of %v of %d is %d, %v, not %d", r.Mail, kind, at, ok, place)
				}
			}
		}
	}
}

func TestP32FirstAsWorkedOutByHand(t *testing.T) {
	for _, r := range runsWithMail() {
		for _, kind := range manyKinds() {
			want, is := firstByHand(r.Mail, kind)
			if at, ok := impl.RunFirst(r, kind); at != want || ok != is {
				t.Fatalf("RunFirst of %v of %d is %d, %v, not %d, %v", r.Mail, kind, at, ok, want, is)
			}
		}
	}
}

// Nothing is a value that waits like any other, but no kind that may be asked for alone.
func TestP32FirstOfNothing(t *testing.T) {
	r := newRun()
	for kind := 0; kind <= 3; kind++ {
		if at, ok := impl.RunFirst(r, kind); at != 0 || ok {
			t.Errorf("without mail RunFirst of %d is %d, %v", kind, at, ok)
		}
	}
	r.Mail = []impl.Val{{}, num(1)}
	if at, ok := impl.RunFirst(r, 0); at != 0 || !ok {
		t.Errorf("RunFirst of any kind is %d, %v", at, ok)
	}
	r.Mail = []impl.Val{num(1), {}}
	if at, ok := impl.RunFirst(r, 0); at != 0 || !ok {
		t.Errorf("RunFirst of any kind, with nothing behind, is %d, %v", at, ok)
	}
}

func TestP32KindsThatThereAreNot(t *testing.T) {
	for _, kind := range []int{-1, -2, 4, 5, 255, 256, 257, 1 << 32, 1<<32 + 1, math.MinInt, math.MaxInt} {
		for _, r := range okRuns() {
			if at, ok := impl.RunFirst(r, kind); at != 0 || ok {
				t.Errorf("RunFirst of %d is %d, %v", kind, at, ok)
			}
			if left, v, ok := impl.RunTake(r, kind); !isNothing(left) || v != (impl.Val{}) || ok {
				t.Errorf("RunTake of %d is %+v, %v, %v", kind, left, v, ok)
			}
		}
	}
}

func TestP33TakeAsWorkedOutByHand(t *testing.T) {
	for _, r := range runsWithMail() {
		for _, kind := range manyKinds() {
			want, wantV, is := takenByHand(r, kind)
			left, v, ok := impl.RunTake(r, kind)
			if ok != is || v != wantV || !sameRun(left, want) {
				t.Fatalf("RunTake of %+v of %d is %+v, %v, %v, not %+v, %v, %v", r, kind, left, v, ok, want, wantV, is)
			}
			if ok && !impl.RunOk(left) {
				t.Fatalf("RunTake of %+v of %d leaves what is not ok", r, kind)
			}
		}
	}
}

func TestP33TakeIsTheValueOfFirst(t *testing.T) {
	for _, r := range runsWithMail() {
		for kind := -1; kind <= 4; kind++ {
			at, is := impl.RunFirst(r, kind)
			left, v, ok := impl.RunTake(r, kind)
			if ok != is || ok && (v != r.Mail[at] || !slices.Equal(left.Mail, slices.Concat(r.Mail[:at], r.Mail[at+1:]))) {
				t.Fatalf("RunFirst of %v of %d is %d, %v; RunTake is %v, %v, %v", r.Mail, kind, at, is, left.Mail, v, ok)
			}
		}
	}
}

func TestP34TakeOfAnyKindAgainAndAgain(t *testing.T) {
	for _, r := range runsWithMail() {
		checkTakenInOrder(t, r, 0, r.Mail)
	}
}

// checkTakenInOrder takes of a kind until it is false: just these values come, in this order.
func checkTakenInOrder(t *testing.T, r impl.Run, kind int, want []impl.Val) {
	t.Helper()
	var got []impl.Val
	for range 20 {
		left, v, ok := impl.RunTake(r, kind)
		if !ok {
			break
		}
		got = append(got, v)
		r = left
	}
	if !slices.Equal(got, want) {
		t.Fatalf("of %d %v were taken, not %v", kind, got, want)
	}
	if at, ok := impl.RunFirst(r, kind); at != 0 || ok {
		t.Fatalf("behind all of %d RunFirst is %d, %v", kind, at, ok)
	}
	if left, v, ok := impl.RunTake(r, kind); ok || v != (impl.Val{}) || !isNothing(left) {
		t.Fatalf("behind all of %d RunTake is %+v, %v, %v", kind, left, v, ok)
	}
}

// takenOrNot is the run without what is taken, or as it was.
func takenOrNot(r impl.Run, kind int) (impl.Run, impl.Val) {
	left, v, ok := impl.RunTake(r, kind)
	if !ok {
		return r, impl.Val{Kind: -1}
	}
	return left, v
}

func TestP35TakeOfTwoKindsInBothOrders(t *testing.T) {
	for _, r := range runsWithMail() {
		for one := 1; one <= 3; one++ {
			for other := 1; other <= 3; other++ {
				if one == other {
					continue
				}
				a, vOne := takenOrNot(r, one)
				a, vOther := takenOrNot(a, other)
				b, wOther := takenOrNot(r, other)
				b, wOne := takenOrNot(b, one)
				if vOne != wOne || vOther != wOther || !sameRun(a, b) {
					t.Fatalf("%v, of %d and %d: %v, %v leave %+v, the other way about %v, %v leave %+v", r.Mail, one, other, vOne, vOther, a, wOne, wOther, b)
				}
			}
		}
	}
}

func TestP35TakeOfTwoKindsByHand(t *testing.T) {
	r := waitingRun()
	r.Mail = []impl.Val{run(1), name(2), num(1), name(3), num(2)}
	a, v, _ := impl.RunTake(r, impl.ValNum)
	a, w, _ := impl.RunTake(a, impl.ValName)
	if v != num(1) || w != name(2) || !slices.Equal(a.Mail, []impl.Val{run(1), name(3), num(2)}) {
		t.Errorf("%v, %v leave %v", v, w, a.Mail)
	}
	b, w, _ := impl.RunTake(r, impl.ValName)
	b, v, _ = impl.RunTake(b, impl.ValNum)
	if v != num(1) || w != name(2) || !sameRun(a, b) {
		t.Errorf("the other way about %v, %v leave %v", v, w, b.Mail)
	}
}

func TestP40AllOfOneKindAreTakenInOrder(t *testing.T) {
	for _, r := range runsWithMail() {
		for kind := 1; kind <= 3; kind++ {
			var want []impl.Val
			for _, v := range r.Mail {
				if v.Kind == kind {
					want = append(want, v)
				}
			}
			checkTakenInOrder(t, r, kind, want)
		}
	}
}

func TestP40TakeOfAKindThatNothingHas(t *testing.T) {
	all := []impl.Val{num(1), name(1), run(1)}
	for kind := 1; kind <= 3; kind++ {
		for many := 0; many <= 4; many++ {
			r := fullRun()
			r.Mail = nil
			for _, v := range slices.Repeat(all, many) {
				if v.Kind != kind {
					r.Mail = append(r.Mail, v, impl.Val{})
				}
			}
			r.Mail = r.Mail[:min(12, len(r.Mail))]
			if left, v, ok := impl.RunTake(r, kind); ok || v != (impl.Val{}) || !isNothing(left) {
				t.Errorf("RunTake of %v of %d is %+v, %v, %v", r.Mail, kind, left, v, ok)
			}
		}
	}
	for kind := 0; kind <= 3; kind++ {
		if left, v, ok := impl.RunTake(endedRun(), kind); ok || v != (impl.Val{}) || !isNothing(left) {
			t.Errorf("of one that ended %v, %v was taken, and left %+v", v, ok, left)
		}
	}
}

func TestP36PutAsWorkedOutByHand(t *testing.T) {
	for _, r := range throwRuns(9, 500) {
		for slot := range 4 {
			for _, v := range edgeVals() {
				put := impl.RunPut(r, slot, v)
				if want := putByHand(r, slot, v); !sameRun(put, want) {
					t.Fatalf("RunPut of %+v in %d of %v is %+v, not %+v", r, slot, v, put, want)
				}
				if !impl.RunOk(put) {
					t.Fatalf("RunPut of %+v in %d of %v is not ok", r, slot, v)
				}
				if twice := impl.RunPut(put, slot, v); !sameRun(twice, put) {
					t.Fatalf("twice is %+v, once %+v", twice, put)
				}
			}
		}
	}
}

func TestP36PutWithEachWayToBeFull(t *testing.T) {
	for full := 0; full <= 15; full++ {
		for slot := range 4 {
			r := newRun()
			r.Full, r.Slots = full, make([]impl.Val, 4)
			for _, v := range edgeVals() {
				put := impl.RunPut(r, slot, v)
				if put.Full != full|1<<slot || len(put.Slots) != 4 || put.Slots[slot] != v {
					t.Errorf("RunPut in %d, with %d full, of %v is %+v", slot, full, v, put)
				}
			}
		}
	}
}

func TestP36PutWithEveryValue(t *testing.T) {
	for _, v := range manyVals() {
		want := impl.Run{}
		if okValByHand(v) {
			want = putByHand(waitingRun(), 2, v)
		}
		if put := impl.RunPut(waitingRun(), 2, v); !sameRun(put, want) {
			t.Errorf("RunPut of %v is %+v", v, put)
		}
	}
}

func TestP36PutWhereThereIsNoSlot(t *testing.T) {
	for _, r := range okRuns() {
		for _, slot := range []int{-1, -2, -4, 4, 5, 8, 63, 64, 65, 256, 1 << 32, math.MinInt, math.MaxInt} {
			if put := impl.RunPut(r, slot, num(1)); !isNothing(put) {
				t.Errorf("RunPut in %d is %+v", slot, put)
			}
		}
		for slot := range 4 {
			for _, v := range wrongVals() {
				if put := impl.RunPut(r, slot, v); !isNothing(put) {
					t.Errorf("RunPut in %d of %v is %+v", slot, v, put)
				}
			}
		}
	}
}

func TestP39PutInTwoSlotsInBothOrders(t *testing.T) {
	for _, r := range throwRuns(13, 200) {
		for one := range 4 {
			for other := range 4 {
				a := impl.RunPut(impl.RunPut(r, one, num(8)), other, run(4))
				b := impl.RunPut(impl.RunPut(r, other, run(4)), one, num(8))
				if one != other && !sameRun(a, b) {
					t.Fatalf("in %d and %d: %+v, the other way about %+v", one, other, a, b)
				}
				if a.Slots[other] != run(4) || b.Slots[one] != num(8) || a.Full != r.Full|1<<one|1<<other {
					t.Fatalf("in %d and %d: %+v, the other way about %+v", one, other, a, b)
				}
			}
		}
	}
}

func TestP39InOneSlotTheLastValueStays(t *testing.T) {
	for slot := range 4 {
		for _, first := range edgeVals() {
			for _, last := range edgeVals() {
				put := impl.RunPut(impl.RunPut(fullRun(), slot, first), slot, last)
				if !sameRun(put, impl.RunPut(fullRun(), slot, last)) || put.Slots[slot] != last {
					t.Errorf("in %d %v, then %v: %+v", slot, first, last, put)
				}
			}
		}
	}
}

// lodged lays the lists of a run in the midst of longer ones, with marks ahead and behind; these are asked for again by the function.
func lodged(r impl.Run) (impl.Run, func() bool) {
	mark, n := impl.Val{Kind: 99, N: 99}, 99
	slots := slices.Concat([]impl.Val{mark}, r.Slots, []impl.Val{mark, mark, mark})
	mail := slices.Concat([]impl.Val{mark}, r.Mail, slices.Repeat([]impl.Val{mark}, 14))
	links := slices.Concat([]int{n}, r.Links, []int{n, n, n})
	watched := slices.Concat([]int{n}, r.Watched, []int{n, n, n})
	was := keptRun(impl.Run{Slots: slots, Mail: mail, Links: links, Watched: watched})
	inside := r
	inside.Slots, inside.Mail = slots[1:1+len(r.Slots)], mail[1:1+len(r.Mail)]
	inside.Links, inside.Watched = links[1:1+len(r.Links)], watched[1:1+len(r.Watched)]
	return inside, func() bool {
		return sameRun(was, impl.Run{Slots: slots, Mail: mail, Links: links, Watched: watched})
	}
}

// spoilRun writes over all lists of a run, the room behind their ends too.
func spoilRun(r impl.Run) {
	spoil(r.Slots, impl.Val{Kind: 77, N: 77})
	spoil(r.Mail, impl.Val{Kind: 77, N: 77})
	spoil(r.Links, 77)
	spoil(r.Watched, 77)
}

// answersOf are all runs that are answered of one.
func answersOf(r impl.Run) []impl.Run {
	var runs []impl.Run
	for kind := 0; kind <= 3; kind++ {
		left, _, _ := impl.RunTake(r, kind)
		runs = append(runs, left)
	}
	for slot := range 4 {
		runs = append(runs, impl.RunPut(r, slot, num(1)))
	}
	return runs
}

func TestP40WhatIsHandedInIsNotWrittenInto(t *testing.T) {
	for i, r := range throwRuns(19, 500) {
		if i%7 == 6 {
			r.State = 9
		}
		inside, same := lodged(r)
		impl.RunOk(inside)
		for kind := -1; kind <= 4; kind++ {
			impl.RunFirst(inside, kind)
		}
		for _, answer := range answersOf(inside) {
			if !same() || !sameRun(inside, r) {
				t.Fatalf("%+v was written into", r)
			}
			spoilRun(answer)
			if !same() || !sameRun(inside, r) {
				t.Fatalf("an answer shares memory with %+v", r)
			}
		}
	}
}

func TestP33AnswersShareNoMemoryWithEachOther(t *testing.T) {
	for _, r := range throwRuns(23, 300) {
		answers := answersOf(r)
		var kept []impl.Run
		for _, a := range answers {
			kept = append(kept, keptRun(a))
		}
		for i, a := range answers {
			spoilRun(a)
			for j := i + 1; j < len(answers); j++ {
				if !sameRun(answers[j], kept[j]) {
					t.Fatalf("answers %d and %d of %+v share memory", i, j, r)
				}
			}
		}
	}
	a, _ := impl.RunNew(1, 0, num(1))
	b, _ := impl.RunNew(1, 0, num(1))
	spoilRun(a)
	if !sameRun(b, impl.Run{Id: 1, Slots: []impl.Val{num(1), {}, {}, {}}, Full: 1, State: 1}) {
		t.Errorf("two of RunNew share memory: %+v", b)
	}
}

// The lists that are handed in share all their memory; those of an answer must share none all the same.
func TestP33ListsOfOneAnswerShareNoMemory(t *testing.T) {
	vals, ids := []impl.Val{num(1), name(1), run(1), {}}, []int{1, 2, 4, 5, 6}
	r := impl.Run{Id: 3, Slots: vals, Full: 15, Mail: vals, State: impl.RunGoing, Links: ids, Watched: ids[:3]}
	for i := range answersOf(r) {
		for list := range 4 {
			answer := answersOf(r)[i]
			want := keptRun(answer)
			switch list {
			case 0:
				spoil(answer.Slots, impl.Val{Kind: 77})
				answer.Slots = want.Slots
			case 1:
				spoil(answer.Mail, impl.Val{Kind: 77})
				answer.Mail = want.Mail
			case 2:
				spoil(answer.Links, 77)
				answer.Links = want.Links
			case 3:
				spoil(answer.Watched, 77)
				answer.Watched = want.Watched
			}
			if !sameRun(answer, want) {
				t.Errorf("list %d of answer %d shares memory with another one", list, i)
			}
		}
	}
	if !sameRun(r, impl.Run{Id: 3, Slots: []impl.Val{num(1), name(1), run(1), {}}, Full: 15, Mail: []impl.Val{num(1), name(1), run(1), {}}, State: 1, Links: []int{1, 2, 4, 5, 6}, Watched: []int{1, 2, 4}}) {
		t.Errorf("what was handed in is %+v", r)
	}
}
