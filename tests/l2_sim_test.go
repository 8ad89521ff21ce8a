package tests

import (
	"math"
	"slices"
	"testing"

	"loop.example/slackwater/impl"
)

const simRounds = 400

// The parts as the document lists them, so that the order is not asked of the program itself.
func eventParts(e impl.Event) []int {
	return []int{e.Time, e.To, e.From, e.Count, e.N, e.Kind, e.Arg}
}

func outParts(o impl.Out) []int {
	return []int{o.Time, o.Proc, o.Count, o.N, o.Value}
}

func compareEvents(a impl.Event, b impl.Event) int {
	return slices.Compare(eventParts(a), eventParts(b))
}

func compareOuts(a impl.Out, b impl.Out) int {
	return slices.Compare(outParts(a), outParts(b))
}

// closeNum is one of so few numbers that things are often the same in part, some so great that taking one from the other wraps.
func (d *dice) closeNum() int {
	return []int{0, 1, -1, math.MaxInt, math.MinInt}[d.upTo(4)]
}

func (d *dice) closeEvent() impl.Event {
	return impl.Event{Time: d.closeNum(), To: d.upTo(1), From: d.between(-1, 0), Count: d.closeNum(), N: d.upTo(1), Kind: d.upTo(1), Arg: d.closeNum()}
}

func (d *dice) closeOut() impl.Out {
	return impl.Out{Time: d.closeNum(), Proc: d.upTo(1), Count: d.closeNum(), N: d.upTo(1), Value: d.closeNum()}
}

func eventOf(parts []int) impl.Event {
	return impl.Event{Time: parts[0], To: parts[1], From: parts[2], Count: parts[3], N: parts[4], Kind: parts[5], Arg: parts[6]}
}

func outOf(parts []int) impl.Out {
	return impl.Out{Time: parts[0], Proc: parts[1], Count: parts[2], N: parts[3], Value: parts[4]}
}

// justAhead is less in the part at a place, the same ahead of it, and more in all parts behind.
func justAhead(parts []int, at int) []int {
	low := slices.Clone(parts)
	low[at]--
	for i := at + 1; i < len(low); i++ {
		low[i] += 100
	}
	return low
}

// Promise 8.
func TestOneOfTwoEventsComesFirst(t *testing.T) {
	parts := []int{5, 2, 1, 3, 1, 2, 9}
	for i := range parts {
		low, high := eventOf(justAhead(parts, i)), eventOf(parts)
		if !impl.EventLess(low, high) || impl.EventLess(high, low) {
			t.Errorf("part %d: %v", i, low)
		}
	}
	if impl.EventLess(impl.Event{}, impl.Event{}) || !impl.EventLess(impl.AppFirst(0), impl.AppFirst(1)) {
		t.Error("the same, or the first ones")
	}
	if !impl.EventLess(impl.Event{From: -1, Arg: 9}, impl.Event{}) {
		t.Error("what comes from nobody is ahead")
	}
	d := dice(11)
	chains := 0
	for range rounds {
		a, b, c := d.closeEvent(), d.closeEvent(), d.closeEvent()
		if impl.EventLess(a, b) != (compareEvents(a, b) < 0) || impl.EventLess(a, a) {
			t.Fatal(a, b)
		}
		if a != b && impl.EventLess(a, b) == impl.EventLess(b, a) {
			t.Fatal("not just one is first", a, b)
		}
		if impl.EventLess(a, b) && impl.EventLess(b, c) {
			chains++
			if !impl.EventLess(a, c) {
				t.Fatal("no order", a, b, c)
			}
		}
	}
	if chains < 100 {
		t.Error("too few were in a row", chains)
	}
}

func (d *dice) shuffleEvents(list []impl.Event) []impl.Event {
	mixed := slices.Clone(list)
	for i := len(mixed) - 1; i > 0; i-- {
		j := d.upTo(i)
		mixed[i], mixed[j] = mixed[j], mixed[i]
	}
	return mixed
}

// Promise 9.
func TestEventsArePutIntoOrder(t *testing.T) {
	d := dice(12)
	twice := 0
	for i := range rounds {
		var list []impl.Event
		for range i % 40 {
			list = append(list, d.closeEvent())
		}
		if len(list) > 1 {
			list = append(list, list[d.upTo(len(list)-1)])
		}
		want := slices.Clone(list)
		slices.SortFunc(want, compareEvents)
		want = slices.Compact(want)
		given := slices.Clone(list)
		got := impl.EventSort(given)
		if !slices.Equal(got, want) || !slices.Equal(given, list) {
			t.Fatal(list, got)
		}
		if !slices.Equal(impl.EventSort(got), got) || !slices.Equal(impl.EventSort(d.shuffleEvents(list)), got) {
			t.Fatal("the order that they come in matters", list)
		}
		twice += len(list) - len(got)
	}
	if twice < rounds/2 {
		t.Error("too little was the same twice", twice)
	}
}

// Promise 9: none, one, all the same, all the other way round, and more than a machine may have.
func TestEdgesOfEventSort(t *testing.T) {
	if len(impl.EventSort(nil))+len(impl.EventSort([]impl.Event{})) != 0 {
		t.Error("something comes of nothing")
	}
	one := impl.Event{Time: 99, To: -7, From: 3, Count: 1000, N: -1, Kind: 5, Arg: math.MinInt}
	for n := 1; n < 9; n++ {
		if got := impl.EventSort(slices.Repeat([]impl.Event{one}, n)); len(got) != 1 || got[0] != one {
			t.Error(n, got)
		}
	}
	var down []impl.Event
	for i := range 1000 {
		down = append(down, impl.Event{Arg: -i})
	}
	got := impl.EventSort(down)
	slices.Reverse(down)
	if !slices.Equal(got, down) || !slices.Equal(impl.EventSort(append(down, down...)), got) {
		t.Error("a thousand are not in order", len(got))
	}
}

// Promise 10.
func TestOneOfTwoOutsIsFirst(t *testing.T) {
	parts := []int{5, 2, 3, 1, 9}
	for i := range parts {
		low, high := outOf(justAhead(parts, i)), outOf(parts)
		if !impl.OutLess(low, high) || impl.OutLess(high, low) {
			t.Errorf("part %d: %v", i, low)
		}
	}
	d := dice(13)
	for range rounds {
		a, b, c := d.closeOut(), d.closeOut(), d.closeOut()
		if impl.OutLess(a, b) != (compareOuts(a, b) < 0) || impl.OutLess(a, a) {
			t.Fatal(a, b)
		}
		if a != b && impl.OutLess(a, b) == impl.OutLess(b, a) {
			t.Fatal("not just one is first", a, b)
		}
		if impl.OutLess(a, b) && impl.OutLess(b, c) && !impl.OutLess(a, c) {
			t.Fatal("no order", a, b, c)
		}
	}
}

// Promise 11.
func TestOutsArePutIntoOrder(t *testing.T) {
	if len(impl.OutSort(nil))+len(impl.OutSort([]impl.Out{})) != 0 {
		t.Error("something comes of nothing")
	}
	if got := impl.OutSort(slices.Repeat([]impl.Out{{Value: 3}}, 5)); !slices.Equal(got, slices.Repeat([]impl.Out{{Value: 3}}, 5)) {
		t.Error("what is the same does not stay", got)
	}
	d := dice(14)
	for i := range rounds {
		var list []impl.Out
		for range i % 40 {
			list = append(list, d.closeOut())
		}
		if len(list) > 1 {
			list = append(list, list[d.upTo(len(list)-1)])
		}
		want := slices.Clone(list)
		slices.SortFunc(want, compareOuts)
		given := slices.Clone(list)
		got := impl.OutSort(given)
		if !slices.Equal(got, want) || !slices.Equal(given, list) || !slices.Equal(impl.OutSort(got), got) {
			t.Fatal(list, got)
		}
	}
}

func sameSim(a impl.Sim, b impl.Sim) bool {
	return slices.Equal(a.States, b.States) && slices.Equal(a.Queue, b.Queue) && slices.Equal(a.Outs, b.Outs)
}

func isNoSim(s impl.Sim) bool {
	return sameSim(s, impl.Sim{})
}

// busyOp sends soon, so that there is much to do within the time that there is.
func (d *dice) busyOp(do int) impl.Op {
	o := d.op(do)
	switch do {
	case impl.OpSend:
		o.C = d.between(1, 6)
	case impl.OpSkip:
		o.B, o.C = d.upTo(9), d.between(1, 3)
	}
	return o
}

func (d *dice) busyApps() []impl.App {
	var apps []impl.App
	for range impl.AppProcs {
		var a impl.App
		for kind := range impl.AppMaxRules {
			r := impl.Rule{Kind: kind}
			for _, do := range []int{impl.OpArg, impl.OpSkip, impl.OpSend, impl.OpOut, impl.OpMore, impl.OpSend, impl.OpAdd, impl.OpOut} {
				if d.upTo(4) > 0 {
					r.Ops = append(r.Ops, d.busyOp(do))
				}
			}
			a.Rules = append(a.Rules, r)
		}
		apps = append(apps, a)
	}
	return apps
}

// simApps are calm programs and busy ones in turn.
func (d *dice) simApps(i int) []impl.App {
	if i%4 == 0 {
		return d.apps()
	}
	return d.busyApps()
}

// plainRun is one machine by hand: of a bag of events the least is looked for and done, again and again.
func plainRun(apps []impl.App, until int) (impl.Sim, int) {
	s := impl.Sim{States: make([]impl.State, 4)}
	for proc := range 4 {
		s.Queue = append(s.Queue, impl.AppFirst(proc))
	}
	for done := 0; ; done++ {
		slices.SortFunc(s.Queue, compareEvents)
		if len(s.Queue) == 0 || s.Queue[0].Time >= until {
			slices.SortFunc(s.Outs, compareOuts)
			return s, done
		}
		e := s.Queue[0]
		s.Queue = s.Queue[1:]
		after, sends, outs := impl.AppRun(apps[e.To], s.States[e.To], e)
		s.States[e.To] = after
		s.Queue = append(s.Queue, sends...)
		s.Outs = append(s.Outs, outs...)
	}
}

// Promises 13 and 17: one machine does what is done by hand.
func TestOneMachineIsAsByHand(t *testing.T) {
	d := dice(15)
	for i := range simRounds {
		apps := d.simApps(i)
		for _, until := range []int{0, 1, d.between(2, 39), 40, 41} {
			want, _ := plainRun(apps, until)
			if got := impl.SimRun(apps, until); !sameSim(got, want) || !impl.SimOk(got) {
				t.Fatal(impl.AppWrite(apps), until, got, want)
			}
		}
	}
}

// Promises 12 and 18.
func TestOneMachineGoesOnByOneEvent(t *testing.T) {
	d := dice(16)
	full := 0
	for i := range simRounds {
		apps := d.simApps(i)
		s := impl.SimStart()
		for len(s.Queue) > 0 {
			next, ok := impl.SimStep(apps, s)
			if !ok || !impl.SimOk(next) {
				t.Fatal(impl.AppWrite(apps), s)
			}
			checkStep(t, apps, s, next)
			if s.States[s.Queue[0].To].Count == impl.AppMaxSteps {
				full++
			}
			s = next
		}
		if !sameSim(s, impl.SimRun(apps, impl.AppEnd+1)) {
			t.Fatal("steps do not come to what SimRun does", impl.AppWrite(apps))
		}
	}
	if full < simRounds {
		t.Error("too few had done all that they may", full)
	}
}

func checkStep(t *testing.T, apps []impl.App, s impl.Sim, next impl.Sim) {
	t.Helper()
	e := s.Queue[0]
	if slices.Contains(next.Queue, e) {
		t.Fatal("the first event is not gone", s, next)
	}
	for _, x := range next.Queue {
		if x.Time < e.Time || compareEvents(x, e) < 0 {
			t.Fatal("back in time", e, x)
		}
	}
	for _, x := range s.Queue[1:] {
		if !slices.Contains(next.Queue, x) {
			t.Fatal("an event is lost", x)
		}
	}
	after, sends, outs := impl.AppRun(apps[e.To], s.States[e.To], e)
	for proc, state := range next.States {
		want := s.States[proc]
		if proc == e.To {
			want = after
		}
		if state != want {
			t.Fatal("known wrongly", proc, s, next)
		}
	}
	more := 1
	if s.States[e.To].Count == impl.AppMaxSteps {
		more = 0
	}
	if next.States[e.To].Count != s.States[e.To].Count+more {
		t.Fatal("counted wrongly", s, next)
	}
	if len(next.Queue) != len(s.Queue)-1+len(sends) || len(next.Outs) != len(s.Outs)+len(outs) {
		t.Fatal("too much, or too little", s, next)
	}
}

// Promise 13.
func TestOneMachineGoesOnWhereItWas(t *testing.T) {
	d := dice(17)
	for i := range simRounds {
		apps := d.simApps(i)
		early, late := d.between(-1, 41), d.between(-1, 42)
		if early > late {
			early, late = late, early
		}
		s := impl.SimRun(apps, early)
		for len(s.Queue) > 0 && s.Queue[0].Time < late {
			s, _ = impl.SimStep(apps, s)
		}
		if !sameSim(s, impl.SimRun(apps, late)) {
			t.Fatal(impl.AppWrite(apps), early, late)
		}
	}
}

// Promise 14.
func TestWhatIsLetOutAheadIsABeginning(t *testing.T) {
	d := dice(18)
	let := 0
	for i := range simRounds / 4 {
		apps := d.simApps(i)
		all := impl.SimRun(apps, impl.AppEnd+1).Outs
		let += len(all)
		for until := -1; until <= impl.AppEnd+2; until++ {
			n := 0
			for n < len(all) && all[n].Time < until {
				n++
			}
			if got := impl.SimRun(apps, until).Outs; !slices.Equal(got, all[:n]) {
				t.Fatal(impl.AppWrite(apps), until, got, all)
			}
		}
	}
	if let < simRounds {
		t.Error("too little was let out", let)
	}
}

// Promise 15.
func TestOneMachineComesToAnEnd(t *testing.T) {
	d := dice(19)
	for i := range simRounds {
		apps := d.simApps(i)
		end := impl.SimRun(apps, impl.AppEnd+1)
		if len(end.Queue) != 0 || !impl.SimOk(end) {
			t.Fatal("something is left", impl.AppWrite(apps), end)
		}
		if !sameSim(impl.SimRun(apps, impl.AppEnd+2), end) || !sameSim(impl.SimRun(apps, math.MaxInt), end) {
			t.Fatal("something is done behind the end", impl.AppWrite(apps))
		}
		if s, ok := impl.SimStep(apps, end); ok || !sameSim(s, end) {
			t.Fatal("a step behind the end", impl.AppWrite(apps), s)
		}
	}
}

// Promise 15: what comes just at the end is still done, and only if the end is ahead of the time that is asked for.
func TestTheLastTimeIsDone(t *testing.T) {
	apps := mustRead(t, "proc\nrule 0\nset x 8\nsend 1 2 40 x\nproc\nrule 2\narg y\nout y\nsend 0 0 1 y\nproc\nproc\n")
	last := impl.Event{Time: 40, To: 1, From: 0, Kind: 2, Arg: 8}
	if s := impl.SimRun(apps, impl.AppEnd); !slices.Equal(s.Queue, []impl.Event{last}) || len(s.Outs) != 0 {
		t.Error(s)
	}
	s := impl.SimRun(apps, impl.AppEnd+1)
	if len(s.Queue) != 0 || !slices.Equal(s.Outs, []impl.Out{{Time: 40, Proc: 1, Count: 1, Value: 8}}) || s.States[1] != (impl.State{X: 0, Y: 8, Count: 2}) {
		t.Error(s)
	}
}

// Promise 16.
func TestNothingHappensAheadOfTheFirstTime(t *testing.T) {
	start := impl.SimStart()
	first := []impl.Event{{From: -1}, {To: 1, From: -1, N: 1, Arg: 1}, {To: 2, From: -1, N: 2, Arg: 2}, {To: 3, From: -1, N: 3, Arg: 3}}
	if !slices.Equal(start.States, make([]impl.State, 4)) || !slices.Equal(start.Queue, first) || len(start.Outs) != 0 || !impl.SimOk(start) {
		t.Error(start)
	}
	d := dice(20)
	for i := range simRounds {
		apps := d.simApps(i)
		for _, until := range []int{0, -1, math.MinInt} {
			if !sameSim(impl.SimRun(apps, until), start) {
				t.Fatal(impl.AppWrite(apps), until)
			}
		}
		for _, s := range impl.SimRun(apps, 1).States {
			if s.Count != 1 {
				t.Fatal("not all begin at the first time", impl.AppWrite(apps))
			}
		}
	}
}

// Promise 17.
func TestOneMachineTellsInOrder(t *testing.T) {
	d := dice(21)
	for i := range simRounds {
		apps := d.simApps(i)
		until := d.between(0, 41)
		s := impl.SimRun(apps, until)
		for k := 1; k < len(s.Outs); k++ {
			if s.Outs[k].Time < s.Outs[k-1].Time || compareOuts(s.Outs[k-1], s.Outs[k]) >= 0 {
				t.Fatal("told out of order, or twice", impl.AppWrite(apps), s.Outs)
			}
		}
		for _, o := range s.Outs {
			if o.Time >= until {
				t.Fatal("told too early", impl.AppWrite(apps), until, o)
			}
		}
		for _, e := range s.Queue {
			if e.Time < until {
				t.Fatal("left undone", impl.AppWrite(apps), until, e)
			}
		}
	}
}

// Promise 18.
func TestAsManyEventsAreDoneAsProcessesHaveDone(t *testing.T) {
	d := dice(22)
	for i := range simRounds {
		apps := d.simApps(i)
		until := d.between(0, 41)
		s := impl.SimRun(apps, until)
		_, done := plainRun(apps, until)
		sum, full := 0, false
		for _, state := range s.States {
			sum += state.Count
			full = full || state.Count == impl.AppMaxSteps
		}
		if sum > done || sum < done && !full {
			t.Fatal(impl.AppWrite(apps), until, sum, done)
		}
	}
	// The process 0 sends itself two each time, so that it has more to do than it may.
	apps := mustRead(t, "proc\nrule 0\nmore x 1\nsend 0 0 1 x\nsend 0 0 1 x\nout x\nproc\nproc\nproc\n")
	s := impl.SimRun(apps, impl.AppEnd+1)
	if s.States[0] != (impl.State{X: 12, Count: 12}) || s.States[1].Count != 1 || len(s.Outs) != 12 || len(s.Queue) != 0 {
		t.Error(s)
	}
}

// Events of one time are done by their process, then by who sent them, which of its events, and as how manieth.
func TestEventsOfOneTime(t *testing.T) {
	apps := mustRead(t, "proc\nrule 0\nset y 7\nsend 3 1 4 y\nset y 5\nsend 3 1 4 y\n"+
		"proc\nrule 0\nset y 9\nsend 3 1 4 y\nsend 2 1 4 y\n"+
		"proc\nrule 0\nset y 1\nsend 3 1 4 y\nsend 3 1 4 y\nrule 1\narg x\nout x\n"+
		"proc\nrule 1\narg x\nout x\n")
	want := []impl.Out{{Time: 4, Proc: 2, Count: 1, Value: 9}}
	for i, value := range []int{7, 5, 9, 1, 1} {
		want = append(want, impl.Out{Time: 4, Proc: 3, Count: 1 + i, Value: value})
	}
	s := impl.SimRun(apps, 5)
	if !slices.Equal(s.Outs, want) || s.States[3] != (impl.State{X: 1, Count: 6}) {
		t.Error(s)
	}
	if s = impl.SimRun(apps, 4); len(s.Queue) != 6 || len(s.Outs) != 0 {
		t.Error("what is at the time is not ahead of it", s)
	}
}

// manyEvents are the first of a long row of events in order, all of a time.
func manyEvents(n int, time int) []impl.Event {
	var list []impl.Event
	for i := range n {
		list = append(list, impl.Event{Time: time, To: 1, From: 3, Count: 12, N: 3, Kind: 3, Arg: i})
	}
	return list
}

func manyOuts(n int) []impl.Out {
	var list []impl.Out
	for i := range n {
		list = append(list, impl.Out{Time: 40, Proc: 3, Count: 11, N: 1, Value: 999 - n + 1 + i})
	}
	return list
}

func wrongOuts() []impl.Out {
	return []impl.Out{
		{Time: -1}, {Time: 41}, {Proc: -1}, {Proc: 4}, {Count: -1}, {Count: 12}, {N: -1}, {N: 2}, {Value: -1}, {Value: 1000},
		{Time: math.MinInt}, {Value: math.MaxInt},
	}
}

// wrongSims are machines that are not ok, by one thing each.
func wrongSims() []impl.Sim {
	states := make([]impl.State, 4)
	list := []impl.Sim{
		{}, {States: states[:3]}, {States: make([]impl.State, 5)},
		{States: states, Queue: manyEvents(101, 40)}, {States: states, Outs: manyOuts(97)},
		{States: states, Queue: []impl.Event{{Time: 3}, {Time: 2}}}, {States: states, Queue: []impl.Event{{Time: 3}, {Time: 3}}},
		{States: states, Queue: []impl.Event{{}, {Arg: 2}, {Arg: 1}}},
		{States: states, Outs: []impl.Out{{Time: 3}, {Time: 2}}}, {States: states, Outs: []impl.Out{{Time: 3}, {Time: 3}}},
		{States: states, Outs: []impl.Out{{}, {Value: 2}, {Value: 1}}},
	}
	for _, s := range wrongStates() {
		list = append(list, impl.Sim{States: []impl.State{s, {}, {}, {}}}, impl.Sim{States: []impl.State{{}, {}, {}, s}})
	}
	for _, e := range wrongEvents() {
		list = append(list, impl.Sim{States: states, Queue: []impl.Event{e}})
		list = append(list, impl.Sim{States: states, Queue: impl.EventSort([]impl.Event{e, {Time: 1}, {Time: 2}})})
	}
	for _, o := range wrongOuts() {
		list = append(list, impl.Sim{States: states, Outs: []impl.Out{o}, Queue: []impl.Event{{}}})
		list = append(list, impl.Sim{States: states, Outs: impl.OutSort([]impl.Out{o, {Time: 1}, {Time: 2}})})
	}
	return list
}

// Promise 12: a machine that is not ok does nothing, and neither do programs that are not.
func TestNothingIsDoneByWhatIsWrong(t *testing.T) {
	apps := mustRead(t, fullText)
	for i, s := range wrongSims() {
		if impl.SimOk(s) {
			t.Errorf("machine %d is ok: %v", i, s)
		}
		if next, ok := impl.SimStep(apps, s); ok || !isNoSim(next) {
			t.Errorf("machine %d goes on: %v", i, next)
		}
	}
	for i, apps := range wrongApps() {
		for _, s := range []impl.Sim{impl.SimStart(), {States: make([]impl.State, 4)}} {
			if next, ok := impl.SimStep(apps, s); ok || !isNoSim(next) {
				t.Errorf("programs %d go on: %v", i, next)
			}
		}
		for _, until := range []int{-1, 0, 1, 41} {
			if s := impl.SimRun(apps, until); !isNoSim(s) {
				t.Errorf("programs %d are run: %v", i, s)
			}
		}
	}
}

func TestLimitsOfMachinesMayBeMet(t *testing.T) {
	high := impl.State{X: 999, Y: 999, Count: 12}
	states := []impl.State{high, high, high, high}
	for i, s := range []impl.Sim{
		{States: states},
		{States: states, Queue: manyEvents(100, 40), Outs: manyOuts(96)},
		{States: states, Queue: []impl.Event{{From: -1}, {}, {Time: 40, To: 3, From: 3, Count: 12, N: 3, Kind: 3, Arg: 999}}},
		{States: states, Queue: []impl.Event{}, Outs: []impl.Out{{}, {Time: 40, Proc: 3, Count: 11, N: 1, Value: 999}}},
	} {
		if !impl.SimOk(s) {
			t.Errorf("machine %d: %v", i, s)
		}
	}
}

// Promise 12: what would not be ok does not come, and the machine stays as it is.
func TestWhatHasNoRoomStays(t *testing.T) {
	one := mustRead(t, "proc\nrule 0\nmore x 1\nsend 1 3 2 x\nout x\nproc\nproc\nproc\n")
	two := mustRead(t, "proc\nrule 0\nmore x 1\nsend 1 3 2 x\nout x\nsend 1 3 3 x\nout y\nproc\nproc\nproc\n")
	sent := impl.Event{Time: 2, To: 1, From: 0, Kind: 3, Arg: 1}
	let := impl.Out{Time: 0, Proc: 0, Value: 1}
	first := []impl.Event{{From: -1}}
	states := make([]impl.State, 4)
	for i, c := range []struct {
		apps        []impl.App
		s           impl.Sim
		ok          bool
		queue, outs int
	}{
		{apps: one, s: impl.Sim{States: states, Queue: append(first, manyEvents(99, 40)...)}, ok: true, queue: 100, outs: 1},
		{apps: two, s: impl.Sim{States: states, Queue: append(first, manyEvents(98, 40)...)}, ok: true, queue: 100, outs: 2},
		{apps: two, s: impl.Sim{States: states, Queue: append(first, manyEvents(99, 40)...)}},
		{apps: two, s: impl.Sim{States: states, Queue: slices.Concat(first, []impl.Event{sent}, manyEvents(98, 40))}, ok: true, queue: 100, outs: 2},
		{apps: one, s: impl.Sim{States: states, Queue: []impl.Event{{From: -1}, sent}}, ok: true, queue: 1, outs: 1},
		{apps: one, s: impl.Sim{States: states, Queue: first, Outs: manyOuts(95)}, ok: true, queue: 1, outs: 96},
		{apps: one, s: impl.Sim{States: states, Queue: first, Outs: manyOuts(96)}},
		{apps: two, s: impl.Sim{States: states, Queue: first, Outs: manyOuts(94)}, ok: true, queue: 2, outs: 96},
		{apps: two, s: impl.Sim{States: states, Queue: first, Outs: manyOuts(95)}},
		{apps: one, s: impl.Sim{States: states, Queue: first, Outs: []impl.Out{let}}},
		{apps: one, s: impl.Sim{States: states, Queue: first, Outs: []impl.Out{{Value: 2}}}, ok: true, queue: 1, outs: 2},
		{apps: one, s: impl.Sim{States: states, Outs: []impl.Out{let}}},
	} {
		next, ok := impl.SimStep(c.apps, c.s)
		if ok != c.ok || !ok && !sameSim(next, c.s) {
			t.Errorf("case %d: %v %v", i, next, ok)
		}
		if ok && (!impl.SimOk(next) || len(next.Queue) != c.queue || len(next.Outs) != c.outs) {
			t.Errorf("case %d: %v", i, next)
		}
	}
}

// Promise 18: who has done all that it may lets its events go by, also where there would be no room for what they do.
func TestWhoHasDoneAllLetsEventsGoBy(t *testing.T) {
	apps := mustRead(t, "proc\nrule 0\nmore x 1\nsend 1 3 2 x\nout x\nproc\nproc\nproc\n")
	s := impl.Sim{States: []impl.State{{X: 5, Count: 12}, {}, {}, {}}, Queue: []impl.Event{{From: -1}}, Outs: manyOuts(96)}
	next, ok := impl.SimStep(apps, s)
	if !ok || !sameSim(next, impl.Sim{States: s.States, Outs: s.Outs}) {
		t.Error(next, ok)
	}
}

func roomy[T any](list []T) []T {
	return append(make([]T, 0, len(list)+9), list...)
}

func roomySim(s impl.Sim) impl.Sim {
	return impl.Sim{States: roomy(s.States), Queue: roomy(s.Queue), Outs: roomy(s.Outs)}
}

// room is a list with all the room behind its end.
func room[T any](list []T) []T {
	return slices.Clone(list[:cap(list)])
}

func wholeSim(s impl.Sim) impl.Sim {
	return impl.Sim{States: room(s.States), Queue: room(s.Queue), Outs: room(s.Outs)}
}

// spoil writes into all that a machine has, and behind its end.
func spoil(s impl.Sim) {
	for i := range s.States[:cap(s.States)] {
		s.States[:cap(s.States)][i].X = -9
	}
	for i := range s.Queue[:cap(s.Queue)] {
		s.Queue[:cap(s.Queue)][i].Time = -9
	}
	for i := range s.Outs[:cap(s.Outs)] {
		s.Outs[:cap(s.Outs)][i].Time = -9
	}
}

// Nothing is written into a machine that is given, and what is answered shares nothing with it.
func TestMachinesAreNewMemory(t *testing.T) {
	apps := mustRead(t, "proc\nrule 0\nmore x 1\nsend 1 3 2 x\nout x\nproc\nproc\nproc\n")
	given := roomySim(impl.Sim{States: make([]impl.State, 4), Queue: impl.EventSort(append(manyEvents(3, 40), impl.AppFirst(0))), Outs: manyOuts(2)})
	full := roomySim(impl.Sim{States: make([]impl.State, 4), Queue: []impl.Event{impl.AppFirst(0)}, Outs: manyOuts(96)})
	ended := roomySim(impl.Sim{States: make([]impl.State, 4), Outs: manyOuts(2)})
	for i, s := range []impl.Sim{given, full, ended} {
		before := wholeSim(s)
		next, ok := impl.SimStep(apps, s)
		if ok != (i == 0) || !sameSim(wholeSim(s), before) {
			t.Errorf("machine %d was changed: %v", i, s)
		}
		spoil(next)
		if !sameSim(wholeSim(s), before) {
			t.Errorf("machine %d is shared: %v", i, s)
		}
	}
	spoil(impl.SimStart())
	spoil(impl.SimRun(apps, 1))
	if !sameSim(impl.SimRun(apps, 0), impl.SimStart()) || impl.SimStart().States[0].X != 0 {
		t.Error("what is answered is kept")
	}
}

// Sorting writes nothing into what is given, and gives back none of it, even if it is in order already.
func TestSortedListsAreNewMemory(t *testing.T) {
	events, outs := roomy(manyEvents(5, 3)), roomy(manyOuts(5))
	slices.Reverse(events[1:3])
	slices.Reverse(outs[1:3])
	for range 2 {
		eventsBefore, outsBefore := room(events), room(outs)
		gotEvents, gotOuts := impl.EventSort(events), impl.OutSort(outs)
		spoil(impl.Sim{Queue: gotEvents, Outs: gotOuts})
		if !slices.Equal(room(events), eventsBefore) || !slices.Equal(room(outs), outsBefore) {
			t.Error("changed, or shared", events, outs)
		}
		events, outs = roomy(manyEvents(5, 3)), roomy(manyOuts(5))
	}
}
