package tests

import (
	"math"
	"slices"
	"testing"

	"loop.example/slackwater/impl"
)

// Promise 25.
func TestEachProcessHasJustOneNode(t *testing.T) {
	for proc, want := range []int{0, 1, 2, 0} {
		if impl.NodeOf(proc) != want {
			t.Error(proc, impl.NodeOf(proc))
		}
	}
	for _, none := range []int{-1, 4, 5, 6, -3, math.MaxInt, math.MinInt} {
		if impl.NodeOf(none) != -1 {
			t.Error("there is none", none, impl.NodeOf(none))
		}
	}
	var lanes [4]int
	for id := range impl.NodeCount {
		for _, l := range impl.NodeStart(id).Lanes {
			lanes[l.Proc]++
			if impl.NodeOf(l.Proc) != id {
				t.Error("a process of another node", id, l)
			}
		}
	}
	if lanes != [4]int{1, 1, 1, 1} {
		t.Error(lanes)
	}
}

// Promise 25: a node at first has a lane for each of its processes, and all that these begin with.
func TestNodesAtFirst(t *testing.T) {
	for id := range 3 {
		want := impl.Node{Id: id, Up: true, Inc: 1, Version: 1, Views: make([]impl.View, 3), Known: make([]int, 3), Low: 41}
		for _, proc := range procsByHand(id) {
			want.Lanes = append(want.Lanes, impl.Lane{Proc: proc})
			want.Kept = append(want.Kept, impl.AppFirst(proc))
		}
		if got := impl.NodeStart(id); !sameNode(got, want) || !impl.NodeOk(got) {
			t.Error(id, got)
		}
	}
	for _, id := range []int{-1, 3, 4, math.MaxInt, math.MinInt} {
		if !isNoNode(impl.NodeStart(id)) {
			t.Error("there is none", id)
		}
	}
}

func doneOf(n impl.Node) int {
	sum := 0
	for _, l := range n.Lanes {
		sum += len(l.Done)
	}
	return sum
}

// Promise 26.
func TestANodeGoesOnByOneEvent(t *testing.T) {
	steps, undone, numbers, same := 0, 0, 0, 0
	for _, s := range spots() {
		for proc := -1; proc <= 4; proc++ {
			got, ok := impl.NodeStep(s.apps, s.n, proc)
			want, wantOk := stepNodeByHand(s.apps, s.n, proc)
			if ok != wantOk || !sameNode(got, want) {
				t.Fatal(impl.AppWrite(s.apps), s.n, proc, got, ok)
			}
			if !impl.NodeOk(got) || !keepsTheSame(got, s.n) || got.Up != s.n.Up {
				t.Fatal("not ok, or something was settled", s.n, got)
			}
			if more := got.Version - s.n.Version; more < 0 || more > 1 || doneOf(got) > doneOf(s.n)+1 {
				t.Fatal("more than one", s.n, got)
			}
			if ok {
				steps++
			}
			if ok && doneOf(got) <= doneOf(s.n) {
				undone++
			}
			if ok && got.Version == s.n.Version {
				same++
			} else if ok {
				numbers++
			}
		}
	}
	if steps < 1000 || undone < 10 || numbers < 100 || same < 100 {
		t.Error("too few", steps, undone, numbers, same)
	}
}

// Promise 26: what one process of a node sends another one of it comes at once, and undoes what that had done behind it.
func TestAStepUndoesWhatAnotherLaneHadDone(t *testing.T) {
	apps := mustRead(t, "proc\nrule 0\nset y 5\nsend 3 1 2 y\nproc\nproc\nproc\nrule 2\narg x\nsend 1 0 1 x\n")
	e := impl.Event{Time: 3, To: 3, From: 1, Kind: 2, Arg: 6}
	n := impl.NodeView(impl.NodeStart(0), 1, 1, 1, 0, []impl.Event{e})
	n, _ = impl.NodeStep(apps, n, 3)
	n, ok := impl.NodeStep(apps, n, 3)
	if !ok || len(n.Lanes[1].Done) != 2 || n.Version != 2 || len(impl.NodeTells(n, 1)) != 1 || impl.NodeMin(n) != 0 {
		t.Fatal(n, ok)
	}
	x, ok := impl.NodeStep(apps, n, 0)
	sent := impl.Event{Time: 2, To: 3, From: 0, Kind: 1, Arg: 5}
	if !ok || len(x.Lanes[0].Done) != 1 || len(x.Lanes[1].Done) != 1 || impl.NodeMin(x) != 2 {
		t.Error("it is not undone", x)
	}
	if !slices.Equal(impl.NodeCame(x, 3), []impl.Event{impl.AppFirst(3), sent, e}) || len(impl.NodeTells(x, 1)) != 0 || x.Version != 3 || x.Low != n.Low {
		t.Error("told wrongly", x)
	}
}

// Promise 26: who steps and who does not.
func TestEdgesOfNodeStep(t *testing.T) {
	apps := mustRead(t, "proc\nrule 0\nmore x 1\nsend 1 0 2 x\nproc\nproc\nproc\n")
	start := impl.NodeStart(0)
	change := func(do func(n *impl.Node)) impl.Node {
		n := cloneNode(start)
		do(&n)
		return n
	}
	for i, c := range []struct {
		n       impl.Node
		proc    int
		version int
		ok      bool
	}{
		{n: start, proc: 0, version: 2, ok: true},
		{n: start, proc: 3, version: 1, ok: true},
		{n: change(func(n *impl.Node) { n.Version = 9998 }), proc: 0, version: 9999, ok: true},
		{n: change(func(n *impl.Node) { n.Version = 9998 }), proc: 3, version: 9998, ok: true},
		{n: change(func(n *impl.Node) { n.Version = 9999 }), proc: 0},
		{n: change(func(n *impl.Node) { n.Version = 9999 }), proc: 3},
		{n: change(func(n *impl.Node) { n.Version = 0 }), proc: 0, version: 1, ok: true},
		{n: change(func(n *impl.Node) { n.Known[1] = 2 }), proc: 0, version: 2, ok: true},
		{n: change(func(n *impl.Node) { n.Known[1] = 3 }), proc: 0, version: 1, ok: true},
		{n: change(func(n *impl.Node) { n.Up = false }), proc: 0},
		{n: change(func(n *impl.Node) { n.Kept = nil }), proc: 0},
		{n: change(func(n *impl.Node) { n.G = 1 }), proc: 0},
		{n: start, proc: 1}, {n: start, proc: 2}, {n: start, proc: -1}, {n: start, proc: 4}, {n: start, proc: math.MaxInt}, {n: start, proc: math.MinInt},
	} {
		got, ok := impl.NodeStep(apps, c.n, c.proc)
		if ok != c.ok || !ok && !sameNode(got, c.n) || ok && got.Version != c.version {
			t.Error(i, got, ok)
		}
	}
	for i, apps := range wrongApps() {
		if got, ok := impl.NodeStep(apps, start, 0); ok || !sameNode(got, start) {
			t.Error("programs", i, got, ok)
		}
	}
}

// Promise 27.
func TestWhatANodeHearsSettlesNothing(t *testing.T) {
	d := dice(223)
	newer, undone, lower, further, numbers := 0, 0, 0, 0, 0
	for _, s := range spots() {
		for range 3 {
			w := d.toldTo(s.n)
			got := hear(s.n, w)
			if !sameNode(got, viewByHand(s.n, w)) {
				t.Fatal(s.n, w, got)
			}
			if !impl.NodeOk(got) || !keepsTheSame(got, s.n) || got.Up != s.n.Up || got.Round != s.n.Round {
				t.Fatal("not ok, or something was settled", s.n, w, got)
			}
			for i, l := range got.Lanes {
				if agreeByHand(l, impl.NodeCame(got, l.Proc)) != len(l.Done) || agreeByHand(l, impl.NodeCame(s.n, l.Proc)) != len(l.Done) {
					t.Fatal("what was done has not come", s.n, w, got)
				}
				if !sameDone(l.Done, s.n.Lanes[i].Done[:len(l.Done)]) {
					t.Fatal("something was done by hearing", s.n, w, got)
				}
			}
			newer += count(!sameView(got.Views[w.from], s.n.Views[w.from]))
			undone += count(doneOf(got) < doneOf(s.n))
			lower += count(got.Low < s.n.Low)
			further += count(got.Known[w.from] > s.n.Known[w.from])
			numbers += count(got.Version > s.n.Version)
		}
	}
	if newer < 3000 || undone < 1000 || lower < 1000 || further < 1000 || numbers < 300 {
		t.Error("too few", newer, undone, lower, further, numbers)
	}
}

func count(holds bool) int {
	if holds {
		return 1
	}
	return 0
}

// pairText lets the processes 0 and 3, which share a node, send to and fro.
const pairText = "proc\nrule 1\narg x\nsend 3 1 2 x\nrule 2\narg y\nsend 1 1 5 y\nproc\nproc\nproc\nrule 1\narg x\nsend 0 2 2 x\nrule 3\narg x\nsend 0 1 3 x\n"

func stepAll(apps []impl.App, n impl.Node, procs ...int) impl.Node {
	for _, proc := range procs {
		n, _ = impl.NodeStep(apps, n, proc)
	}
	return n
}

// Promise 27: what is undone in one lane takes back what it sent to another one, whichever of them is first.
func TestUndoingGoesOnToOtherLanes(t *testing.T) {
	apps := mustRead(t, pairText)
	toFirst := impl.Event{Time: 4, To: 0, From: 1, Kind: 1, Arg: 7}
	n := stepAll(apps, impl.NodeView(impl.NodeStart(0), 1, 1, 1, 0, []impl.Event{toFirst}), 0, 3, 0, 3, 0)
	last := impl.Event{Time: 13, To: 1, From: 0, Count: 2, Kind: 1, Arg: 7}
	if len(n.Lanes[0].Done) != 3 || len(n.Lanes[1].Done) != 2 || !slices.Equal(impl.NodeTells(n, 1), []impl.Event{last}) || n.Version != 2 {
		t.Fatal(n)
	}
	x := impl.NodeView(n, 1, 1, 2, 0, nil)
	if len(x.Lanes[0].Done) != 1 || len(x.Lanes[1].Done) != 1 || len(impl.NodeTells(x, 1)) != 0 || x.Version != 3 || x.Low != 4 || impl.NodeMin(x) != 41 {
		t.Error("from the first lane on", x)
	}
	toSecond := impl.Event{Time: 2, To: 3, From: 1, Kind: 3, Arg: 8}
	n = stepAll(apps, impl.NodeView(impl.NodeStart(0), 1, 1, 1, 0, []impl.Event{toSecond}), 0, 3, 3, 0, 3, 0)
	if len(n.Lanes[0].Done) != 3 || len(n.Lanes[1].Done) != 3 || len(impl.NodeTells(n, 1)) != 1 {
		t.Fatal(n)
	}
	x = impl.NodeView(n, 1, 1, 2, 0, nil)
	if len(x.Lanes[0].Done) != 1 || len(x.Lanes[1].Done) != 1 || len(impl.NodeTells(x, 1)) != 0 || x.Version != 3 || x.Low != 2 {
		t.Error("from the second lane on", x)
	}
	if got, ok := impl.NodeStep(apps, x, 0); ok || !sameNode(got, x) {
		t.Error("nothing is left", got)
	}
}

// crowd is so many events to the process 0, of a process of a node, all later than what else there is.
func crowd(n int, from int) []impl.Event {
	var list []impl.Event
	for i := range n {
		list = append(list, impl.Event{Time: 30, To: 0, From: from, Kind: 3, Arg: i})
	}
	return list
}

// Promise 27: at most 100 may have come to a process; what is taken back by hearing does not count.
func TestWhatIsTooMuchIsNotHeard(t *testing.T) {
	gone := impl.Event{Time: 5, To: 3, From: 2, Kind: 1, Arg: 9}
	n := impl.NodeStart(0)
	n.Views[1] = impl.View{Inc: 1, Version: 1, Events: crowd(60, 1)}
	n.Views[2] = impl.View{Inc: 1, Version: 1, Events: append([]impl.Event{gone}, crowd(38, 2)...)}
	n = stepAll(mustRead(t, pairText), n, 3, 3)
	if len(n.Lanes[1].Done) != 2 || len(impl.NodeCame(n, 0)) != 100 {
		t.Fatal(n)
	}
	for i, c := range []struct {
		events []impl.Event
		ok     bool
	}{
		{events: append([]impl.Event{gone}, crowd(38, 2)...), ok: true},
		{events: append([]impl.Event{gone}, crowd(39, 2)...)},
		{events: crowd(39, 2), ok: true},
		{events: crowd(40, 2)},
	} {
		got := impl.NodeView(n, 2, 1, 2, 7, c.events)
		if !c.ok && !sameNode(got, n) {
			t.Error("it is heard", i)
		}
		if c.ok && (got.Views[2].Version != 2 || got.Known[2] != 7 || len(impl.NodeCame(got, 0)) != 100 || !impl.NodeOk(got)) {
			t.Error("it is not heard", i)
		}
	}
}

// Promise 27: what a lane itself had sent itself does not count either, once it is undone.
func TestWhatALaneTakesBackItselfMakesRoom(t *testing.T) {
	apps := mustRead(t, "proc\nrule 1\nsend 0 2 9 x\nproc\nproc\nproc\n")
	gone := impl.Event{Time: 5, To: 0, From: 2, Kind: 1}
	n := impl.NodeStart(0)
	n.Views[1] = impl.View{Inc: 1, Version: 1, Events: crowd(60, 1)}
	n.Views[2] = impl.View{Inc: 1, Version: 1, Events: append([]impl.Event{gone}, crowd(37, 2)...)}
	n = stepAll(apps, n, 0, 0)
	if len(n.Lanes[0].Done) != 2 || len(impl.NodeCame(n, 0)) != 100 {
		t.Fatal(n)
	}
	got := impl.NodeView(n, 2, 1, 2, 0, crowd(39, 2))
	if len(got.Lanes[0].Done) != 1 || got.Views[2].Version != 2 || len(impl.NodeCame(got, 0)) != 100 {
		t.Error("it is not heard", got)
	}
	if got := impl.NodeView(n, 2, 1, 2, 0, crowd(40, 2)); !sameNode(got, n) {
		t.Error("it is heard", got)
	}
}

// Promise 26: a step by which more than 100 would have come is none.
func TestAStepThatIsTooMuchIsNone(t *testing.T) {
	apps := mustRead(t, "proc\nrule 0\nsend 3 0 1 x\nsend 0 3 1 x\nproc\nproc\nproc\nrule 0\nsend 0 1 2 y\n")
	for _, c := range []struct {
		many, proc int
		ok         bool
	}{{98, 0, true}, {98, 3, true}, {99, 0, false}, {99, 3, false}} {
		n := impl.NodeStart(0)
		n.Views[1] = impl.View{Inc: 1, Version: 1, Events: crowd(c.many, 1)}
		got, ok := impl.NodeStep(apps, n, c.proc)
		if ok != c.ok || !ok && !sameNode(got, n) || ok && len(impl.NodeCame(got, 0)) != 100 {
			t.Error(c, ok, len(impl.NodeCame(got, 0)))
		}
	}
}

// Promise 28.
func TestATellingThatComesTwice(t *testing.T) {
	d := dice(224)
	changed := 0
	for _, s := range spots() {
		w := d.toldTo(s.n)
		once := hear(s.n, w)
		if twice := hear(once, w); !sameNode(twice, once) {
			t.Fatal(s.n, w, once, twice)
		}
		changed += count(!sameNode(once, s.n))
	}
	if changed < 1000 {
		t.Error("too few changed anything", changed)
	}
}

func sameCame(a impl.Node, b impl.Node) bool {
	for _, proc := range procsByHand(a.Id) {
		if !slices.Equal(impl.NodeCame(a, proc), impl.NodeCame(b, proc)) {
			return false
		}
	}
	return true
}

// Promise 29.
func TestAnElderTellingChangesNothing(t *testing.T) {
	d := dice(225)
	elder, further := 0, 0
	for _, s := range spots() {
		w := d.toldTo(s.n)
		if !isElder(s.n, w) {
			continue
		}
		got := hear(s.n, w)
		if !sameCame(got, s.n) || got.Low != s.n.Low || !slices.EqualFunc(got.Lanes, s.n.Lanes, sameLane) || !slices.EqualFunc(got.Views, s.n.Views, sameView) {
			t.Fatal(s.n, w, got)
		}
		elder++
		further += count(got.Known[w.from] > s.n.Known[w.from])
	}
	if elder < 500 || further < 100 {
		t.Error("too few", elder, further)
	}
}

// Promise 29: which life and which number are later.
func TestEdgesOfElderTellings(t *testing.T) {
	early, late := impl.Event{Time: 3, To: 1, From: 0}, impl.Event{Time: 5, To: 1, From: 3}
	n := impl.NodeView(impl.NodeStart(1), 0, 4, 7, 0, []impl.Event{late})
	for i, c := range []struct {
		inc, version int
		newer        bool
	}{
		{4, 7, false}, {4, 6, false}, {4, 0, false}, {3, 8, false}, {3, 9999, false}, {1, 9999, false},
		{4, 8, true}, {4, 9999, true}, {5, 7, true}, {5, 0, true}, {9999, 0, true},
	} {
		got := impl.NodeView(n, 0, c.inc, c.version, 2, []impl.Event{early, late})
		want := impl.View{Inc: 4, Version: 7, Events: []impl.Event{late}}
		low := 5
		if c.newer {
			want, low = impl.View{Inc: c.inc, Version: c.version, Events: []impl.Event{early, late}}, 3
		}
		if !sameView(got.Views[0], want) || got.Low != low || got.Known[0] != 2 {
			t.Error(i, got)
		}
	}
	// At first a View is of no life and has no number, so that any telling is later.
	if got := impl.NodeView(impl.NodeStart(1), 0, 1, 0, 0, []impl.Event{early}); len(got.Views[0].Events) != 1 || got.Views[0].Inc != 1 {
		t.Error(got)
	}
}

// Promise 29: Known goes on by an elder telling too, and what it tells less by that has a number.
func TestAnElderTellingTellsHowFar(t *testing.T) {
	kept := []impl.Event{{Time: 3, To: 0, From: 1}, impl.Event{Time: 6, To: 0, From: 1}}
	n := impl.NodeStart(1)
	n.Kept = inOrder(append(kept, n.Kept...))
	n.Views[0] = impl.View{Inc: 2, Version: 5}
	for _, c := range []struct{ g, known, tells, version int }{{0, 0, 2, 1}, {3, 3, 2, 1}, {4, 4, 1, 2}, {6, 6, 1, 2}, {7, 7, 0, 2}, {41, 41, 0, 2}} {
		got := impl.NodeView(n, 0, 1, 1, c.g, []impl.Event{{Time: 1, To: 1, From: 0}})
		if got.Known[0] != c.known || len(impl.NodeTells(got, 0)) != c.tells || got.Version != c.version || len(got.Views[0].Events) != 0 || got.Low != 41 {
			t.Error(c, got)
		}
		if back := impl.NodeView(got, 0, 2, 5, 0, nil); !sameNode(back, got) {
			t.Error("Known falls", back)
		}
	}
}

// Promise 30.
func TestWhichOfTwoIsHeardFirst(t *testing.T) {
	d := dice(226)
	both, undone := 0, 0
	for _, s := range spots() {
		w := [2]told{d.toldTo(s.n), d.toldTo(s.n)}
		if w[0].from == w[1].from || s.n.Version > mostNumber-2 {
			continue
		}
		a, b := hear(hear(s.n, w[0]), w[1]), hear(hear(s.n, w[1]), w[0])
		if !sameCame(a, b) || a.Low != b.Low || !slices.EqualFunc(a.Lanes, b.Lanes, sameLane) || !slices.Equal(a.Known, b.Known) {
			t.Fatal(s.n, w, a, b)
		}
		both += count(!isElder(s.n, w[0]) && !isElder(s.n, w[1]))
		undone += count(doneOf(a) < doneOf(s.n))
	}
	if both < 500 || undone < 300 {
		t.Error("too few", both, undone)
	}
}

func doAllOf(apps []impl.App, n impl.Node) impl.Node {
	for did := true; did; {
		did = false
		for _, proc := range procsByHand(n.Id) {
			next, ok := impl.NodeStep(apps, n, proc)
			n, did = next, did || ok
		}
	}
	return n
}

// Promise 31.
func TestWhatIsTakenBackAndToldAgain(t *testing.T) {
	d := dice(227)
	again := 0
	for i, s := range spots() {
		if i%5 != 0 || !s.n.Up || s.n.Version > 100 {
			continue
		}
		w := d.toldTo(s.n)
		w.inc, w.version = min(mostNumber, s.n.Views[w.from].Inc+1), 1
		if w.inc == s.n.Views[w.from].Inc {
			continue
		}
		told := hear(s.n, w)
		back := w
		back.version, back.events = 2, nil
		taken := hear(told, back)
		for _, e := range w.events {
			if !slices.Contains(sentByHand(taken), e) && slices.Contains(impl.NodeCame(taken, e.To), e) && !slices.Contains(taken.Views[3-w.from-s.n.Id].Events, e) {
				t.Fatal("it is not taken back", s.n, w, taken)
			}
		}
		w.version = 3
		there := hear(taken, w)
		for _, e := range w.events {
			if e.Time >= s.n.G && !slices.Contains(impl.NodeCame(there, e.To), e) {
				t.Fatal("it is not there again", s.n, w, there)
			}
		}
		again += count(doneOf(taken) < doneOf(told))
	}
	if again < 30 {
		t.Error("too little was undone", again)
	}
}

// Promise 31: what was done may have to be done again, and is done alike.
func TestWhatIsToldAgainIsDoneAlike(t *testing.T) {
	apps := mustRead(t, pairText)
	list := []impl.Event{{Time: 2, To: 3, From: 1, Kind: 3, Arg: 8}, {Time: 4, To: 0, From: 1, Kind: 1, Arg: 7}}
	once := doAllOf(apps, impl.NodeView(impl.NodeStart(0), 1, 1, 1, 0, list))
	taken := impl.NodeView(once, 1, 1, 2, 0, nil)
	there := impl.NodeView(taken, 1, 1, 3, 0, list)
	if doneOf(once) != 9 || doneOf(taken) != 2 || doneOf(there) != 2 || impl.NodeMin(there) != 2 || len(impl.NodeTells(there, 1)) != 0 {
		t.Fatal(once, taken, there)
	}
	again := doAllOf(apps, there)
	if !sameCame(again, once) || !slices.EqualFunc(again.Lanes, once.Lanes, sameLane) || again.Low != 2 || !slices.Equal(impl.NodeTells(again, 1), impl.NodeTells(once, 1)) {
		t.Error(again, once)
	}
	if again.Version <= taken.Version {
		t.Error("told again without a number", again.Version)
	}
}

// Promise 32.
func TestWhatANodeTells(t *testing.T) {
	tells := 0
	for _, s := range spots() {
		sent := sentByHand(s.n)
		for to := -1; to <= 3; to++ {
			got := impl.NodeTells(s.n, to)
			if !slices.Contains(othersByHand(s.n.Id), to) {
				if len(got) != 0 {
					t.Fatal("there is no such other one", s.n, to, got)
				}
				continue
			}
			for i, e := range got {
				if !slices.Contains(sent, e) || nodeOfByHand(e.To) != to || e.Time < s.n.Known[to] || i > 0 && compareEvents(got[i-1], e) >= 0 {
					t.Fatal(s.n, to, got)
				}
			}
			if !slices.Equal(got, tellsByHand(s.n, to)) {
				t.Fatal("something is left out", s.n, to, got)
			}
			tells += len(got)
		}
	}
	if tells < 3000 {
		t.Error("too little was told", tells)
	}
}

// Promise 32: what is kept and what is done ahead are told alike, each once; what others told is not.
func TestEdgesOfNodeTells(t *testing.T) {
	n := impl.NodeStart(1)
	a, b, c := impl.Event{Time: 4, To: 0, From: 1}, impl.Event{Time: 5, To: 3, From: 1}, impl.Event{Time: 5, To: 2, From: 1}
	n.Kept = []impl.Event{impl.AppFirst(1), a, c}
	n.Lanes[0].Done = []impl.Past{{Event: impl.AppFirst(1), Sends: []impl.Event{a, b}}}
	n.Views[0].Events = []impl.Event{{Time: 9, To: 1, From: 0}, {Time: 9, To: 2, From: 0}}
	n.Views[1].Events = []impl.Event{{Time: 9, To: 0, From: 1}}
	n.G = 0
	for known, want := range [][]impl.Event{4: {a, b}, 5: {b}, 6: nil, 41: nil} {
		n.Known = []int{known, 30, 0}
		if known < 4 {
			want = []impl.Event{a, b}
		}
		if got := impl.NodeTells(n, 0); !slices.Equal(got, want) {
			t.Error(known, got)
		}
		if got := impl.NodeTells(n, 2); !slices.Equal(got, []impl.Event{c}) {
			t.Error("how far another one has settled", known, got)
		}
	}
	for _, to := range []int{1, -1, 3, math.MaxInt, math.MinInt} {
		if len(impl.NodeTells(n, to)) != 0 {
			t.Error("there is no such other one", to)
		}
	}
	n.Up = false
	if len(impl.NodeTells(n, 2)) != 1 {
		t.Error("whether it is up is not asked")
	}
}

// Promise 33.
func TestWhatIsSettledIsNotToldAgain(t *testing.T) {
	d := dice(228)
	less := 0
	for _, s := range spots() {
		w := d.toldTo(s.n)
		got := hear(s.n, w)
		if isRefused(s.n, w) {
			continue
		}
		for _, e := range impl.NodeTells(got, w.from) {
			if e.Time < w.g || e.Time < s.n.Known[w.from] {
				t.Fatal("told again", s.n, w, e)
			}
		}
		for _, e := range impl.NodeTells(s.n, w.from) {
			if e.Time >= w.g && slices.Contains(sentByHand(got), e) && !slices.Contains(impl.NodeTells(got, w.from), e) {
				t.Fatal("no more told", s.n, w, e)
			}
		}
		less += count(len(impl.NodeTells(got, w.from)) < len(impl.NodeTells(s.n, w.from)))
	}
	if less < 200 {
		t.Error("too little was settled by others", less)
	}
}

// Promise 34.
func TestWhatHasCome(t *testing.T) {
	came, ahead := 0, 0
	for _, s := range spots() {
		for proc := -1; proc <= 4; proc++ {
			got := impl.NodeCame(s.n, proc)
			at := slices.Index(procsByHand(s.n.Id), proc)
			if at < 0 {
				if len(got) != 0 {
					t.Fatal("the process is none of it", s.n, proc, got)
				}
				continue
			}
			for i, e := range got {
				if e.To != proc || e.Time < s.n.G || i > 0 && compareEvents(got[i-1], e) >= 0 {
					t.Fatal(s.n, proc, got)
				}
			}
			for i, p := range s.n.Lanes[at].Done {
				if got[i] != p.Event {
					t.Fatal("what was done is no beginning", s.n, proc, got)
				}
			}
			if !slices.Equal(got, cameByHand(s.n, proc)) {
				t.Fatal(s.n, proc, got)
			}
			came += len(got)
			ahead += count(len(got) > len(s.n.Lanes[at].Done) && s.n.G > 0)
		}
	}
	if came < 5000 || ahead < 300 {
		t.Error("too little has come", came, ahead)
	}
}

// Promise 34: from where it comes; what is settled has come no more; and each event once.
func TestEdgesOfNodeCame(t *testing.T) {
	at := func(time int, from int) impl.Event { return impl.Event{Time: time, To: 3, From: from} }
	n := impl.NodeStart(0)
	n.Views[1].Events = []impl.Event{at(6, 1), at(7, 1), at(8, -1)}
	n.Views[2].Events = []impl.Event{at(7, 2), at(8, -1)}
	n.Views[0].Events = []impl.Event{at(9, 0)}
	n.Kept = []impl.Event{at(5, 3), at(7, 3)}
	n.Lanes[0].Done = nil
	for g, want := range map[int][]impl.Event{
		0: {at(5, 3), at(6, 1), at(7, 1), at(7, 2), at(7, 3), at(8, -1)},
		6: {at(6, 1), at(7, 1), at(7, 2), at(7, 3), at(8, -1)},
		7: {at(7, 1), at(7, 2), at(7, 3), at(8, -1)},
		8: {at(8, -1)},
		9: nil,
	} {
		n.G = g
		if got := impl.NodeCame(n, 3); !slices.Equal(got, want) {
			t.Error(g, got)
		}
		if got := impl.NodeCame(n, 0); len(got) != 0 {
			t.Error("nothing is for that one", got)
		}
	}
	for _, proc := range []int{1, 2, -1, 4, math.MaxInt, math.MinInt} {
		if n.G = 0; len(impl.NodeCame(n, proc)) != 0 {
			t.Error("the process is none of it", proc)
		}
	}
}

// Promise 35.
func TestTheFirstThatIsNotDone(t *testing.T) {
	some, none := 0, 0
	for _, s := range spots() {
		got := impl.NodeMin(s.n)
		if got < s.n.G || got != minByHand(s.n) {
			t.Fatal(s.n, got)
		}
		least := 41
		for i, proc := range procsByHand(s.n.Id) {
			for _, e := range impl.NodeCame(s.n, proc)[len(s.n.Lanes[i].Done):] {
				least = min(least, e.Time)
			}
		}
		if got != least {
			t.Fatal("an earlier one is not done, or there is none", s.n, got)
		}
		some, none = some+count(got < 41), none+count(got == 41)
	}
	if some < 500 || none < 100 {
		t.Error("too few", some, none)
	}
}

// Promise 35: the least of all lanes, whichever it is; none, and the last time.
func TestEdgesOfNodeMin(t *testing.T) {
	n := impl.NodeStart(0)
	for i, c := range []struct{ first, second, want int }{{3, 5, 3}, {5, 3, 3}, {4, 4, 4}, {-1, 7, 7}, {7, -1, 7}, {40, 40, 40}, {-1, -1, 41}, {0, 40, 0}} {
		n.Views[1].Events, n.Kept = nil, nil
		if c.first >= 0 {
			n.Views[1].Events = append(n.Views[1].Events, impl.Event{Time: c.first, To: 0, From: 1})
		}
		if c.second >= 0 {
			n.Kept = append(n.Kept, impl.Event{Time: c.second, To: 3, From: 0})
		}
		if got := impl.NodeMin(n); got != c.want {
			t.Error(i, got)
		}
	}
	n.G = 41
	if impl.NodeMin(n) != 41 {
		t.Error("all is settled")
	}
}
