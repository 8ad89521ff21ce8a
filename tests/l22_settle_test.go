package tests

import (
	"math"
	"slices"
	"testing"

	"loop.example/slackwater/impl"
)

// answered is a node as it is just behind its answer to a round.
func answered(n impl.Node, round int) impl.Node {
	n = cloneNode(n)
	n.Round, n.Low = round, 41
	return n
}

func checkSettled(t *testing.T, n impl.Node, got impl.Node, g int) {
	t.Helper()
	if !impl.NodeOk(got) || got.G != g || got.Version != n.Version || got.Inc != n.Inc || got.Led != n.Led || got.Round != n.Round || got.Low != n.Low {
		t.Fatal("not ok, or another one", n, g, got)
	}
	var outs []impl.Out
	for i, l := range n.Lanes {
		if impl.LaneNow(got.Lanes[i]) != impl.LaneNow(l) {
			t.Fatal("what is known is another", n, g, got)
		}
		behind := 0
		for behind < len(l.Done) && l.Done[behind].Event.Time < g {
			outs = append(outs, l.Done[behind].Outs...)
			behind++
		}
		if !sameDone(got.Lanes[i].Done, l.Done[behind:]) {
			t.Fatal("what is behind the time is not as it was", n, g, got)
		}
	}
	if !slices.Equal(got.Outs, outsByHand(append(outs, n.Outs...))) {
		t.Fatal("let out wrongly", n, g, got)
	}
	for _, to := range othersByHand(n.Id) {
		if !slices.Equal(impl.NodeTells(got, to), impl.NodeTells(n, to)) {
			t.Fatal("what another one is told is not as it was", n, g, got)
		}
	}
}

// Promise 36.
func TestWhatIsSettledIsWhatWasDone(t *testing.T) {
	d := dice(231)
	settled, some, left, refused := 0, 0, 0, 0
	for _, s := range spots() {
		n := s.n
		if d.upTo(3) > 0 {
			n = answered(n, d.between(1, 3))
		}
		for _, g := range []int{n.G, n.G + 1, minByHand(n), minByHand(n) + 1, d.upTo(41), 41} {
			got, ok := impl.NodeSettle(n, n.Round, g)
			want, wantOk := settleNodeByHand(n, n.Round, g)
			if ok != wantOk || !sameNode(got, want) {
				t.Fatal(n, g, got, ok)
			}
			if !ok {
				refused++
				continue
			}
			checkSettled(t, n, got, g)
			settled++
			some += count(doneOf(got) < doneOf(n))
			left += count(doneOf(got) > 0)
		}
	}
	if settled < 2000 || some < 500 || left < 300 || refused < 2000 {
		t.Error("too few", settled, some, left, refused)
	}
}

// settler has done all at the times 0, 4 and 6, what is at 9 is not done; it has sent to itself and to all others.
func settler(t *testing.T) impl.Node {
	t.Helper()
	apps := mustRead(t, "proc\nproc\nrule 1\narg x\nout x\nsend 0 1 3 x\nsend 2 1 4 x\nrule 2\narg x\nout x\nsend 1 1 3 x\nproc\nproc\n")
	list := []impl.Event{{Time: 4, To: 1, From: 0, Kind: 1, Arg: 7}, {Time: 6, To: 1, From: 0, Kind: 2, Arg: 8}}
	n := stepAll(apps, impl.NodeView(impl.NodeStart(1), 0, 1, 1, 0, list), 1, 1, 1)
	if doneOf(n) != 3 || impl.NodeMin(n) != 9 {
		t.Fatal(n)
	}
	return answered(n, 4)
}

// Promise 36: what is just at the time is left; G and its own Known are the time; what it sent is kept as long as it may be needed.
func TestEdgesOfNodeSettle(t *testing.T) {
	n := settler(t)
	toZero := impl.Event{Time: 7, To: 0, From: 1, Count: 1, Kind: 1, Arg: 7}
	toTwo := impl.Event{Time: 8, To: 2, From: 1, Count: 1, N: 1, Kind: 1, Arg: 7}
	toSelf := impl.Event{Time: 9, To: 1, From: 1, Count: 2, Kind: 1, Arg: 8}
	out1, out2 := impl.Out{Time: 4, Proc: 1, Count: 1, Value: 7}, impl.Out{Time: 6, Proc: 1, Count: 2, Value: 8}
	for _, c := range []struct {
		g, left int
		ok      bool
		kept    []impl.Event
		outs    []impl.Out
	}{
		{g: -1}, {g: 0}, {g: math.MinInt},
		{g: 1, ok: true, left: 2},
		{g: 4, ok: true, left: 2},
		{g: 5, ok: true, left: 1, kept: []impl.Event{toZero, toTwo}, outs: []impl.Out{out1}},
		{g: 6, ok: true, left: 1, kept: []impl.Event{toZero, toTwo}, outs: []impl.Out{out1}},
		{g: 7, ok: true, kept: []impl.Event{toZero, toTwo, toSelf}, outs: []impl.Out{out1, out2}},
		{g: 9, ok: true, kept: []impl.Event{toZero, toTwo, toSelf}, outs: []impl.Out{out1, out2}},
		{g: 10}, {g: 41}, {g: 42}, {g: math.MaxInt},
	} {
		got, ok := impl.NodeSettle(n, 4, c.g)
		if ok != c.ok || !ok && !sameNode(got, n) {
			t.Error(c.g, got, ok)
		}
		if ok && (got.G != c.g || !slices.Equal(got.Known, []int{0, c.g, 0}) || len(got.Lanes[0].Done) != c.left || !slices.Equal(got.Kept, c.kept) || !slices.Equal(got.Outs, c.outs)) {
			t.Error(c.g, got)
		}
	}
}

// Promise 36: what is ahead of what the node of its process has settled goes; what is just at that stays.
func TestWhatIsNoMoreNeededGoes(t *testing.T) {
	n := settler(t)
	for _, c := range []struct{ zero, two, kept int }{{0, 0, 3}, {7, 8, 3}, {8, 8, 2}, {7, 9, 2}, {8, 9, 1}, {41, 41, 1}} {
		n.Known = []int{c.zero, 33, c.two}
		got, ok := impl.NodeSettle(n, 4, 9)
		if !ok || len(got.Kept) != c.kept || !slices.Equal(got.Known, []int{c.zero, 9, c.two}) {
			t.Error(c, got, ok)
		}
	}
	n.Known = []int{0, 0, 0}
	n.Kept = []impl.Event{impl.AppFirst(1), {Time: 2, To: 1, From: 1, Kind: 3}, {Time: 2, To: 3, From: 1}, {Time: 12, To: 1, From: 1}}
	n.Lanes[0].Done = n.Lanes[0].Done[:1]
	n.Views[0].Events = nil
	got, ok := impl.NodeSettle(n, 4, 2)
	if !ok || !slices.Equal(got.Kept, n.Kept[1:]) {
		t.Error("what was kept", got.Kept, ok)
	}
}

// Promise 36: nothing ahead of the time may have been touched since the answer, and all ahead of it must be done.
func TestWhoMaySettle(t *testing.T) {
	n := settler(t)
	change := func(do func(n *impl.Node)) impl.Node {
		x := cloneNode(n)
		do(&x)
		return x
	}
	for i, c := range []struct {
		n    impl.Node
		g    int
		ok   bool
		says string
	}{
		{n: change(func(n *impl.Node) { n.Low = 5 }), g: 5, ok: true, says: "touched just at the time"},
		{n: change(func(n *impl.Node) { n.Low = 4 }), g: 5, says: "touched ahead of it"},
		{n: change(func(n *impl.Node) { n.Low = 0 }), g: 1, says: "touched at first"},
		{n: change(func(n *impl.Node) { n.Version = 9998 }), g: 5, ok: true, says: "one number is left"},
		{n: change(func(n *impl.Node) { n.Version = 9999 }), g: 5, says: "no number is left"},
		{n: change(func(n *impl.Node) { n.Version = 0 }), g: 5, ok: true, says: "without a number"},
		{n: change(func(n *impl.Node) { n.Up = false }), g: 5, says: "it is down"},
		{n: change(func(n *impl.Node) { n.Lanes[0].Done = n.Lanes[0].Done[:2] }), g: 6, ok: true, says: "not done just at the time"},
		{n: change(func(n *impl.Node) { n.Lanes[0].Done = n.Lanes[0].Done[:2] }), g: 7, says: "not done ahead of it"},
		{n: change(func(n *impl.Node) { n.Lanes[0].Done[2].Sends = nil }), g: 41, ok: true, says: "all is done"},
		{n: change(func(n *impl.Node) { n.Lanes[0].Done[2].Sends = nil }), g: 42, says: "behind the end"},
		{n: change(func(n *impl.Node) { n.Lanes[0].Done[1].Outs[0].Time = 5 }), g: 5, says: "let out just at the time"},
		{n: change(func(n *impl.Node) { n.Lanes[0].Done[1].Outs[0].Time = 5 }), g: 6, ok: true, says: "let out ahead of it"},
		{n: change(func(n *impl.Node) { n.Lanes[0].Done[2].Outs = n.Lanes[0].Done[1].Outs }), g: 6, ok: true, says: "let out once"},
		{n: change(func(n *impl.Node) { n.Lanes[0].Done[2].Outs = n.Lanes[0].Done[1].Outs }), g: 7, says: "let out twice"},
	} {
		if got, ok := impl.NodeSettle(c.n, 4, c.g); !impl.NodeOk(c.n) || ok != c.ok || !ok && !sameNode(got, c.n) {
			t.Error(i, c.says, got, ok)
		}
	}
}

func outsAt(n int, time int) []impl.Out {
	var list []impl.Out
	for i := range n {
		list = append(list, impl.Out{Time: time, Proc: 2, Value: i})
	}
	return list
}

func eventsTo(n int, proc int, time int) []impl.Event {
	var list []impl.Event
	for i := range n {
		list = append(list, impl.Event{Time: time, To: proc, From: 1, Arg: i})
	}
	return list
}

// Promise 36: what has no room is not settled; what goes at once takes none.
func TestWhatHasNoRoomIsNotSettled(t *testing.T) {
	for i, c := range []struct {
		outs, kept, known int
		ok                bool
	}{
		{outs: 95, kept: 0, ok: true}, {outs: 96, kept: 0},
		{outs: 0, kept: 98, ok: true}, {outs: 0, kept: 99},
		{outs: 0, kept: 99, known: 7, ok: true}, {outs: 0, kept: 99, known: 8, ok: true}, {outs: 95, kept: 98, ok: true},
	} {
		n := settler(t)
		n.G = 4
		n.Lanes[0].Done = n.Lanes[0].Done[1:]
		n.Outs, n.Kept = outsAt(c.outs, 3), eventsTo(c.kept, 2, 20)
		if c.known > 0 {
			n.Kept[0].Time, n.Known[2] = c.known-1, c.known
		}
		got, ok := impl.NodeSettle(n, 4, 5)
		if !impl.NodeOk(n) || ok != c.ok || !ok && !sameNode(got, n) {
			t.Error(i, ok, impl.NodeOk(n))
		}
		if ok && (len(got.Outs) != c.outs+1 || len(got.Kept) > 100) {
			t.Error(i, len(got.Outs), len(got.Kept))
		}
	}
}

// Promise 36: ahead of a time, and then ahead of a later one, is ahead of that; what is settled does not fall.
func TestNodesSettleFurther(t *testing.T) {
	d := dice(232)
	both := 0
	for _, s := range spots() {
		n := answered(s.n, 2)
		early, late := d.upTo(41), d.upTo(41)
		if early > late {
			early, late = late, early
		}
		mid, ok1 := impl.NodeSettle(n, 2, early)
		end, ok2 := impl.NodeSettle(mid, 2, late)
		want, ok := impl.NodeSettle(n, 2, late)
		if ok1 && ok2 && ok && !sameNode(end, want) {
			t.Fatal(n, early, late, end, want)
		}
		both += count(ok1 && ok2 && ok)
		for g := range end.G + 1 {
			if back, ok := impl.NodeSettle(end, 2, g); ok || !sameNode(back, end) {
				t.Fatal("it falls", end, g, back)
			}
		}
	}
	if both < 300 {
		t.Error("too few", both)
	}
}

// Promises 36, 27: what another one tells behind a time that is settled touches nothing, whatever it is.
func TestWhatIsToldOfWhatIsSettled(t *testing.T) {
	n, ok := impl.NodeSettle(settler(t), 4, 7)
	if !ok || impl.NodeMin(n) != 9 {
		t.Fatal(n)
	}
	for i, list := range [][]impl.Event{nil, {{Time: 0, To: 1, From: 0}}, {{Time: 4, To: 1, From: 0}, {Time: 6, To: 1, From: 3, Kind: 3}}} {
		got := impl.NodeView(n, 0, 1, 2, 0, list)
		if got.Low != 41 || !sameCame(got, n) || got.Version != n.Version || !keepsTheSame(got, n) || got.Views[0].Version != 2 {
			t.Error(i, got)
		}
	}
	for time := 6; time <= 8; time++ {
		got := impl.NodeView(n, 0, 1, 2, 0, []impl.Event{{Time: time, To: 1, From: 0}})
		low := time
		if time == 6 {
			low = 41
		}
		if got.Low != low || len(impl.NodeCame(got, 1)) != 1+count(time >= 7) {
			t.Error("at the time", time, got)
		}
	}
}

// Low is the least time of what only one of the two has; what both have, and what it was already, stays.
func TestTheFirstTimeThatWasTouched(t *testing.T) {
	at := func(times ...int) []impl.Event {
		var list []impl.Event
		for _, time := range times {
			list = append(list, impl.Event{Time: time, To: 1, From: 0})
		}
		return list
	}
	other := impl.Event{Time: 5, To: 1, From: 0, Arg: 1}
	for i, c := range []struct {
		g, low        int
		before, after []impl.Event
		want          int
	}{
		{low: 41, before: at(5, 8), after: at(5, 8), want: 41},
		{low: 41, before: at(5, 8), after: at(5, 7, 8), want: 7},
		{low: 41, before: at(5, 8), after: at(8), want: 5},
		{low: 41, before: at(5, 8), after: at(5), want: 8},
		{low: 41, before: at(5, 8), after: at(3, 8), want: 3},
		{low: 41, before: at(5, 8), after: []impl.Event{other, at(8)[0]}, want: 5},
		{low: 41, before: nil, after: at(40), want: 40},
		{low: 6, before: at(5, 8), after: at(5), want: 6},
		{low: 6, before: at(5, 8), after: at(8), want: 5},
		{low: 6, before: at(6, 8), after: at(8), want: 6},
		{g: 5, low: 41, before: at(5, 8), after: at(8), want: 5},
		{g: 6, low: 41, before: at(5, 8), after: at(8), want: 41},
		{g: 6, low: 41, before: at(5, 8), after: at(3), want: 8},
		{g: 41, low: 41, before: at(5, 40), after: nil, want: 41},
		{g: 9, low: 3, before: at(5, 8), after: at(12), want: 3},
	} {
		n := impl.NodeStart(1)
		n.G, n.Low = c.g, c.low
		n.Views[0] = impl.View{Inc: 1, Version: 1, Events: c.before}
		if got := impl.NodeView(n, 0, 1, 2, 0, c.after); got.Low != c.want || got.Views[0].Version != 2 {
			t.Error(i, got.Low, c.want)
		}
		if got := impl.NodeView(n, 0, 1, 1, 0, c.after); got.Low != c.low {
			t.Error("an elder one", i, got.Low)
		}
	}
}

// Promise 37.
func TestNobodySettlesByARoundThatItDidNotAnswer(t *testing.T) {
	n := settler(t)
	for _, round := range []int{4, 1, 9999} {
		n.Round = round
		if _, ok := impl.NodeSettle(n, round, 5); !ok {
			t.Error("it answered that", round)
		}
		for _, other := range []int{round - 1, round + 1, 0, -1, 2, 10000, math.MaxInt, math.MinInt} {
			if got, ok := impl.NodeSettle(n, other, 5); ok || !sameNode(got, n) {
				t.Error("it did not answer that", round, other)
			}
		}
	}
	n.Round = 0
	for round := -2; round <= 6; round++ {
		if got, ok := impl.NodeSettle(n, round, 5); ok || !sameNode(got, n) {
			t.Error("it answered none", round, got)
		}
	}
}

// Promise 37: what was answered in another life counts for nothing.
func TestAnotherLifeAnsweredNothing(t *testing.T) {
	rose := 0
	for _, s := range spots() {
		n := answered(s.n, 3)
		r := impl.NodeRise(impl.NodeFall(n))
		for round := range 5 {
			for _, g := range []int{n.G + 1, 41} {
				if got, ok := impl.NodeSettle(r, round, g); ok || !sameNode(got, r) {
					t.Fatal(n, r, round, got)
				}
			}
		}
		rose += count(r.Up && minByHand(r) > n.G)
	}
	if rose < 500 {
		t.Error("too few rose", rose)
	}
}

// Promise 38.
func TestANodeThatFallsKeepsWhatItKeeps(t *testing.T) {
	forgot, late := 0, 0
	for _, s := range spots() {
		f := impl.NodeFall(s.n)
		if !sameNode(f, fallenByHand(s.n)) || !impl.NodeOk(f) {
			t.Fatal(s.n, f)
		}
		if again := impl.NodeFall(f); !sameNode(again, f) {
			t.Fatal("it falls twice", f, again)
		}
		r := impl.NodeRise(f)
		want := fallenByHand(s.n)
		if s.n.Inc < mostNumber {
			want.Up, want.Inc, want.Version = true, s.n.Inc+1, 1
		}
		if !sameNode(r, want) || !impl.NodeOk(r) {
			t.Fatal(s.n, r)
		}
		if again := impl.NodeRise(r); r.Up && !sameNode(again, r) {
			t.Fatal("it rises twice", r, again)
		}
		forgot += count(doneOf(s.n) > 0)
		late += count(s.n.Inc == mostNumber)
	}
	if forgot < 1000 || late < 5 {
		t.Error("too few", forgot, late)
	}
}

// Promise 38: one that is up does not rise; one that is down forgets, by rising, what it should not know; the last life is the last.
func TestEdgesOfRising(t *testing.T) {
	n := settler(t)
	n.Led, n.G = 9, 0
	if got := impl.NodeRise(n); !sameNode(got, n) {
		t.Error("it is up", got)
	}
	n.Up = false
	for _, inc := range []int{1, 9998} {
		n.Inc = inc
		want := fallenByHand(n)
		want.Up, want.Inc, want.Version = true, inc+1, 1
		if got := impl.NodeRise(n); !sameNode(got, want) || got.Led != 9 {
			t.Error(inc, got)
		}
	}
	n.Inc = 9999
	if got := impl.NodeRise(n); !sameNode(got, n) || doneOf(got) != 3 {
		t.Error("there is no next life", got)
	}
	if got := impl.NodeFall(n); !sameNode(got, fallenByHand(n)) {
		t.Error("it falls in its last life", got)
	}
}

// Promise 38: what had been settled is known behind the fall, and what was done ahead has to be done again.
func TestANodeGoesOnBehindAFall(t *testing.T) {
	n, ok := impl.NodeSettle(settler(t), 4, 5)
	if !ok {
		t.Fatal(n)
	}
	r := impl.NodeRise(impl.NodeFall(n))
	if r.G != 5 || r.Lanes[0].Base != (impl.State{X: 7, Count: 2}) || len(r.Outs) != 1 || len(r.Kept) != 2 || impl.NodeMin(r) != 41 || r.Known[1] != 0 {
		t.Fatal(r)
	}
	if len(impl.NodeTells(r, 0)) != 1 || len(impl.NodeTells(r, 2)) != 1 {
		t.Error("what was sent by what is settled is told", r)
	}
	again := impl.NodeView(r, 0, 1, 1, 0, n.Views[0].Events)
	if !slices.Equal(impl.NodeCame(again, 1), n.Views[0].Events[1:]) || impl.NodeMin(again) != 6 || again.Low != 6 {
		t.Error("what is behind the time comes again", again)
	}
}

// hearAll lets all tell all, until nobody has anything new to tell.
func hearAll(nodes []impl.Node) {
	for did := true; did; {
		did = false
		for from := range 3 {
			for _, to := range othersByHand(from) {
				n := nodes[from]
				x := impl.NodeView(nodes[to], from, n.Inc, n.Version, n.G, impl.NodeTells(n, to))
				did = did || !sameNode(x, nodes[to])
				nodes[to] = x
			}
		}
	}
}

func settleAll(t *testing.T, nodes []impl.Node, round int) {
	t.Helper()
	g := 41
	for _, n := range nodes {
		g = min(g, impl.NodeMin(n))
	}
	for id, n := range nodes {
		x, ok := impl.NodeSettle(answered(n, round), round, g)
		if ok != (g > n.G) {
			t.Fatal("it does not settle", n, g)
		}
		nodes[id] = x
	}
}

func someSteps(d *dice, apps []impl.App, nodes []impl.Node) {
	for range d.upTo(20) {
		proc := d.upTo(3)
		nodes[proc%3], _ = impl.NodeStep(apps, nodes[proc%3], proc)
	}
}

// Promises 27, 36, 38: whatever was done ahead, undone, told and forgotten, what is settled is what one machine does.
func TestNodesSettleWhatOneMachineDoes(t *testing.T) {
	d := dice(233)
	let := 0
	for i := range 60 {
		apps := d.simApps(i)
		nodes := []impl.Node{impl.NodeStart(0), impl.NodeStart(1), impl.NodeStart(2)}
		for round := 1; nodes[0].G < 41 || nodes[1].G < 41 || nodes[2].G < 41; round++ {
			if id := d.upTo(9); id < 3 && round < 20 {
				nodes[id] = impl.NodeRise(impl.NodeFall(nodes[id]))
			}
			someSteps(&d, apps, nodes)
			hearAll(nodes)
			someSteps(&d, apps, nodes)
			hearAll(nodes)
			settleAll(t, nodes, round)
			var outs []impl.Out
			for _, n := range nodes {
				sim := impl.SimRun(apps, n.G)
				for _, l := range n.Lanes {
					if l.Base != sim.States[l.Proc] {
						t.Fatal("known wrongly", impl.AppWrite(apps), n)
					}
				}
				outs = append(outs, n.Outs...)
			}
			if sim := impl.SimRun(apps, nodes[0].G); !slices.Equal(outsByHand(outs), sim.Outs) {
				t.Fatal("let out wrongly", impl.AppWrite(apps), outs)
			}
			let += len(outs)
		}
	}
	if let < 1000 {
		t.Error("too little was let out", let)
	}
}
