package tests

import (
	"math"
	"slices"
	"testing"

	"loop.example/slackwater/impl"
)

// plainNode has something of all that a node may have, so that one thing alone can be made wrong.
func plainNode(id int) impl.Node {
	n := impl.NodeStart(id)
	proc := procsByHand(id)[0]
	from := othersByHand(id)[0]
	n.G, n.Round, n.Low, n.Led = 2, 3, 9, 4
	n.Kept = []impl.Event{{Time: 3, To: proc, From: proc}, {Time: 40, To: from, From: proc}}
	n.Outs = []impl.Out{{Time: 0, Proc: proc}, {Time: 1, Proc: proc, Value: 4}}
	n.Views[from] = impl.View{Inc: 2, Version: 2, Events: []impl.Event{{Time: 1, To: proc, From: from}, {Time: 4, To: proc, From: from}, {Time: 5, To: proc, From: from}}}
	n.Lanes[0].Done = []impl.Past{{Event: n.Kept[0]}, {Event: n.Views[from].Events[1]}}
	return n
}

// wrongings make one thing of a node wrong each.
func wrongings() []func(n *impl.Node) {
	var list []func(n *impl.Node)
	for _, wrong := range []int{-1, math.MinInt, math.MaxInt} {
		list = append(list,
			func(n *impl.Node) { n.Id = wrong }, func(n *impl.Node) { n.Inc = wrong }, func(n *impl.Node) { n.G = wrong }, func(n *impl.Node) { n.Led = wrong },
			func(n *impl.Node) { n.Version = wrong }, func(n *impl.Node) { n.Round = wrong }, func(n *impl.Node) { n.Low = wrong },
		)
	}
	list = append(list,
		func(n *impl.Node) { n.Id = 3 }, func(n *impl.Node) { n.Id = (n.Id + 1) % 3 }, func(n *impl.Node) { n.Inc = 0 }, func(n *impl.Node) { n.Inc = 10000 },
		func(n *impl.Node) { n.G = 42 }, func(n *impl.Node) { n.Led = 10000 }, func(n *impl.Node) { n.Version = 10000 }, func(n *impl.Node) { n.Round = 10000 }, func(n *impl.Node) { n.Low = 42 },
	)
	// With nothing else that could be wrong by them.
	for _, id := range []int{-1, 3} {
		list = append(list, func(n *impl.Node) { n.Id, n.Lanes = id, nil })
	}
	for _, g := range []int{-1, 42} {
		list = append(list, func(n *impl.Node) { n.G, n.Lanes[0].Done, n.Outs = g, nil, nil })
	}
	return slices.Concat(list, wrongKeeps(), wrongNodeLanes(), wrongNodeViews())
}

func wrongKeeps() []func(n *impl.Node) {
	far := impl.Event{Time: 40, To: 1, From: 1, Kind: 3}
	list := []func(n *impl.Node){
		func(n *impl.Node) { n.Kept = append(n.Kept, manyEvents(99, 40)...) },
		func(n *impl.Node) { n.Kept = []impl.Event{n.Kept[1], n.Kept[0]} },
		func(n *impl.Node) { n.Kept = append(n.Kept, n.Kept[1]) },
		func(n *impl.Node) { n.Outs = append(n.Outs, outsAt(95, 1)...) },
		func(n *impl.Node) { n.Outs = []impl.Out{n.Outs[1], n.Outs[0]} },
		func(n *impl.Node) { n.Outs = append(n.Outs, n.Outs[1]) },
		func(n *impl.Node) { n.Outs = append(n.Outs, impl.Out{Time: 2}) },
		func(n *impl.Node) { n.Outs = []impl.Out{{Time: 40}} },
	}
	for _, e := range wrongEvents() {
		list = append(list, func(n *impl.Node) { n.Kept = inOrder(append(n.Kept, e)) }, func(n *impl.Node) { n.Kept = inOrder(append(n.Kept, far, e)) })
	}
	for _, o := range wrongOuts() {
		list = append(list, func(n *impl.Node) { n.Outs = outsByHand(append(n.Outs, o)) })
	}
	return list
}

func wrongNodeLanes() []func(n *impl.Node) {
	list := []func(n *impl.Node){
		func(n *impl.Node) { n.Lanes = nil },
		func(n *impl.Node) { n.Lanes = n.Lanes[:len(n.Lanes)-1] },
		func(n *impl.Node) { n.Lanes = append(n.Lanes, impl.Lane{Proc: 3}) },
		func(n *impl.Node) { n.Lanes = append(n.Lanes, n.Lanes[0]) },
		func(n *impl.Node) { n.Lanes[len(n.Lanes)-1].Proc = (n.Id + 1) % 3 },
		func(n *impl.Node) { n.Lanes[len(n.Lanes)-1].Proc = 4 },
		func(n *impl.Node) { n.Lanes[0].Done[1].Event.To = (n.Id + 1) % 3 },
		func(n *impl.Node) { n.Lanes[0].Done = n.Lanes[0].Done[1:] },
		func(n *impl.Node) { n.Lanes[0].Done = []impl.Past{n.Lanes[0].Done[1], n.Lanes[0].Done[0]} },
		func(n *impl.Node) { n.Lanes[0].Done[1].Event.Arg = 1 },
		func(n *impl.Node) { n.Lanes[0].Done[1].Event.Time = 6 },
		func(n *impl.Node) { n.Lanes[0].Done = append(n.Lanes[0].Done, n.Lanes[0].Done[1]) },
		func(n *impl.Node) { n.Lanes[0].Done[1].Sends = manyEvents(3, 30) },
		func(n *impl.Node) { n.Lanes[0].Done[1].Outs = manyOuts(3) },
		// What it is done by has come no more, or something else has come ahead of it.
		func(n *impl.Node) { n.Kept = n.Kept[1:] },
		func(n *impl.Node) { n.G = 4 },
		func(n *impl.Node) { n.Views[othersByHand(n.Id)[0]].Events = nil },
		func(n *impl.Node) { n.Lanes[0].Done[1].Sends = []impl.Event{{Time: 3, To: n.Lanes[0].Proc, From: -1}} },
		func(n *impl.Node) { n.Lanes[0].Done[0].Sends = []impl.Event{{Time: 2, To: n.Lanes[0].Proc}} },
		func(n *impl.Node) {
			last := &n.Views[othersByHand(n.Id)[1]]
			last.Events = []impl.Event{{Time: 3, To: n.Lanes[0].Proc, From: -1}}
		},
	}
	for _, s := range wrongStates() {
		list = append(list, func(n *impl.Node) { n.Lanes[len(n.Lanes)-1].Base = s }, func(n *impl.Node) { n.Lanes[0].Done[1].After = s })
	}
	return list
}

func wrongNodeViews() []func(n *impl.Node) {
	list := []func(n *impl.Node){
		func(n *impl.Node) { n.Views = n.Views[:2] }, func(n *impl.Node) { n.Views = append(n.Views, impl.View{}) }, func(n *impl.Node) { n.Views = nil },
		func(n *impl.Node) { n.Known = n.Known[:2] }, func(n *impl.Node) { n.Known = append(n.Known, 0) }, func(n *impl.Node) { n.Known = nil },
		// 101 have come to a process, though no list alone is too long.
		func(n *impl.Node) {
			for id, from := range othersByHand(n.Id) {
				n.Views[from].Events = eventsTo(49+id, n.Lanes[0].Proc, 30+id)
			}
			n.Lanes[0].Done = n.Lanes[0].Done[:1]
			n.Lanes[0].Done[0].Sends = []impl.Event{{Time: 9, To: n.Lanes[0].Proc}}
		},
	}
	for id := range 3 {
		for _, wrong := range []int{-1, 10000, math.MinInt, math.MaxInt} {
			list = append(list, func(n *impl.Node) { n.Views[id].Inc = wrong }, func(n *impl.Node) { n.Views[id].Version = wrong }, func(n *impl.Node) { n.Known[id] = wrong })
		}
		list = append(list,
			func(n *impl.Node) { n.Known[id] = 42 },
			func(n *impl.Node) { n.Views[id].Events = append(n.Views[id].Events, eventsTo(101, (n.Id+1)%3, 40)...) },
			func(n *impl.Node) {
				n.Views[id].Events = append(n.Views[id].Events, impl.Event{Time: 9}, impl.Event{Time: 8})
			},
			func(n *impl.Node) {
				n.Views[id].Events = append(n.Views[id].Events, impl.Event{Time: 9}, impl.Event{Time: 9})
			},
		)
		for _, e := range wrongEvents() {
			list = append(list, func(n *impl.Node) { n.Views[id].Events = inOrder(append(n.Views[id].Events, e)) })
		}
	}
	return list
}

// Promises 26 to 38: of a node that is not ok nothing is told, and nothing comes of it.
func TestNothingIsToldOfWrongNodes(t *testing.T) {
	apps := mustRead(t, fullText)
	for id := range 3 {
		for i, do := range wrongings() {
			for _, up := range []bool{true, false} {
				n := cloneNode(plainNode(id))
				n.Up = up
				if !impl.NodeOk(n) {
					t.Fatal("not ok", n)
				}
				do(&n)
				checkNothing(t, apps, n, id, i)
			}
		}
	}
	checkNothing(t, apps, impl.Node{}, 0, -1)
	checkNothing(t, apps, impl.Node{Inc: 1, Views: make([]impl.View, 3), Known: make([]int, 3)}, 0, -2)
}

func checkNothing(t *testing.T, apps []impl.App, n impl.Node, id int, i int) {
	t.Helper()
	if impl.NodeOk(n) || okByHand(n) {
		t.Errorf("node %d, thing %d: it is ok: %v", id, i, n)
	}
	for proc := -1; proc <= 4; proc++ {
		got, ok := impl.NodeStep(apps, n, proc)
		if ok || !isNoNode(got) || len(impl.NodeCame(n, proc))+len(impl.NodeTells(n, proc)) != 0 {
			t.Errorf("node %d, thing %d: of the process %d: %v", id, i, proc, got)
		}
	}
	if got, ok := impl.NodeStep(nil, n, id); ok || !isNoNode(got) || impl.NodeMin(n) != 0 {
		t.Errorf("node %d, thing %d: %v, first %d", id, i, got, impl.NodeMin(n))
	}
	for from := -1; from <= 3; from++ {
		if got := impl.NodeView(n, from, 5, 5, 5, nil); !isNoNode(got) {
			t.Errorf("node %d, thing %d: it hears: %v", id, i, got)
		}
	}
	for _, g := range []int{-1, 3, 4, 41, 42} {
		if got, ok := impl.NodeSettle(n, 3, g); ok || !isNoNode(got) {
			t.Errorf("node %d, thing %d: it settles: %v", id, i, got)
		}
	}
	if f, r := impl.NodeFall(n), impl.NodeRise(n); !isNoNode(f) || !isNoNode(r) {
		t.Errorf("node %d, thing %d: it falls or rises: %v %v", id, i, f, r)
	}
}

// Promises 26 to 38: each limit of a node may be met exactly, also those of which a node never makes use.
func TestLimitsOfNodesMayBeMet(t *testing.T) {
	fill := func(id int, do func(n *impl.Node)) impl.Node {
		n := cloneNode(plainNode(id))
		do(&n)
		return n
	}
	for i, n := range []impl.Node{
		fill(0, func(n *impl.Node) { n.Inc, n.Led, n.Version, n.Round, n.Low = 9999, 9999, 9999, 9999, 41 }),
		fill(1, func(n *impl.Node) { n.Inc, n.Led, n.Version, n.Round, n.Low = 1, 0, 0, 0, 0 }),
		fill(2, func(n *impl.Node) { n.Known = []int{41, 41, 41} }),
		fill(0, func(n *impl.Node) { n.Known = []int{0, 0, 0} }),
		fill(1, func(n *impl.Node) { n.Views[1] = impl.View{Inc: 9999, Version: 9999, Events: eventsTo(100, 1, 3)} }),
		fill(1, func(n *impl.Node) { n.Views[2] = impl.View{Inc: 9999, Version: 9999, Events: eventsTo(100, 0, 3)} }),
		fill(1, func(n *impl.Node) { n.Views[2] = impl.View{Events: eventsTo(97, 1, 30)} }),
		fill(2, func(n *impl.Node) { n.Kept = append(n.Kept, manyEvents(98, 40)...); n.Kept[1].Time = 30 }),
		fill(0, func(n *impl.Node) {
			n.G, n.Outs, n.Lanes[0].Done = 41, outsAt(96, 40), nil
			n.Outs[0].Time = 0
		}),
		fill(1, func(n *impl.Node) { n.G, n.Outs, n.Lanes[0].Done = 0, nil, nil }),
		fill(0, func(n *impl.Node) { n.Lanes[1].Base = impl.State{X: 999, Y: 999, Count: 12} }),
		fill(0, func(n *impl.Node) {
			n.Lanes[0].Done[1].Sends = []impl.Event{{Time: 1, To: 0}, {Time: 4, To: 0, From: 1, Arg: 1}}
		}),
		fill(2, func(n *impl.Node) { n.Kept, n.Outs = []impl.Event{n.Kept[0]}, []impl.Out{} }),
	} {
		if !impl.NodeOk(n) || !okByHand(n) {
			t.Error(i, n)
		}
	}
}

// 100 may have come, from wherever they come, and all of them be done.
func TestAHundredMayHaveCome(t *testing.T) {
	n := impl.NodeStart(2)
	n.Views[0].Events, n.Views[1].Events = eventsTo(50, 2, 30), eventsTo(49, 2, 31)
	if !impl.NodeOk(n) || len(impl.NodeCame(n, 2)) != 100 {
		t.Fatal(len(impl.NodeCame(n, 2)))
	}
	apps := withRules()
	for i := range 100 {
		next, ok := impl.NodeStep(apps, n, 2)
		if !ok || len(next.Lanes[0].Done) != i+1 {
			t.Fatal(i, ok)
		}
		n = next
	}
	if got, ok := impl.NodeStep(apps, n, 2); ok || !sameNode(got, n) || impl.NodeMin(n) != 41 {
		t.Error("one more is done", ok)
	}
	n = answered(n, 1)
	if got, ok := impl.NodeSettle(n, 1, 41); !ok || doneOf(got) != 0 || got.Lanes[0].Base.Count != 12 {
		t.Error("not all are settled", ok)
	}
	n.Views[1].Events = eventsTo(50, 2, 31)
	if impl.NodeOk(n) {
		t.Error("one more has come")
	}
}

// Promise 27: what is wrong with a telling makes a node stay, whatever else is told by it.
func TestWrongTellingsAreRefused(t *testing.T) {
	n := impl.NodeStart(0)
	n.Kept = append(n.Kept, impl.Event{Time: 5, To: 1, From: 0})
	good := told{from: 1, inc: 1, version: 1, g: 6, events: []impl.Event{{Time: 3, To: 0, From: 1}, {Time: 3, To: 3, From: -1}}}
	if got := hear(n, good); !sameNode(got, viewByHand(n, good)) || got.Views[1].Inc != 1 || got.Known[1] != 6 || got.Version != 2 {
		t.Fatal(got)
	}
	wrong := func(do func(w *told)) told {
		w := good
		w.events = slices.Clone(w.events)
		do(&w)
		return w
	}
	list := []told{
		wrong(func(w *told) { w.from = 0 }), wrong(func(w *told) { w.from = 2 }), wrong(func(w *told) { w.from = 3 }), wrong(func(w *told) { w.from = -1 }),
		wrong(func(w *told) { w.inc = 0 }), wrong(func(w *told) { w.inc = -1 }), wrong(func(w *told) { w.inc = 10000 }),
		wrong(func(w *told) { w.version = -1 }), wrong(func(w *told) { w.version = 10000 }),
		wrong(func(w *told) { w.g = -1 }), wrong(func(w *told) { w.g = 42 }),
		wrong(func(w *told) { slices.Reverse(w.events) }), wrong(func(w *told) { w.events[1] = w.events[0] }),
		wrong(func(w *told) { w.events = crowd(101, 1) }),
		wrong(func(w *told) { w.events[0].To = 1 }), wrong(func(w *told) { w.events[0].To = 2 }), wrong(func(w *told) { w.events[1].Time, w.events[1].To = 4, 2 }),
		wrong(func(w *told) { w.events[0].From = 0 }), wrong(func(w *told) { w.events[0].From = 2 }), wrong(func(w *told) { w.events[1].From = 3 }), wrong(func(w *told) { w.events[1].From = 2 }),
	}
	for _, far := range []int{math.MinInt, math.MaxInt} {
		list = append(list, wrong(func(w *told) { w.from = far }), wrong(func(w *told) { w.inc = far }), wrong(func(w *told) { w.version = far }), wrong(func(w *told) { w.g = far }))
	}
	for _, e := range wrongEvents() {
		if e.From == 0 {
			e.From = 1
		}
		list = append(list, wrong(func(w *told) { w.events = []impl.Event{e} }), wrong(func(w *told) { w.events = inOrder(append(w.events, e)) }))
	}
	list = append(list, wrong(func(w *told) { w.from, w.events = 0, nil }), wrong(func(w *told) { w.from, w.events[0].From = 0, 3 }))
	// To the second one they would be elder, and tell how far another node has settled alone.
	later := cloneNode(n)
	for id := range 3 {
		later.Views[id] = impl.View{Inc: 9, Version: 9}
	}
	if got := hear(later, good); got.Known[1] != 6 || got.Version != 2 {
		t.Fatal(got)
	}
	for i, w := range list {
		for _, n := range []impl.Node{n, later} {
			if got := hear(n, w); !sameNode(got, n) {
				t.Errorf("telling %d %v is heard: %v", i, w, got)
			}
		}
	}
}

// Promise 27: each limit of a telling may be met exactly.
func TestLimitsOfTellingsMayBeMet(t *testing.T) {
	n := impl.NodeStart(0)
	for i, w := range []told{
		{from: 1, inc: 9999, version: 9999, g: 41},
		{from: 2, inc: 1, version: 0, g: 0, events: []impl.Event{{Time: 40, To: 3, From: 2, Count: 12, N: 3, Kind: 3, Arg: 999}}},
		{from: 1, inc: 1, version: 1, events: crowd(99, 1)},
		{from: 2, inc: 1, version: 1, events: append(crowd(99, 2), impl.Event{Time: 30, To: 3, From: -1})},
	} {
		got := hear(n, w)
		if !sameNode(got, viewByHand(n, w)) || !sameView(got.Views[w.from], impl.View{Inc: w.inc, Version: w.version, Events: w.events}) || got.Known[w.from] != w.g {
			t.Error(i, got)
		}
	}
	w := told{from: 1, inc: 1, version: 1, g: 1, events: crowd(1, 1)}
	for _, c := range []struct {
		up      bool
		version int
		heard   bool
	}{{true, 9998, true}, {true, 0, true}, {true, 9999, false}, {false, 1, false}} {
		x := cloneNode(n)
		x.Up, x.Version = c.up, c.version
		if got := hear(x, w); (got.Views[1].Inc == 1) != c.heard || !c.heard && !sameNode(got, x) {
			t.Error(c, got)
		}
	}
}

// Promise 26: a number is given only if what is told is another, and but one for all others together.
func TestNumbersOfWhatIsTold(t *testing.T) {
	apps := mustRead(t, "proc\nproc\nrule 0\nsend 1 1 9 x\nrule 1\nmore x 1\nsend 0 0 3 x\nsend 2 0 3 x\nrule 2\nmore x 1\nproc\nproc\n")
	n := stepAll(apps, impl.NodeStart(1), 1)
	if n.Version != 1 || len(n.Lanes[0].Done[0].Sends) != 1 {
		t.Error("it tells no other one what it sends itself", n)
	}
	n = stepAll(apps, n, 1)
	if n.Version != 2 || len(impl.NodeTells(n, 0)) != 1 || len(impl.NodeTells(n, 2)) != 1 {
		t.Error("two are told by one number", n)
	}
	for _, c := range []struct{ time, from, version, left int }{{10, 0, 2, 2}, {9, 2, 2, 2}, {9, 0, 3, 1}, {8, 0, 3, 1}, {8, 2, 3, 1}, {0, 0, 3, 1}} {
		// What the process 1 sent itself is at the time 9: ahead of it is only what is earlier, or from the process 0.
		x := impl.NodeView(n, c.from, 1, 1, 0, []impl.Event{{Time: c.time, To: 1, From: c.from, Kind: 2}})
		if x.Version != c.version || len(x.Lanes[0].Done) != c.left {
			t.Error(c, x)
		}
	}
	// What is taken back and done again alike is told by later numbers, not by the elder one.
	e := impl.Event{Time: 8, To: 1, From: 0, Kind: 3}
	x := impl.NodeView(impl.NodeView(n, 0, 1, 1, 0, []impl.Event{e}), 0, 1, 2, 0, nil)
	again := doAllOf(apps, x)
	if x.Version != 3 || again.Version != 4 || !slices.Equal(impl.NodeTells(again, 2), impl.NodeTells(n, 2)) {
		t.Error(x, again)
	}
}

// part is a list of a node: it can be written into, also behind its end, and asked whether it is as it was.
type part struct {
	spoil  func()
	isAsIt func() bool
}

func partOf[T any](list []T, bad T, same func(a T, b T) bool) part {
	whole := list[:cap(list)]
	before := slices.Clone(whole)
	return part{
		spoil: func() {
			for i := range whole {
				whole[i] = bad
			}
		},
		isAsIt: func() bool { return slices.EqualFunc(whole, before, same) },
	}
}

func eventsPart(list []impl.Event) part {
	return partOf(list, impl.Event{Time: -9}, func(a impl.Event, b impl.Event) bool { return a == b })
}

func outsPart(list []impl.Out) part {
	return partOf(list, impl.Out{Time: -9}, func(a impl.Out, b impl.Out) bool { return a == b })
}

// nodeParts are all lists of a node; those within others are told by themselves.
func nodeParts(n impl.Node) []part {
	parts := []part{
		eventsPart(n.Kept), outsPart(n.Outs),
		partOf(n.Known, -9, func(a int, b int) bool { return a == b }),
		partOf(n.Lanes, impl.Lane{Proc: -9}, func(a impl.Lane, b impl.Lane) bool { return a.Proc == b.Proc && a.Base == b.Base }),
		partOf(n.Views, impl.View{Inc: -9}, func(a impl.View, b impl.View) bool { return a.Inc == b.Inc && a.Version == b.Version }),
	}
	for _, v := range n.Views {
		parts = append(parts, eventsPart(v.Events))
	}
	for _, l := range n.Lanes {
		parts = append(parts, partOf(l.Done, impl.Past{Event: impl.Event{Time: -9}}, func(a impl.Past, b impl.Past) bool { return a.Event == b.Event && a.After == b.After }))
		for _, p := range l.Done {
			parts = append(parts, eventsPart(p.Sends), outsPart(p.Outs))
		}
	}
	return parts
}

func roomyNode(n impl.Node) impl.Node {
	n.Lanes, n.Views, n.Kept, n.Outs, n.Known = roomy(n.Lanes), roomy(n.Views), roomy(n.Kept), roomy(n.Outs), roomy(n.Known)
	for i := range n.Lanes {
		n.Lanes[i] = roomyLane(n.Lanes[i])
	}
	for i := range n.Views {
		n.Views[i].Events = roomy(n.Views[i].Events)
	}
	return n
}

func areAsTheyWere(parts []part) bool {
	return !slices.ContainsFunc(parts, func(p part) bool { return !p.isAsIt() })
}

// checkNew writes into all lists of an answer, one behind the other: no other list changes by it.
func checkNew(t *testing.T, given []part, answer []part, i int) {
	t.Helper()
	if !areAsTheyWere(given) {
		t.Fatalf("call %d changes what it is given", i)
	}
	for k, p := range answer {
		p.spoil()
		if !areAsTheyWere(given) || !areAsTheyWere(answer[k+1:]) {
			t.Fatalf("call %d: its list %d is shared", i, k)
		}
	}
}

// Nothing is written into a node or what it is told, or behind their ends, and what is answered shares nothing with them.
func TestNodesAreNewMemory(t *testing.T) {
	d := dice(241)
	for i, s := range spots() {
		if i%10 != 0 {
			continue
		}
		n := roomyNode(s.n)
		down := roomyNode(s.n)
		down.Up = false
		ready := roomyNode(answered(s.n, 1))
		ready.Up = true
		w := d.toldTo(n)
		w.events = roomy(w.events)
		given := slices.Concat(nodeParts(n), nodeParts(down), nodeParts(ready), []part{eventsPart(w.events)})
		for k, do := range []func() []part{
			func() []part { r, _ := impl.NodeStep(s.apps, n, d.procOf(n.Id)); return nodeParts(r) },
			func() []part { r, _ := impl.NodeStep(nil, n, n.Id); return nodeParts(r) },
			func() []part { r, _ := impl.NodeStep(s.apps, down, n.Id); return nodeParts(r) },
			func() []part { return nodeParts(hear(n, w)) },
			func() []part { return nodeParts(hear(down, w)) },
			func() []part { return nodeParts(impl.NodeView(ready, w.from, 9999, 9999, 41, w.events)) },
			func() []part { r, _ := impl.NodeSettle(ready, 1, minByHand(ready)); return nodeParts(r) },
			func() []part { r, _ := impl.NodeSettle(ready, 1, ready.G+1); return nodeParts(r) },
			func() []part { r, _ := impl.NodeSettle(ready, 2, 41); return nodeParts(r) },
			func() []part { return nodeParts(impl.NodeFall(n)) },
			func() []part { return nodeParts(impl.NodeRise(down)) },
			func() []part { return nodeParts(impl.NodeRise(ready)) },
			func() []part { return []part{eventsPart(impl.NodeCame(n, d.procOf(n.Id)))} },
			func() []part { return []part{eventsPart(impl.NodeTells(n, (n.Id+1)%3))} },
			func() []part { impl.NodeOk(n); impl.NodeMin(n); return nodeParts(impl.NodeStart(n.Id)) },
		} {
			checkNew(t, given, do(), k)
		}
	}
	for id := range 3 {
		if n := impl.NodeStart(id); !impl.NodeOk(n) || n.Kept[0] != impl.AppFirst(id) {
			t.Error("what is answered is kept", n)
		}
	}
}

// anyInt is mostly one of the few that may be right.
func (d *dice) anyInt(most int) int {
	if d.upTo(30) == 0 {
		return d.closeNum()
	}
	return d.upTo(most)
}

// looseNode is put together without asking whether it fits; few are ok.
func (d *dice) looseNode() impl.Node {
	n := impl.Node{Id: d.anyInt(2), Up: d.upTo(2) > 0, Inc: d.anyInt(3), G: d.anyInt(2), Led: d.anyInt(9), Version: d.anyInt(9), Round: d.anyInt(2), Low: d.anyInt(41)}
	procs := []int{1}
	if n.Id != 1 {
		procs = append([]int{n.Id}, []int{3, 3, 2, 0}[:d.upTo(1)]...)
	}
	for _, proc := range procs {
		l := impl.Lane{Proc: proc, Base: d.base()}
		if d.upTo(2) == 0 {
			l.Done = append(l.Done, impl.Past{Event: impl.Event{Time: d.anyInt(3), To: proc}, Sends: []impl.Event{{Time: d.anyInt(9), To: d.anyInt(3)}}})
		}
		n.Lanes = append(n.Lanes, l)
	}
	for range 3 + count(d.upTo(30) == 0) {
		v := impl.View{Inc: d.anyInt(2), Version: d.anyInt(2)}
		for time := range d.upTo(3) {
			v.Events = append(v.Events, impl.Event{Time: time, To: d.anyInt(2)})
		}
		n.Views, n.Known = append(n.Views, v), append(n.Known, d.anyInt(9))
	}
	n.Kept = []impl.Event{{Time: d.anyInt(5), To: d.anyInt(3), From: -1}}
	return n
}

// Promises 26 to 38: every function answers, whatever it is given; what is not ok is nothing, and what is ok stays so.
func TestNodesAnswerWhateverTheyAreGiven(t *testing.T) {
	d := dice(242)
	apps := d.busyApps()
	oks := 0
	for range 20000 {
		n := d.looseNode()
		ok := okByHand(n)
		if impl.NodeOk(n) != ok {
			t.Fatal(n, ok)
		}
		oks += count(ok)
		a, b, c := d.anyInt(3), d.anyInt(3), d.anyInt(41)
		step, _ := impl.NodeStep(apps, n, a)
		settled, _ := impl.NodeSettle(n, b, c)
		view := impl.NodeView(n, a, b, d.anyInt(3), c, []impl.Event{{Time: d.anyInt(40), To: d.anyInt(2), From: a}})
		impl.NodeCame(n, a)
		impl.NodeTells(n, b)
		impl.NodeMin(n)
		impl.NodeOf(c)
		impl.NodeStart(a)
		for _, got := range []impl.Node{step, settled, view, impl.NodeFall(n), impl.NodeRise(n)} {
			if impl.NodeOk(got) != ok || !ok && !isNoNode(got) {
				t.Fatal(n, got)
			}
		}
	}
	if oks < 1000 || oks > 19000 {
		t.Error("too few, or too many, were ok", oks)
	}
}
