package tests

import (
	"slices"
	"sync"

	"loop.example/slackwater/impl"
)

// What the document says of nodes, by hand: on lists alone, each thing worked out anew from all that there is.

const mostNumber = 9999

func procsByHand(id int) []int {
	return [][]int{{0, 3}, {1}, {2}}[id]
}

func othersByHand(id int) []int {
	return [][]int{{1, 2}, {0, 2}, {0, 1}}[id]
}

func nodeOfByHand(proc int) int {
	return []int{0, 1, 2, 0}[proc]
}

func sameView(a impl.View, b impl.View) bool {
	return a.Inc == b.Inc && a.Version == b.Version && slices.Equal(a.Events, b.Events)
}

func sameNode(a impl.Node, b impl.Node) bool {
	return a.Id == b.Id && a.Up == b.Up && a.Inc == b.Inc && a.G == b.G && a.Led == b.Led &&
		a.Version == b.Version && a.Round == b.Round && a.Low == b.Low &&
		slices.EqualFunc(a.Lanes, b.Lanes, sameLane) && slices.Equal(a.Kept, b.Kept) && slices.Equal(a.Outs, b.Outs) &&
		slices.EqualFunc(a.Views, b.Views, sameView) && slices.Equal(a.Known, b.Known)
}

func isNoNode(n impl.Node) bool {
	return sameNode(n, impl.Node{})
}

func cloneNode(n impl.Node) impl.Node {
	n.Lanes, n.Views = slices.Clone(n.Lanes), slices.Clone(n.Views)
	for i := range n.Lanes {
		n.Lanes[i] = copyLane(n.Lanes[i])
	}
	for i := range n.Views {
		n.Views[i].Events = slices.Clone(n.Views[i].Events)
	}
	n.Kept, n.Outs, n.Known = slices.Clone(n.Kept), slices.Clone(n.Outs), slices.Clone(n.Known)
	return n
}

func those(list []impl.Event, holds func(e impl.Event) bool) []impl.Event {
	return inOrder(slices.DeleteFunc(slices.Clone(list), func(e impl.Event) bool { return !holds(e) }))
}

func sentByHand(n impl.Node) []impl.Event {
	list := slices.Clone(n.Kept)
	for _, l := range n.Lanes {
		for _, p := range l.Done {
			list = append(list, p.Sends...)
		}
	}
	return list
}

func cameByHand(n impl.Node, proc int) []impl.Event {
	list := sentByHand(n)
	for id, v := range n.Views {
		if id != n.Id {
			list = append(list, v.Events...)
		}
	}
	return those(list, func(e impl.Event) bool { return e.To == proc && e.Time >= n.G })
}

func tellsByHand(n impl.Node, to int) []impl.Event {
	return those(sentByHand(n), func(e impl.Event) bool { return nodeOfByHand(e.To) == to && e.Time >= n.Known[to] })
}

func minByHand(n impl.Node) int {
	least := 41
	for _, l := range n.Lanes {
		if came := cameByHand(n, l.Proc); len(came) > len(l.Done) {
			least = min(least, came[len(l.Done)].Time)
		}
	}
	return least
}

func hasNumbers(n impl.Node) bool {
	for _, x := range []int{n.Led, n.Version, n.Round} {
		if x < 0 || x > mostNumber {
			return false
		}
	}
	for _, x := range append([]int{n.G, n.Low}, n.Known...) {
		if x < 0 || x > 41 {
			return false
		}
	}
	return n.Id >= 0 && n.Id <= 2 && n.Inc >= 1 && n.Inc <= mostNumber && len(n.Known) == 3 && len(n.Views) == 3
}

func eventsOk(list []impl.Event) bool {
	return impl.SimOk(impl.Sim{States: make([]impl.State, 4), Queue: list})
}

func outsOk(list []impl.Out) bool {
	return impl.SimOk(impl.Sim{States: make([]impl.State, 4), Outs: list})
}

func okByHand(n impl.Node) bool {
	if !hasNumbers(n) || !eventsOk(n.Kept) || !outsOk(n.Outs) || len(n.Lanes) != len(procsByHand(n.Id)) {
		return false
	}
	for _, o := range n.Outs {
		if o.Time >= n.G {
			return false
		}
	}
	for _, v := range n.Views {
		if v.Inc < 0 || v.Inc > mostNumber || v.Version < 0 || v.Version > mostNumber || !eventsOk(v.Events) {
			return false
		}
	}
	for i, l := range n.Lanes {
		if l.Proc != procsByHand(n.Id)[i] || !impl.LaneOk(l) {
			return false
		}
		if came := cameByHand(n, l.Proc); len(came) > 100 || agreeByHand(l, came) < len(l.Done) {
			return false
		}
	}
	return true
}

// againByHand goes from the last lane to the first, and round again: the order makes no difference.
func againByHand(n impl.Node) impl.Node {
	n = cloneNode(n)
	for did := true; did; {
		did = false
		for i := len(n.Lanes) - 1; i >= 0; i-- {
			if agree := agreeByHand(n.Lanes[i], cameByHand(n, n.Lanes[i].Proc)); agree < len(n.Lanes[i].Done) {
				n.Lanes[i].Done = n.Lanes[i].Done[:agree]
				did = true
			}
		}
	}
	return n
}

func numbered(before impl.Node, n impl.Node) impl.Node {
	for _, to := range othersByHand(n.Id) {
		if !slices.Equal(tellsByHand(before, to), tellsByHand(n, to)) {
			n.Version = before.Version + 1
		}
	}
	return n
}

// stepNodeByHand takes programs that are ok.
func stepNodeByHand(apps []impl.App, n impl.Node, proc int) (impl.Node, bool) {
	at := slices.Index(procsByHand(n.Id), proc)
	if at < 0 || !n.Up || n.Version == mostNumber {
		return n, false
	}
	came := cameByHand(n, proc)
	x := cloneNode(n)
	l := &x.Lanes[at]
	if len(came) == len(l.Done) {
		return n, false
	}
	l.Done = append(l.Done, pastByHand(apps[proc], nowByHand(*l), came[len(l.Done)]))
	if x = numbered(n, againByHand(x)); !okByHand(x) {
		return n, false
	}
	return x, true
}

// told is what a node hears.
type told struct {
	from, inc, version, g int
	events                []impl.Event
}

func hear(n impl.Node, w told) impl.Node {
	return impl.NodeView(n, w.from, w.inc, w.version, w.g, w.events)
}

func isRefused(n impl.Node, w told) bool {
	if !n.Up || n.Version == mostNumber || w.from < 0 || w.from > 2 || w.from == n.Id || !eventsOk(w.events) {
		return true
	}
	if w.inc < 1 || w.inc > mostNumber || w.version < 0 || w.version > mostNumber || w.g < 0 || w.g > 41 {
		return true
	}
	return slices.ContainsFunc(w.events, func(e impl.Event) bool {
		return nodeOfByHand(e.To) != n.Id || e.From >= 0 && nodeOfByHand(e.From) != w.from
	})
}

func isElder(n impl.Node, w told) bool {
	v := n.Views[w.from]
	return w.inc < v.Inc || w.inc == v.Inc && w.version <= v.Version
}

// lowByHand goes through all times, from the first on.
func lowByHand(n impl.Node, w told) int {
	for time := n.G; time < n.Low; time++ {
		at := func(e impl.Event) bool { return e.Time == time }
		if !slices.Equal(those(n.Views[w.from].Events, at), those(w.events, at)) {
			return time
		}
	}
	return n.Low
}

func viewByHand(n impl.Node, w told) impl.Node {
	if isRefused(n, w) {
		return n
	}
	x := cloneNode(n)
	x.Known[w.from] = max(n.Known[w.from], w.g)
	if !isElder(n, w) {
		x.Low = lowByHand(n, w)
		x.Views[w.from] = impl.View{Inc: w.inc, Version: w.version, Events: w.events}
	}
	if x = numbered(n, againByHand(x)); !okByHand(x) {
		return n
	}
	return x
}

func settleNodeByHand(n impl.Node, round int, g int) (impl.Node, bool) {
	if !n.Up || round < 1 || round != n.Round || g <= n.G || g > 41 || n.Low < g || minByHand(n) < g || n.Version == mostNumber {
		return n, false
	}
	x := cloneNode(n)
	for i := range x.Lanes {
		l, sends, outs := settleByHand(x.Lanes[i], g)
		x.Lanes[i] = l
		x.Kept, x.Outs = append(x.Kept, sends...), append(x.Outs, outs...)
	}
	x.G, x.Known[n.Id] = g, g
	x.Kept = those(x.Kept, func(e impl.Event) bool { return e.Time >= x.Known[nodeOfByHand(e.To)] })
	x.Outs = outsByHand(x.Outs)
	if !okByHand(x) {
		return n, false
	}
	return x, true
}

// fallenByHand is what a node keeps.
func fallenByHand(n impl.Node) impl.Node {
	x := impl.Node{Id: n.Id, Inc: n.Inc, G: n.G, Kept: n.Kept, Outs: n.Outs, Led: n.Led, Views: make([]impl.View, 3), Known: make([]int, 3), Low: 41}
	for _, l := range n.Lanes {
		x.Lanes = append(x.Lanes, impl.Lane{Proc: l.Proc, Base: l.Base})
	}
	return x
}

func keepsTheSame(a impl.Node, b impl.Node) bool {
	return sameNode(fallenByHand(a), fallenByHand(b))
}

func (d *dice) procOf(id int) int {
	procs := procsByHand(id)
	return procs[d.upTo(len(procs)-1)]
}

func (d *dice) eventBetween(from int, to int) impl.Event {
	e := d.eventFor(d.procOf(to))
	e.From = d.procOf(from)
	return e
}

func (d *dice) eventsBetween(most int, from int, to int) []impl.Event {
	var list []impl.Event
	for range d.upTo(most) {
		list = append(list, d.eventBetween(from, to))
	}
	return inOrder(list)
}

// number is seldom at the end, so that most nodes can still go on.
func (d *dice) number() int {
	if d.upTo(40) == 0 {
		return mostNumber - d.upTo(1)
	}
	return d.upTo(6)
}

// anyPast is of no program: it may send to all, at all times, also to its own node ahead of its own time.
func (d *dice) anyPast(id int, e impl.Event) impl.Past {
	p := impl.Past{Event: e, After: d.base()}
	for range d.upTo(2) {
		s := d.eventBetween(id, d.upTo(2))
		if d.upTo(4) > 0 {
			s.Time = min(40, e.Time+d.between(1, 5))
		}
		p.Sends = inOrder(append(p.Sends, s))
		o := impl.Out{Time: e.Time, Proc: e.To, Count: d.upTo(11), N: d.upTo(1), Value: d.num()}
		if d.upTo(60) == 0 {
			o.Time = d.upTo(40)
		}
		p.Outs = slices.Compact(outsByHand(append(p.Outs, o)))
	}
	return p
}

func (d *dice) anyNode() impl.Node {
	n := impl.Node{Id: d.upTo(2), Up: d.upTo(9) > 0, Inc: 1 + d.number()%mostNumber, Led: d.number(), Version: d.number(), Round: d.number(), Low: 41, Known: make([]int, 3)}
	if d.upTo(2) == 0 {
		n.G = d.upTo(12)
	}
	if d.upTo(2) == 0 {
		n.Low = d.upTo(41)
	}
	for id := range 3 {
		n.Kept = append(n.Kept, d.eventsBetween(3, n.Id, id)...)
		v := impl.View{Inc: d.number(), Version: d.number(), Events: d.eventsBetween(6, id, n.Id)}
		n.Views = append(n.Views, v)
		n.Known[id] = d.upTo(2) * d.upTo(12)
	}
	n.Kept = inOrder(n.Kept)
	for range d.upTo(3) {
		if n.G > 0 {
			n.Outs = append(n.Outs, impl.Out{Time: d.upTo(n.G - 1), Proc: d.procOf(n.Id), Count: d.upTo(11), Value: d.num()})
		}
	}
	n.Outs = slices.Compact(outsByHand(n.Outs))
	for _, proc := range procsByHand(n.Id) {
		n.Lanes = append(n.Lanes, impl.Lane{Proc: proc, Base: d.base()})
	}
	return d.ahead(n)
}

// ahead lets lanes have done some of what has come; what does not agree by then is undone.
func (d *dice) ahead(n impl.Node) impl.Node {
	for i := range n.Lanes {
		came := cameByHand(n, n.Lanes[i].Proc)
		for _, e := range came[:d.upTo(len(came))] {
			n.Lanes[i].Done = append(n.Lanes[i].Done, d.anyPast(n.Id, e))
		}
	}
	return againByHand(n)
}

// toldTo is often near what a node heard last, and seldom what it refuses.
func (d *dice) toldTo(n impl.Node) told {
	w := told{from: othersByHand(n.Id)[d.upTo(1)]}
	v := n.Views[w.from]
	w.inc, w.version = max(1, v.Inc+d.between(-1, 1)), max(0, v.Version+d.between(-1, 2))
	if d.upTo(2) > 0 {
		w.inc = max(1, v.Inc)
	}
	if d.upTo(1) == 0 {
		w.g = d.upTo(14)
	}
	for _, e := range v.Events {
		if d.upTo(4) > 0 && e.From >= 0 && nodeOfByHand(e.From) == w.from && nodeOfByHand(e.To) == n.Id {
			w.events = append(w.events, e)
		}
	}
	w.events = inOrder(append(w.events, d.eventsBetween(3, w.from, n.Id)...))
	return w
}

// spot is a node at some time of some run, with the programs of that.
type spot struct {
	apps []impl.App
	n    impl.Node
}

// run is three nodes that step, tell each other, settle, fall and rise; tellings come late, twice, or not at all.
type run struct {
	apps  []impl.App
	nodes [3]impl.Node
	words []told
	to    []int
}

func (d *dice) newRun(i int) *run {
	r := &run{apps: d.simApps(i)}
	for id := range 3 {
		r.nodes[id] = impl.NodeStart(id)
	}
	return r
}

func (r *run) tell(from int, to int) {
	n := r.nodes[from]
	r.words = append(r.words, told{from: from, inc: n.Inc, version: n.Version, g: n.G, events: tellsByHand(n, to)})
	r.to = append(r.to, to)
}

// settle is by a round that all answered just now; the time is the least of all, as in a round.
func (r *run) settle() {
	g := 41
	for _, n := range r.nodes {
		g = min(g, minByHand(n))
	}
	for id, n := range r.nodes {
		n.Round, n.Low = n.Round+1, 41
		if x, ok := settleNodeByHand(n, n.Round, g); ok {
			r.nodes[id] = x
		}
	}
}

// tellAll lets all hear all, so that a time may be settled behind it.
func (r *run) tellAll() {
	for from := range 3 {
		for _, to := range othersByHand(from) {
			r.tell(from, to)
			r.nodes[to] = viewByHand(r.nodes[to], r.words[len(r.words)-1])
		}
	}
}

func (r *run) happens(d *dice) {
	id := d.upTo(2)
	switch d.upTo(19) {
	case 0, 1, 2, 3:
		r.tell(id, othersByHand(id)[d.upTo(1)])
	case 4, 5, 6, 7, 8:
		if len(r.words) > 0 {
			at := d.between(max(0, len(r.words)-5), len(r.words)-1)
			r.nodes[r.to[at]] = viewByHand(r.nodes[r.to[at]], r.words[at])
		}
	case 9:
		if d.upTo(2) == 0 {
			r.nodes[id] = fallenByHand(r.nodes[id])
		}
	case 10, 11:
		if !r.nodes[id].Up {
			r.nodes[id].Up, r.nodes[id].Inc, r.nodes[id].Version = true, r.nodes[id].Inc+1, 1
		}
	case 12:
		r.tellAll()
		r.tellAll()
		r.settle()
	default:
		r.nodes[id], _ = stepNodeByHand(r.apps, r.nodes[id], d.procOf(id))
	}
}

// The runs are made by hand and once: they are the same for all tests, and none of them writes into a node.
var spots = sync.OnceValue(func() []spot {
	d := dice(221)
	var list []spot
	for i := range 60 {
		r := d.newRun(i)
		for range 60 {
			r.happens(&d)
			list = append(list, spot{apps: r.apps, n: r.nodes[d.upTo(2)]})
		}
	}
	for range 1500 {
		list = append(list, spot{apps: d.busyApps(), n: d.anyNode()})
	}
	return list
})
