package tests

import (
	"slices"
	"sync"

	"loop.example/slackwater/impl"
)

// What the document says of rounds, by hand.

func sameHub(a impl.Hub, b impl.Hub) bool {
	return a.Round == b.Round && sameWords(a.Ones, b.Ones) && sameWords(a.Twos, b.Twos) && sameWords(a.Outs, b.Outs)
}

func isNoHub(h impl.Hub) bool {
	return sameHub(h, impl.Hub{})
}

func cloneWords(words []impl.Word) []impl.Word {
	words = slices.Clone(words)
	for i := range words {
		words[i] = cloneWord(words[i])
	}
	return words
}

func cloneHub(h impl.Hub) impl.Hub {
	h.Ones, h.Twos, h.Outs = cloneWords(h.Ones), cloneWords(h.Twos), cloneWords(h.Outs)
	return h
}

func answersOkByHand(list []impl.Word, kind int) bool {
	for i, w := range list {
		if w.Kind != kind || !wordOkByHand(w) || i > 0 && list[i-1].From >= w.From {
			return false
		}
		if kind == 3 && (len(w.Incs) != 3 || len(w.Versions) != 3) {
			return false
		}
	}
	return true
}

func hubOkByHand(h impl.Hub) bool {
	return h.Round >= 0 && h.Round <= mostNumber && answersOkByHand(h.Ones, 3) && answersOkByHand(h.Twos, 5) && answersOkByHand(h.Outs, 7)
}

func isFrom(id int) func(w impl.Word) bool {
	return func(w impl.Word) bool { return w.From == id }
}

func answerOf(list []impl.Word, id int) (impl.Word, bool) {
	at := slices.IndexFunc(list, isFrom(id))
	if at < 0 {
		return impl.Word{}, false
	}
	return list[at], true
}

// withAnswer has this word as the only one of its node.
func withAnswer(list []impl.Word, w impl.Word) []impl.Word {
	list = append(slices.DeleteFunc(slices.Clone(list), isFrom(w.From)), w)
	slices.SortFunc(list, func(a impl.Word, b impl.Word) int { return a.From - b.From })
	return list
}

func withFirst(list []impl.Word, w impl.Word) []impl.Word {
	if _, ok := answerOf(list, w.From); ok {
		return list
	}
	return withAnswer(list, w)
}

func toOthers(w impl.Word) []impl.Word {
	words := []impl.Word{w, w}
	words[0].To, words[1].To = 1, 2
	return words
}

func beginByHand(h impl.Hub, n impl.Node) (impl.Hub, impl.Node, []impl.Word) {
	if n.Id != 0 || n.Led == mostNumber {
		return h, n, nil
	}
	x := cloneNode(n)
	x.Led++
	x, one, ok := reportByHand(x, x.Led)
	if !ok {
		return h, n, nil
	}
	return impl.Hub{Round: x.Led, Ones: []impl.Word{one}, Outs: h.Outs}, x, toOthers(impl.Word{Kind: 2, Round: x.Led})
}

func judgeByHand(h impl.Hub) (int, bool) {
	if len(h.Ones) < 3 || len(h.Twos) < 3 {
		return 0, false
	}
	g := 41
	for i, one := range h.Ones {
		g = min(g, one.G)
		for j, two := range h.Twos {
			if i == j && one.Inc != two.Inc || i != j && (one.Incs[j] != two.Inc || one.Versions[j] != two.Version) {
				return 0, false
			}
		}
	}
	return g, true
}

func hubHearByHand(h impl.Hub, n impl.Node, w impl.Word) (impl.Hub, impl.Node, []impl.Word) {
	if n.Id != 0 || !n.Up || !wordOkByHand(w) || w.To != 0 || w.From == 0 {
		return h, n, nil
	}
	switch {
	case w.Kind == 7:
		if old, ok := answerOf(h.Outs, w.From); !ok || w.G > old.G {
			h.Outs = withAnswer(h.Outs, w)
		}
	case w.Kind == 3 && w.Round == h.Round && len(w.Incs)+len(w.Versions) == 6 && len(h.Ones) < 3:
		if h.Ones = withFirst(h.Ones, w); len(h.Ones) == 3 {
			h.Twos = []impl.Word{{Kind: 5, Inc: n.Inc, Round: h.Round, Version: n.Version}}
			return h, n, toOthers(impl.Word{Kind: 4, Round: h.Round})
		}
	case w.Kind == 5 && w.Round == h.Round && len(h.Ones) == 3 && len(h.Twos) < 3:
		h.Twos = withFirst(h.Twos, w)
		if g, ok := judgeByHand(h); ok {
			words := toOthers(impl.Word{Kind: 6, Round: h.Round, G: g})
			words[0].Inc, words[1].Inc = h.Twos[1].Inc, h.Twos[2].Inc
			n, _ = settleNodeByHand(n, h.Round, g)
			return h, n, words
		}
	}
	return h, n, nil
}

func hubOutsByHand(h impl.Hub, n impl.Node) []impl.Out {
	one, ok1 := answerOf(h.Outs, 1)
	two, ok2 := answerOf(h.Outs, 2)
	if n.Id != 0 || !ok1 || !ok2 {
		return nil
	}
	g := min(n.G, one.G, two.G)
	list := outsByHand(slices.Concat(two.Outs, n.Outs, one.Outs))
	return slices.DeleteFunc(list, func(o impl.Out) bool { return o.Time >= g })
}

// seldom is mostly the number itself.
func (d *dice) seldom(n int, most int) int {
	if d.upTo(11) > 0 {
		return n
	}
	return d.near(n, most)
}

func (d *dice) seldoms(list []int) []int {
	list = slices.Clone(list)
	for i := range list {
		list[i] = d.seldom(list[i], mostNumber)
	}
	return list
}

// someOf is a list of which so many are left out.
func (d *dice) someOf(list []impl.Word, gone int) []impl.Word {
	for range min(gone, len(list)) {
		at := d.upTo(len(list) - 1)
		list = slices.Delete(slices.Clone(list), at, at+1)
	}
	return list
}

// anyHub is at any place of a round, of which mostly all fits together.
func (d *dice) anyHub(n impl.Node) impl.Hub {
	h := impl.Hub{Round: d.seldom(n.Round, mostNumber)}
	incs, versions := []int{n.Inc, 1 + d.upTo(4), 1 + d.upTo(4)}, []int{n.Version, d.number(), d.number()}
	for id := range 3 {
		h.Ones = append(h.Ones, impl.Word{Kind: 3, From: id, Inc: incs[id], Round: h.Round, G: d.near(minByHand(n), 41), Incs: d.seldoms(incs), Versions: d.seldoms(versions)})
		h.Twos = append(h.Twos, impl.Word{Kind: 5, From: id, Inc: d.seldom(incs[id], mostNumber), Version: d.seldom(versions[id], mostNumber), Round: h.Round})
		h.Outs = append(h.Outs, impl.Word{Kind: 7, From: id, G: d.upTo(41), Outs: d.outs(6)})
	}
	h.Ones, h.Twos, h.Outs = d.someOf(h.Ones, d.upTo(2)*d.upTo(1)), d.someOf(h.Twos, []int{0, 1, 1, 2, 3}[d.upTo(4)]), d.someOf(h.Outs[1:], d.upTo(3)/2)
	return h
}

// answerTo is mostly an answer that the hub waits for.
func (d *dice) answerTo(h impl.Hub) impl.Word {
	w := d.anyWord()
	w.From, w.To, w.Round = d.between(1, 2), 0, d.seldom(h.Round, mostNumber)
	switch d.upTo(8) {
	case 0, 1, 2:
		w.Kind = 3
		if d.upTo(9) > 0 {
			w.Incs, w.Versions = []int{1, d.upTo(2), d.upTo(2)}, []int{d.upTo(4), 1, 1}
		}
	case 3, 4, 5:
		w.Kind = 5
		if len(h.Ones) > 0 {
			w.Inc, w.Version = d.seldom(h.Ones[0].Incs[w.From], mostNumber), d.seldom(h.Ones[0].Versions[w.From], mostNumber)
		}
	case 6, 7:
		w.Kind = 7
		if old, ok := answerOf(h.Outs, w.From); ok {
			w.G = d.near(old.G, 41)
		}
	}
	switch d.upTo(29) {
	case 0:
		w.To = d.between(1, 2)
	case 1:
		w.From = 0
	case 2:
		w.Version = -1
	}
	return w
}

// doing is how nodes and rounds go on: by hand, or by the program.
type doing struct {
	step    func(apps []impl.App, n impl.Node, proc int) (impl.Node, bool)
	tend    func(n impl.Node) []impl.Word
	hear    func(n impl.Node, w impl.Word) (impl.Node, []impl.Word)
	begin   func(h impl.Hub, n impl.Node) (impl.Hub, impl.Node, []impl.Word)
	hubHear func(h impl.Hub, n impl.Node, w impl.Word) (impl.Hub, impl.Node, []impl.Word)
}

func byHand() doing {
	return doing{step: stepNodeByHand, tend: tendByHand, hear: hearByHand, begin: beginByHand, hubHear: hubHearByHand}
}

func byProgram() doing {
	return doing{step: impl.NodeStep, tend: impl.NodeTend, hear: impl.NodeHear, begin: impl.HubBegin, hubHear: impl.HubHear}
}

// roundRun is three nodes with rounds; words are lost, doubled and late, nodes fall and rise, also in the midst of a round.
type roundRun struct {
	doing
	apps  []impl.App
	nodes [3]impl.Node
	hub   impl.Hub
	radio []impl.Word
	heard func(w impl.Word)
}

func (d *dice) newRoundRun(i int, how doing) *roundRun {
	r := &roundRun{doing: how, apps: d.simApps(i), heard: func(impl.Word) {}}
	for id := range 3 {
		r.nodes[id] = impl.NodeStart(id)
	}
	return r
}

func (r *roundRun) send(words []impl.Word) {
	r.radio = append(r.radio, words...)
}

func (r *roundRun) bring(at int, keep bool) {
	w := r.radio[at]
	if !keep {
		r.radio = slices.Delete(r.radio, at, at+1)
	}
	r.heard(w)
	var words []impl.Word
	if w.To == 0 && (w.Kind == 3 || w.Kind == 5 || w.Kind == 7) {
		r.hub, r.nodes[0], words = r.hubHear(r.hub, r.nodes[0], w)
	} else {
		r.nodes[w.To], words = r.hear(r.nodes[w.To], w)
	}
	r.send(words)
}

func (r *roundRun) bringAll() {
	for len(r.radio) > 0 {
		r.bring(0, false)
	}
}

func (r *roundRun) begins() {
	var words []impl.Word
	r.hub, r.nodes[0], words = r.begin(r.hub, r.nodes[0])
	r.send(words)
}

func (r *roundRun) falls(id int) {
	if r.nodes[id] = impl.NodeFall(r.nodes[id]); id == 0 {
		r.hub = impl.Hub{}
	}
}

// allWork lets all do what they can, and hear of it.
func (r *roundRun) allWork() {
	for proc := range 4 {
		for ok := true; ok; {
			r.nodes[proc%3], ok = r.step(r.apps, r.nodes[proc%3], proc)
		}
	}
	for id := range 3 {
		r.send(r.tend(r.nodes[id]))
		r.bringAll()
	}
}

// calm lets all rise and hear all, but settles nothing; one round of it is not always enough for all to be done.
func (r *roundRun) calm() {
	for id := range 3 {
		r.nodes[id] = impl.NodeRise(r.nodes[id])
	}
	r.bringAll()
	r.allWork()
	r.allWork()
}

func (r *roundRun) happens(d *dice) {
	id := d.upTo(2)
	switch d.upTo(23) {
	case 0, 1, 2:
		r.send(r.tend(r.nodes[id]))
	case 3, 4, 5, 6, 7, 8, 9, 10, 11, 12, 13:
		if len(r.radio) > 0 {
			r.bring(d.upTo(min(3, len(r.radio)-1)), d.upTo(9) == 0)
		}
	case 14:
		if at := d.upTo(60); at < len(r.radio) {
			r.radio = slices.Delete(r.radio, at, at+1)
		}
	case 15:
		if d.upTo(4) == 0 {
			r.falls(id)
		}
	case 16, 17:
		r.nodes[id] = impl.NodeRise(r.nodes[id])
	case 18, 19:
		r.begins()
	case 20:
		if d.upTo(2) == 0 {
			r.calm()
			r.begins()
			for range d.upTo(20) {
				if len(r.radio) > 0 {
					r.bring(0, false)
				}
			}
		}
	default:
		r.nodes[id], _ = r.step(r.apps, r.nodes[id], d.procOf(id))
	}
}

// hubSpot is a hub and the node 0 at some time, with an answer that comes to them.
type hubSpot struct {
	h impl.Hub
	n impl.Node
	w impl.Word
}

// The runs are made by hand and once: they are the same for all tests, and none of them writes into a hub or a node.
var hubSpots = sync.OnceValue(func() []hubSpot {
	d := dice(261)
	var list []hubSpot
	for i := range 40 {
		r := d.newRoundRun(i, byHand())
		r.heard = func(w impl.Word) {
			if w.To == 0 && (w.Kind == 3 || w.Kind == 5 || w.Kind == 7) {
				list = append(list, hubSpot{h: r.hub, n: r.nodes[0], w: w})
			}
		}
		for range 80 {
			r.happens(&d)
		}
		r.calm()
		r.begins()
		r.bringAll()
	}
	for _, s := range slices.Concat(spots(), spots()) {
		if s.n.Id != 0 {
			continue
		}
		h := d.anyHub(s.n)
		n := s.n
		if d.upTo(2) > 0 {
			n = answered(n, h.Round)
		}
		list = append(list, hubSpot{h: h, n: n, w: d.answerTo(h)})
	}
	return list
})
