package tests

import (
	"slices"

	"loop.example/slackwater/impl"
)

// What the document says of words, by hand.

func sameWord(a impl.Word, b impl.Word) bool {
	return a.Kind == b.Kind && a.From == b.From && a.To == b.To && a.Inc == b.Inc && a.Version == b.Version && a.Round == b.Round && a.G == b.G &&
		slices.Equal(a.Incs, b.Incs) && slices.Equal(a.Versions, b.Versions) && slices.Equal(a.Events, b.Events) && slices.Equal(a.Outs, b.Outs)
}

func sameWords(a []impl.Word, b []impl.Word) bool {
	return slices.EqualFunc(a, b, sameWord)
}

func isNoWord(w impl.Word) bool {
	return sameWord(w, impl.Word{})
}

func cloneWord(w impl.Word) impl.Word {
	w.Incs, w.Versions, w.Events, w.Outs = slices.Clone(w.Incs), slices.Clone(w.Versions), slices.Clone(w.Events), slices.Clone(w.Outs)
	return w
}

func wordOkByHand(w impl.Word) bool {
	if !slices.Contains([]int{1, 2, 3, 4, 5, 6, 7}, w.Kind) || !slices.Contains([]int{0, 1, 2}, w.From) || !slices.Contains([]int{0, 1, 2}, w.To) {
		return false
	}
	for _, list := range [][]int{{w.Inc, w.Version, w.Round}, w.Incs, w.Versions} {
		if len(list) != 0 && len(list) != 3 || len(list) == 3 && (slices.Min(list) < 0 || slices.Max(list) > mostNumber) {
			return false
		}
	}
	return w.G >= 0 && w.G <= 41 && eventsOk(w.Events) && outsOk(w.Outs)
}

func tendByHand(n impl.Node) []impl.Word {
	if !n.Up {
		return nil
	}
	var words []impl.Word
	for _, to := range othersByHand(n.Id) {
		words = append(words, impl.Word{Kind: 1, From: n.Id, To: to, Inc: n.Inc, Version: n.Version, G: n.G, Events: tellsByHand(n, to)})
	}
	if n.Id > 0 {
		words = append(words, impl.Word{Kind: 7, From: n.Id, G: n.G, Outs: n.Outs})
	}
	return words
}

func reportByHand(n impl.Node, round int) (impl.Node, impl.Word, bool) {
	if !n.Up || round <= n.Round || round > mostNumber {
		return n, impl.Word{}, false
	}
	w := impl.Word{Kind: 3, From: n.Id, Inc: n.Inc, Round: round, G: minByHand(n)}
	for _, v := range n.Views {
		w.Incs, w.Versions = append(w.Incs, v.Inc), append(w.Versions, v.Version)
	}
	return answered(n, round), w, true
}

func hearByHand(n impl.Node, w impl.Word) (impl.Node, []impl.Word) {
	if !n.Up || !wordOkByHand(w) || w.To != n.Id || w.From == n.Id {
		return n, nil
	}
	switch {
	case w.Kind == 1:
		return viewByHand(n, told{from: w.From, inc: w.Inc, version: w.Version, g: w.G, events: w.Events}), nil
	case w.Kind == 2:
		if x, one, ok := reportByHand(n, w.Round); ok {
			return x, []impl.Word{one}
		}
	case w.Kind == 4 && w.Round > 0 && w.Round == n.Round:
		return n, []impl.Word{{Kind: 5, From: n.Id, Inc: n.Inc, Version: n.Version, Round: n.Round}}
	case w.Kind == 6 && w.Inc == n.Inc:
		n, _ = settleNodeByHand(n, w.Round, w.G)
	}
	return n, nil
}

func (d *dice) numbers() []int {
	if d.upTo(1) == 0 {
		return nil
	}
	return []int{d.number(), d.number(), d.number()}
}

func (d *dice) outs(most int) []impl.Out {
	var list []impl.Out
	for range d.upTo(most) {
		list = append(list, impl.Out{Time: d.upTo(40), Proc: d.upTo(3), Count: d.upTo(11), N: d.upTo(1), Value: d.num()})
	}
	return slices.Compact(outsByHand(list))
}

// anyWord is ok, and has also what its kind does not name.
func (d *dice) anyWord() impl.Word {
	w := impl.Word{Kind: d.between(1, 7), From: d.upTo(2), To: d.upTo(2), Inc: d.number(), Version: d.number(), Round: d.number(), G: d.upTo(41)}
	w.Incs, w.Versions, w.Outs = d.numbers(), d.numbers(), d.outs(5)
	for range d.upTo(5) {
		w.Events = append(w.Events, d.event())
	}
	w.Events = inOrder(w.Events)
	return w
}

// near is one of a few numbers beside a number that matters, mostly that itself.
func (d *dice) near(n int, most int) int {
	if d.upTo(2) > 0 {
		return n
	}
	return min(most, max(0, n+d.between(-1, 1)))
}

// wordTo is mostly ok, mostly for the node, and mostly of what that may do something with.
func (d *dice) wordTo(n impl.Node) impl.Word {
	w := d.anyWord()
	t := d.toldTo(n)
	w.From, w.To = t.from, n.Id
	switch w.Kind {
	case impl.WordTells:
		w.Inc, w.Version, w.G, w.Events = t.inc, t.version, t.g, t.events
	case impl.WordAsk:
		w.Round = d.near(min(mostNumber, n.Round+1), mostNumber)
	case impl.WordMore:
		w.Round = d.near(n.Round, mostNumber)
	case impl.WordDone:
		w.Inc, w.Round, w.G = d.near(n.Inc, mostNumber), d.near(n.Round, mostNumber), d.near(minByHand(n), 41)
	}
	switch d.upTo(19) {
	case 0:
		w.To = d.upTo(2)
	case 1:
		w.From = n.Id
	case 2:
		w.Round = -1
	}
	return w
}

// wrongWords are made of a word that is ok, one thing being wrong in each.
func wrongWords(good impl.Word) []impl.Word {
	var list []impl.Word
	wrong := func(do func(w *impl.Word)) {
		w := cloneWord(good)
		do(&w)
		list = append(list, w)
	}
	for _, x := range farNumbers() {
		wrong(func(w *impl.Word) { w.Kind = x })
		wrong(func(w *impl.Word) { w.From = x })
		wrong(func(w *impl.Word) { w.To = x })
		wrong(func(w *impl.Word) { w.Inc = x })
		wrong(func(w *impl.Word) { w.Version = x })
		wrong(func(w *impl.Word) { w.Round = x })
		wrong(func(w *impl.Word) { w.G = x })
		for at := range 3 {
			numbers := []int{1, 2, 3}
			numbers[at] = x
			wrong(func(w *impl.Word) { w.Incs = numbers })
			wrong(func(w *impl.Word) { w.Versions = numbers })
		}
	}
	wrong(func(w *impl.Word) { w.Kind = 0 })
	wrong(func(w *impl.Word) { w.Kind = 8 })
	wrong(func(w *impl.Word) { w.From = 3 })
	wrong(func(w *impl.Word) { w.To = 3 })
	wrong(func(w *impl.Word) { w.G = 42 })
	for _, many := range []int{1, 2, 4, 6} {
		wrong(func(w *impl.Word) { w.Incs = make([]int, many) })
		wrong(func(w *impl.Word) { w.Versions = make([]int, many) })
	}
	wrong(func(w *impl.Word) { w.Events = manyEvents(101, 40) })
	wrong(func(w *impl.Word) { w.Events = []impl.Event{{Time: 3}, {Time: 2}} })
	wrong(func(w *impl.Word) { w.Events = []impl.Event{{Time: 3}, {Time: 3}} })
	wrong(func(w *impl.Word) { w.Outs = manyOuts(97) })
	wrong(func(w *impl.Word) { w.Outs = []impl.Out{{Time: 3}, {Time: 2}} })
	wrong(func(w *impl.Word) { w.Outs = []impl.Out{{Time: 3}, {Time: 3}} })
	for _, e := range wrongEvents() {
		wrong(func(w *impl.Word) { w.Events = []impl.Event{e} })
		wrong(func(w *impl.Word) { w.Events = inOrder(append(manyEvents(3, 20), e)) })
	}
	for _, o := range wrongOuts() {
		wrong(func(w *impl.Word) { w.Outs = []impl.Out{o} })
		wrong(func(w *impl.Word) { w.Outs = outsByHand(append(outsAt(3, 20), o)) })
	}
	return list
}
