package tests

import (
	"slices"
	"testing"

	"loop.example/slackwater/impl"
)

// wrongHubs are made of a hub that is ok, one thing being wrong in each.
func wrongHubs() []impl.Hub {
	var list []impl.Hub
	wrong := func(do func(h *impl.Hub)) {
		h := cloneHub(fullHub())
		do(&h)
		list = append(list, h)
	}
	for _, x := range farNumbers() {
		wrong(func(h *impl.Hub) { h.Round = x })
	}
	lists := []func(h *impl.Hub) *[]impl.Word{
		func(h *impl.Hub) *[]impl.Word { return &h.Ones },
		func(h *impl.Hub) *[]impl.Word { return &h.Twos },
		func(h *impl.Hub) *[]impl.Word { return &h.Outs },
	}
	for i, of := range lists {
		wrong(func(h *impl.Hub) { slices.Reverse(*of(h)) })
		wrong(func(h *impl.Hub) { (*of(h))[1].From = (*of(h))[0].From })
		wrong(func(h *impl.Hub) { *of(h) = append(*of(h), (*of(h))[0]) })
		wrong(func(h *impl.Hub) { *of(h) = append(*of(h), (*of(h))[len(*of(h))-1]) })
		wrong(func(h *impl.Hub) { *of(h) = slices.Clone(*lists[(i+1)%3](h)) })
		wrong(func(h *impl.Hub) { *of(h) = append((*of(h))[:1], impl.Word{}) })
		for kind := range 9 {
			if kind != (*of(&impl.Hub{Ones: fullHub().Ones, Twos: fullHub().Twos, Outs: fullHub().Outs}))[1].Kind {
				wrong(func(h *impl.Hub) { (*of(h))[1].Kind = kind })
			}
		}
		hub := fullHub()
		last := len(*of(&hub)) - 1
		for _, w := range wrongWords((*of(&hub))[last]) {
			wrong(func(h *impl.Hub) { (*of(h))[last] = w })
		}
	}
	for at := range 3 {
		wrong(func(h *impl.Hub) { h.Ones[at].Incs = nil })
		wrong(func(h *impl.Hub) { h.Ones[at].Versions = nil })
		wrong(func(h *impl.Hub) { h.Ones[at].Incs, h.Ones[at].Versions = nil, nil })
	}
	return list
}

func checkNoRound(t *testing.T, h impl.Hub, n impl.Node, i int) {
	t.Helper()
	if got, x, words := impl.HubBegin(h, n); !isNoHub(got) || !isNoNode(x) || len(words) != 0 {
		t.Errorf("thing %d: it begins: %v %v %v", i, got, x, words)
	}
	for _, w := range []impl.Word{fullHub().Ones[2], fullHub().Twos[2], {Kind: 7, From: 1, G: 9}, {Kind: 1, From: 1, Inc: 1}, {}, {Kind: 3, From: 1, To: 2}} {
		if got, x, words := impl.HubHear(h, n, w); !isNoHub(got) || !isNoNode(x) || len(words) != 0 {
			t.Errorf("thing %d: it hears %v: %v %v %v", i, w, got, x, words)
		}
	}
	if outs := impl.HubOuts(h, n); len(outs) != 0 {
		t.Errorf("thing %d: it lets out: %v", i, outs)
	}
}

// Promises 46 to 51: of a hub that is not ok nothing is told, and nothing comes of it.
func TestNothingComesOfWrongHubs(t *testing.T) {
	for i, h := range wrongHubs() {
		if impl.HubOk(h) || hubOkByHand(h) {
			t.Errorf("thing %d: it is ok: %v", i, h)
		}
		if g, ok := impl.HubJudge(h); ok || g != 0 {
			t.Errorf("thing %d: it settles: %v", i, g)
		}
		for id := range 3 {
			n := plainNode(id)
			n.G = 6
			n.Lanes[0].Done, n.Kept = nil, nil
			checkNoRound(t, h, n, i)
			n.Up = false
			checkNoRound(t, h, n, i)
		}
	}
}

// Promises 46 to 51: likewise of a node that is not ok, whichever it is.
func TestNothingComesOfWrongNodesInRounds(t *testing.T) {
	half, most := waiting()[0].h, waiting()[1].h
	for i, do := range wrongings() {
		for id := range 3 {
			for _, up := range []bool{true, false} {
				n := cloneNode(plainNode(id))
				n.Up = up
				do(&n)
				for _, h := range []impl.Hub{{}, half, most, fullHub()} {
					checkNoRound(t, h, n, i)
				}
			}
		}
	}
	checkNoRound(t, fullHub(), impl.Node{}, -1)
	checkNoRound(t, impl.Hub{}, impl.Node{Up: true}, -2)
}

// Promises 46 to 51: each limit of a hub may be met exactly, also by words that never come to it.
func TestLimitsOfHubsMayBeMet(t *testing.T) {
	most := []int{9999, 9999, 9999}
	for i, h := range []impl.Hub{
		{}, {Round: 9999}, {Ones: []impl.Word{}, Twos: []impl.Word{}, Outs: []impl.Word{}}, fullHub(),
		{Ones: fullHub().Ones[1:]}, {Twos: fullHub().Twos[2:]}, {Outs: fullHub().Outs[1:]},
		{Ones: []impl.Word{fullHub().Ones[0], fullHub().Ones[2]}, Twos: fullHub().Twos},
		{Round: 1, Ones: []impl.Word{{Kind: 3, From: 2, To: 2, Inc: 9999, Version: 9999, Round: 9999, G: 41, Incs: most, Versions: most, Events: manyEvents(100, 3), Outs: manyOuts(96)}}},
		{Ones: []impl.Word{{Kind: 3, Incs: []int{0, 0, 0}, Versions: []int{0, 0, 0}}}},
		{Twos: []impl.Word{{Kind: 5, Incs: most}, {Kind: 5, From: 1, To: 2, Versions: most}, {Kind: 5, From: 2, G: 41}}},
		{Outs: []impl.Word{{Kind: 7, Incs: most}, {Kind: 7, From: 1, Round: 9999, Outs: manyOuts(96)}, {Kind: 7, From: 2, To: 1, G: 41}}},
	} {
		if !impl.HubOk(h) || !hubOkByHand(h) {
			t.Error(i, h)
		}
		if got, n, words := impl.HubBegin(h, leader()); got.Round != 5 || n.Led != 5 || len(words) != 2 || !sameWords(got.Outs, h.Outs) {
			t.Error(i, got, words)
		}
	}
}

// Promises 48 to 50: a word that is not ok, is not for the node 0, is from it, or of another kind, is not heard.
func TestWhatTheHubDoesNotHear(t *testing.T) {
	n := leader()
	for i, c := range waiting() {
		if h, _, _ := impl.HubHear(c.h, n, c.w); sameHub(h, c.h) {
			t.Fatal("the word itself is not heard", i)
		}
		list := wrongWords(c.w)
		for kind := range 9 {
			x := cloneWord(c.w)
			if x.Kind = kind; kind != c.w.Kind {
				list = append(list, x)
			}
		}
		for _, where := range []struct{ from, to int }{{2, 1}, {2, 2}, {0, 0}, {0, 1}, {0, 2}, {1, 1}} {
			x := cloneWord(c.w)
			x.From, x.To = where.from, where.to
			list = append(list, x)
		}
		for k, w := range list {
			if w.Kind == impl.WordOuts && c.w.Kind != impl.WordOuts && impl.WordOk(w) && w.To == 0 && w.From != 0 {
				continue
			}
			if h, x, words := impl.HubHear(c.h, n, w); !sameHub(h, c.h) || !sameNode(x, n) || len(words) != 0 {
				t.Error("it is heard", i, k, w, h, words)
			}
		}
	}
}

// Promises 48, 49: what a word has beside what its kind names does not matter for what is done by it.
func TestWhatAnAnswerHasBeside(t *testing.T) {
	n := leader()
	for i, c := range waiting() {
		_, x, words := impl.HubHear(c.h, n, c.w)
		w := cloneWord(c.w)
		w.Events = manyEvents(100, 3)
		if w.Kind != impl.WordOuts {
			w.Outs = manyOuts(96)
		} else {
			w.Inc, w.Version, w.Round = 9999, 9999, 9999
		}
		h, y, others := impl.HubHear(c.h, n, w)
		if !sameNode(x, y) || !sameWords(words, others) || sameHub(h, c.h) || !impl.HubOk(h) {
			t.Error(i, h, y, others)
		}
	}
}

func hubParts(h impl.Hub) []part {
	return slices.Concat(wordsParts(h.Ones), wordsParts(h.Twos), wordsParts(h.Outs))
}

func roomyWords(words []impl.Word) []impl.Word {
	words = roomy(words)
	for i := range words {
		words[i] = roomyWord(words[i])
	}
	return words
}

func roomyHub(h impl.Hub) impl.Hub {
	h.Ones, h.Twos, h.Outs = roomyWords(h.Ones), roomyWords(h.Twos), roomyWords(h.Outs)
	return h
}

// Nothing is written into a hub, a node or a word, or behind their ends, and what is answered shares nothing with them.
func TestHubsAreNewMemory(t *testing.T) {
	for i, s := range hubSpots() {
		if i%7 != 0 {
			continue
		}
		h, n, down, w := roomyHub(s.h), roomyNode(s.n), roomyNode(s.n), roomyWord(s.w)
		down.Up = false
		half, most := roomyHub(waiting()[0].h), roomyHub(waiting()[1].h)
		one, two := roomyWord(waiting()[0].w), roomyWord(waiting()[1].w)
		ready := roomyNode(leader())
		given := slices.Concat(hubParts(h), hubParts(half), hubParts(most), nodeParts(n), nodeParts(down), nodeParts(ready), wordParts(w), wordParts(one), wordParts(two))
		begins := func(h impl.Hub, n impl.Node) []part {
			g, x, words := impl.HubBegin(h, n)
			return slices.Concat(hubParts(g), nodeParts(x), wordsParts(words))
		}
		hears := func(h impl.Hub, n impl.Node, w impl.Word) []part {
			g, x, words := impl.HubHear(h, n, w)
			return slices.Concat(hubParts(g), nodeParts(x), wordsParts(words))
		}
		for k, do := range []func() []part{
			func() []part { return begins(h, n) },
			func() []part { return begins(h, down) },
			func() []part { return begins(half, ready) },
			func() []part { return hears(h, n, w) },
			func() []part { return hears(h, down, w) },
			func() []part { return hears(half, ready, one) },
			func() []part { return hears(most, ready, two) },
			func() []part { return hears(most, ready, one) },
			func() []part { return []part{outsPart(impl.HubOuts(h, n))} },
			func() []part { impl.HubJudge(h); impl.HubOk(h); return nil },
		} {
			checkNew(t, given, do(), k)
		}
	}
}

// looseWords are put together without asking whether they fit; often they are as they should be.
func (d *dice) looseWords(kind int) []impl.Word {
	var words []impl.Word
	for from := range 3 {
		w := d.looseWord()
		if d.upTo(9) > 0 {
			w.Kind, w.From = kind, from
		}
		if kind == 3 && d.upTo(9) > 0 {
			w.Incs, w.Versions = []int{d.upTo(2), d.upTo(2), d.upTo(2)}, []int{d.upTo(2), d.upTo(2), d.anyInt(2)}
		}
		if !impl.WordOk(w) && d.upTo(9) > 0 {
			w = impl.Word{Kind: kind, From: from, Incs: []int{0, 0, 0}, Versions: []int{0, 0, 0}}
		}
		if d.upTo(2) > 0 {
			words = append(words, w)
		}
	}
	return words
}

// Promises 46 to 51: every function answers, whatever it is given; what is not ok is nothing, and what is ok stays so.
func TestHubsAnswerWhateverTheyAreGiven(t *testing.T) {
	d := dice(265)
	oks, changed := 0, 0
	for range 20000 {
		h := impl.Hub{Round: d.anyInt(2), Ones: d.looseWords(3), Twos: d.looseWords(5), Outs: d.looseWords(7)}
		n, w := d.looseNode(), d.looseWord()
		if d.upTo(3) > 0 {
			n = impl.NodeStart(d.anyInt(2) / 2)
			n.Led, n.Round = d.anyInt(2), d.anyInt(2)
		}
		if d.upTo(3) > 0 {
			w.To, w.Round = 0, h.Round
		}
		if impl.HubOk(h) != hubOkByHand(h) {
			t.Fatal(h)
		}
		begun, x, asks := impl.HubBegin(h, n)
		heard, y, words := impl.HubHear(h, n, w)
		outs := impl.HubOuts(h, n)
		g, ok := impl.HubJudge(h)
		if !hubOkByHand(h) || !okByHand(n) {
			if !isNoHub(begun) || !isNoHub(heard) || !isNoNode(x) || !isNoNode(y) || len(asks)+len(words)+len(outs) > 0 || !hubOkByHand(h) && (ok || g != 0) {
				t.Fatal("something of nothing", h, n, w, begun, heard, x, y, asks, words, outs)
			}
			continue
		}
		wantBegun, wantX, wantAsks := beginByHand(h, n)
		wantHeard, wantY, wantWords := hubHearByHand(h, n, w)
		if !sameHub(begun, wantBegun) || !sameNode(x, wantX) || !sameWords(asks, wantAsks) || !slices.Equal(outs, hubOutsByHand(h, n)) {
			t.Fatal(h, n, begun, x, asks, outs)
		}
		if !sameHub(heard, wantHeard) || !sameNode(y, wantY) || !sameWords(words, wantWords) || !impl.HubOk(heard) || !impl.NodeOk(y) {
			t.Fatal(h, n, w, heard, y, words)
		}
		if wantG, wantOk := judgeByHand(h); g != wantG || ok != wantOk {
			t.Fatal(h, g, ok)
		}
		oks++
		changed += count(!sameHub(heard, h))
	}
	if oks < 1000 || changed < 100 {
		t.Error("too few", oks, changed)
	}
}
