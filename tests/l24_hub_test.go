package tests

import (
	"slices"
	"testing"

	"loop.example/slackwater/impl"
)

// leader is a node 0 that has led some rounds, with something to do and something done.
func leader() impl.Node {
	n := plainNode(0)
	n.Led, n.Round = 4, 4
	return n
}

// Promise 46.
func TestEachRoundHasANumberOfItsOwn(t *testing.T) {
	begun := 0
	for _, s := range hubSpots() {
		h, n, words := impl.HubBegin(s.h, s.n)
		wantH, wantN, wantWords := beginByHand(s.h, s.n)
		if !sameHub(h, wantH) || !sameNode(n, wantN) || !sameWords(words, wantWords) {
			t.Fatal(s, h, n, words)
		}
		if !impl.HubOk(h) || !impl.NodeOk(n) || !sameWords(h.Outs, s.h.Outs) {
			t.Fatal("spoiled", s, h, n)
		}
		if len(words) == 0 {
			if !sameHub(h, s.h) || !sameNode(n, s.n) {
				t.Fatal("it began something", s, h, n)
			}
			continue
		}
		if h.Round != s.n.Led+1 || n.Led != h.Round || n.Round != h.Round || h.Round <= s.n.Round || n.Low != 41 {
			t.Fatal("not a number of its own", s, h, n)
		}
		for i, w := range words {
			if !impl.WordOk(w) || !sameWord(w, impl.Word{Kind: impl.WordAsk, To: i + 1, Round: h.Round}) {
				t.Fatal("not all others are asked", s, words)
			}
		}
		begun++
	}
	if begun < 1000 {
		t.Error("too few", begun)
	}
}

// Promise 46: which round is next, and whether it can be answered.
func TestEdgesOfHubBegin(t *testing.T) {
	for i, c := range []struct {
		led, last int
		ok        bool
	}{
		{0, 0, true}, {0, 1, false}, {0, 2, false}, {0, 9999, false},
		{4, 0, true}, {4, 4, true}, {4, 5, false}, {4, 6, false},
		{9997, 9997, true}, {9998, 0, true}, {9998, 9998, true}, {9998, 9999, false},
		{9999, 0, false}, {9999, 9998, false}, {9999, 9999, false},
	} {
		for _, old := range []impl.Hub{{}, {Round: 9999}, fullHub()} {
			n := leader()
			n.Led, n.Round = c.led, c.last
			h, x, words := impl.HubBegin(old, n)
			if !c.ok {
				if !sameHub(h, old) || !sameNode(x, n) || len(words) != 0 {
					t.Error("it begins", i, h, x, words)
				}
				continue
			}
			led := cloneNode(n)
			led.Led++
			one := impl.Word{Kind: 3, Inc: n.Inc, Round: led.Led, G: 5, Incs: []int{0, 2, 0}, Versions: []int{0, 2, 0}}
			want := impl.Hub{Round: led.Led, Ones: []impl.Word{one}, Outs: old.Outs}
			if !sameHub(h, want) || !sameNode(x, answered(led, led.Led)) || !sameWords(words, toOthers(impl.Word{Kind: 2, Round: led.Led})) {
				t.Error(i, h, x, words)
			}
		}
	}
}

// Promise 46: one is begun behind the other, also behind a fall, by which the hub is forgotten but not how many were led.
func TestRoundsBehindAFall(t *testing.T) {
	h, n := impl.Hub{}, impl.NodeStart(0)
	for round := 1; round <= 12; round++ {
		var words []impl.Word
		if h, n, words = impl.HubBegin(h, n); h.Round != round || len(words) != 2 || len(h.Ones) != 1 || h.Ones[0].Inc != n.Inc || h.Ones[0].Round != round {
			t.Fatal(round, h, n)
		}
		if round%3 == 0 {
			h, n = impl.Hub{}, impl.NodeRise(impl.NodeFall(n))
		}
	}
	if n.Inc != 5 || n.Led != 12 {
		t.Error(n)
	}
}

// fullHub is a round of which all is there, and which settles 6.
func fullHub() impl.Hub {
	incs, versions := []int{1, 7, 8}, []int{1, 4, 5}
	h := impl.Hub{Round: 4}
	for id := range 3 {
		h.Ones = append(h.Ones, impl.Word{Kind: 3, From: id, Inc: incs[id], Round: 4, G: 6 + id, Incs: slices.Clone(incs), Versions: slices.Clone(versions)})
		h.Twos = append(h.Twos, impl.Word{Kind: 5, From: id, Inc: incs[id], Version: versions[id], Round: 4})
	}
	h.Outs = []impl.Word{
		{Kind: 7, From: 1, G: 6, Outs: []impl.Out{{Time: 1, Proc: 1, Value: 3}, {Time: 5, Proc: 1, Count: 1}}},
		{Kind: 7, From: 2, G: 5, Outs: []impl.Out{{Time: 0, Proc: 2, Value: 9}, {Time: 4, Proc: 2, Count: 1}}},
	}
	return h
}

// waiting are rounds that wait for their last answer of a kind, with that; the last one is of what was let out.
func waiting() []hubSpot {
	one, two, outs := fullHub(), fullHub(), fullHub()
	one.Ones, one.Twos, two.Twos = one.Ones[:2], nil, two.Twos[:2]
	later := cloneWord(outs.Outs[1])
	later.G++
	return []hubSpot{{h: one, w: fullHub().Ones[2]}, {h: two, w: fullHub().Twos[2]}, {h: outs, w: later}}
}

// Promise 47.
func TestARoundSettlesOnlyWhatAllHadHeard(t *testing.T) {
	settles, settled, not := 0, 0, 0
	for _, s := range hubSpots() {
		g, ok := impl.HubJudge(s.h)
		if wantG, wantOk := judgeByHand(s.h); g != wantG || ok != wantOk {
			t.Fatal(s.h, g, ok)
		}
		h, n, words := impl.HubHear(s.h, s.n, s.w)
		wantH, wantN, wantWords := hubHearByHand(s.h, s.n, s.w)
		if !sameHub(h, wantH) || !sameNode(n, wantN) || !sameWords(words, wantWords) {
			t.Fatal(s, h, n, words)
		}
		if !impl.HubOk(h) || !impl.NodeOk(n) || h.Round != s.h.Round || n.G < s.n.G {
			t.Fatal("spoiled", s, h, n)
		}
		g, ok = impl.HubJudge(h)
		if len(words) == 0 || words[0].Kind != impl.WordDone {
			if !sameNode(n, s.n) {
				t.Fatal("settled without the end of a round", s, n)
			}
			not += count(len(h.Twos) == 3 && len(s.h.Twos) == 2 && !ok)
			continue
		}
		for i, w := range words {
			if !ok || !impl.WordOk(w) || !sameWord(w, impl.Word{Kind: impl.WordDone, To: i + 1, Inc: h.Ones[i+1].Inc, Round: h.Round, G: g}) {
				t.Fatal("not the end of the round", s, words)
			}
		}
		settles++
		settled += count(n.G == g && g > s.n.G)
	}
	if settles < 100 || settled < 20 || not < 50 {
		t.Error("too few", settles, settled, not)
	}
}

// judges are changes of a round that settles, each with what it settles then; -1 is nothing.
func judges() []struct {
	do func(h *impl.Hub)
	g  int
} {
	type change = struct {
		do func(h *impl.Hub)
		g  int
	}
	list := []change{
		{do: func(h *impl.Hub) {}, g: 6},
		{do: func(h *impl.Hub) { h.Ones[0].G = 0 }, g: 0},
		{do: func(h *impl.Hub) { h.Ones[1].G = 5 }, g: 5},
		{do: func(h *impl.Hub) { h.Ones[2].G = 5 }, g: 5},
		{do: func(h *impl.Hub) { h.Ones[0].G, h.Ones[1].G, h.Ones[2].G = 41, 41, 41 }, g: 41},
		{do: func(h *impl.Hub) { h.Ones[0].G, h.Ones[1].G, h.Ones[2].G = 41, 40, 41 }, g: 40},
		{do: func(h *impl.Hub) { h.Outs = nil }, g: 6},
		{do: func(h *impl.Hub) { h.Ones, h.Twos = nil, nil }, g: -1},
		{do: func(h *impl.Hub) { h.Twos = nil }, g: -1},
		{do: func(h *impl.Hub) { h.Ones = nil }, g: -1},
	}
	for id := range 3 {
		for _, by := range []int{-1, 1} {
			list = append(list,
				change{do: func(h *impl.Hub) { h.Ones[id].Inc += by }, g: -1},
				change{do: func(h *impl.Hub) { h.Twos[id].Inc += by }, g: -1},
				change{do: func(h *impl.Hub) { h.Twos[id].Version += by }, g: -1},
				change{do: func(h *impl.Hub) { h.Ones[id].Inc, h.Twos[id].Inc = h.Ones[id].Inc+by, h.Twos[id].Inc+by }, g: -1},
				change{do: func(h *impl.Hub) { h.Ones[id].Incs[id] += by }, g: 6},
				change{do: func(h *impl.Hub) { h.Ones[id].Versions[id] += by }, g: 6},
				change{do: func(h *impl.Hub) { h.Ones[id].Version += 1 }, g: 6},
				change{do: func(h *impl.Hub) { h.Twos[id].G = 1 }, g: 6},
			)
			for _, other := range othersByHand(id) {
				list = append(list,
					change{do: func(h *impl.Hub) { h.Ones[id].Incs[other] += by }, g: -1},
					change{do: func(h *impl.Hub) { h.Ones[id].Versions[other] += by }, g: -1},
				)
			}
		}
		list = append(list,
			change{do: func(h *impl.Hub) { h.Ones = slices.Delete(h.Ones, id, id+1) }, g: -1},
			change{do: func(h *impl.Hub) { h.Twos = slices.Delete(h.Twos, id, id+1) }, g: -1},
			change{do: func(h *impl.Hub) {
				for _, other := range othersByHand(id) {
					h.Ones[other].Incs[id], h.Ones[other].Versions[id] = 9999, 9999
				}
				h.Ones[id].Inc, h.Twos[id].Inc, h.Twos[id].Version = 9999, 9999, 9999
			}, g: 6},
			// It is of no matter what a node had heard of itself, in which place the numbers fit instead.
			change{do: func(h *impl.Hub) { slices.Reverse(h.Ones[id].Incs) }, g: -1},
		)
	}
	return list
}

// Promise 47: one number that is another is enough; what a node says of itself is not asked; the least of all is settled.
func TestEdgesOfHubJudge(t *testing.T) {
	for i, c := range judges() {
		h := fullHub()
		c.do(&h)
		want := max(0, c.g)
		if g, ok := impl.HubJudge(h); !impl.HubOk(h) || g != want || ok != (c.g >= 0) {
			t.Error(i, h, g, ok)
		}
		if len(h.Ones) < 3 || len(h.Twos) < 3 {
			continue
		}
		// The same round by its last answer: only if it settles something does it end.
		last := h.Twos[2]
		h.Twos = h.Twos[:2]
		got, n, words := impl.HubHear(h, leader(), last)
		if len(got.Twos) != 3 || (len(words) == 2) != (c.g >= 0) || len(words) == 2 && (words[0].G != want || words[1].G != want) {
			t.Error("by its last answer", i, got, words)
		}
		if c.g < 0 && !sameNode(n, leader()) {
			t.Error("settled", i, n)
		}
	}
	if g, ok := impl.HubJudge(impl.Hub{}); ok || g != 0 {
		t.Error("nothing is settled", g)
	}
}

// Promise 47: the node 0 settles by the round too, if it may; all others are told, whether it may or not.
func TestTheNode0SettlesToo(t *testing.T) {
	for i, c := range []struct {
		do func(n *impl.Node)
		g  int
		ok bool
	}{
		{do: func(n *impl.Node) {}, g: 5, ok: true},
		{do: func(n *impl.Node) {}, g: 3, ok: true},
		{do: func(n *impl.Node) {}, g: 2},
		{do: func(n *impl.Node) {}, g: 0},
		{do: func(n *impl.Node) {}, g: 6},
		{do: func(n *impl.Node) { n.Low = 4 }, g: 5},
		{do: func(n *impl.Node) { n.Low = 5 }, g: 5, ok: true},
		{do: func(n *impl.Node) { n.Round = 3 }, g: 5},
		{do: func(n *impl.Node) { n.Round = 5 }, g: 5},
		{do: func(n *impl.Node) { n.Version = 9999 }, g: 5},
	} {
		n := leader()
		c.do(&n)
		h := fullHub()
		h.Ones[2].G = c.g
		h.Twos[0].Version, h.Ones[1].Versions[0], h.Ones[2].Versions[0] = n.Version, n.Version, n.Version
		for id := range 3 {
			h.Ones[id].G = max(c.g, h.Ones[id].G)
		}
		last := h.Twos[1]
		h.Twos = []impl.Word{h.Twos[0], h.Twos[2]}
		got, x, words := impl.HubHear(h, n, last)
		want := toOthers(impl.Word{Kind: 6, Round: 4, G: c.g})
		want[0].Inc, want[1].Inc = 7, 8
		if !sameWords(words, want) || len(got.Twos) != 3 || !sameWords(got.Ones, h.Ones) {
			t.Error(i, got, words)
		}
		if settled, ok := impl.NodeSettle(n, 4, c.g); ok != c.ok || !sameNode(x, settled) || (x.G == c.g) != (c.ok || c.g == n.G) {
			t.Error(i, x)
		}
	}
}

// Promise 48.
func TestAnswersOfAnotherRoundCountForNothing(t *testing.T) {
	d := dice(262)
	kept := 0
	for _, s := range hubSpots() {
		got, _, _ := impl.HubHear(s.h, s.n, s.w)
		for _, one := range s.h.Ones {
			if same, ok := answerOf(got.Ones, one.From); !ok || !sameWord(same, one) {
				t.Fatal("a first answer is another one then", s, got)
			}
		}
		for _, two := range s.h.Twos {
			if same, ok := answerOf(got.Twos, two.From); len(got.Ones) == len(s.h.Ones) && (!ok || !sameWord(same, two)) {
				t.Fatal("a second answer is another one then", s, got)
			}
		}
		kept += count(len(got.Ones) > len(s.h.Ones)) + count(len(got.Twos) > len(s.h.Twos))
		w := s.w
		if w.Kind == impl.WordOuts {
			continue
		}
		for _, other := range []int{s.h.Round - 1, s.h.Round + 1, d.upTo(mostNumber), 0, mostNumber} {
			if w.Round = other; other == s.h.Round {
				continue
			}
			if h, n, words := impl.HubHear(s.h, s.n, w); !sameHub(h, s.h) || !sameNode(n, s.n) || len(words) != 0 {
				t.Fatal("an answer of another round counts", s, other, h, n, words)
			}
		}
	}
	if kept < 500 {
		t.Error("too few answers counted", kept)
	}
}

// Promise 48: what is heard when, from the first answer of a round to the last one.
func TestEdgesOfAnswers(t *testing.T) {
	full, n := fullHub(), leader()
	ones, twos := full.Ones, full.Twos
	late, far, fell, slow := cloneWord(ones[2]), cloneWord(ones[2]), cloneWord(ones[2]), cloneWord(ones[2])
	late.G, far.Round, fell.Inc, slow.Round = 3, 5, 9, 3
	noIncs, noVersions, none := cloneWord(ones[2]), cloneWord(ones[2]), cloneWord(ones[2])
	noIncs.Incs, noVersions.Versions, none.Incs, none.Versions = nil, nil, nil, nil
	own := impl.Word{Kind: 5, Inc: n.Inc, Version: n.Version, Round: 4}
	for i, c := range []struct {
		ones, twos         []impl.Word
		w                  impl.Word
		wantOnes, wantTwos []impl.Word
		kind               int
	}{
		{ones: nil, w: ones[2], wantOnes: ones[2:]},
		{ones: ones[:1], w: ones[2], wantOnes: []impl.Word{ones[0], ones[2]}},
		{ones: ones[1:2], w: ones[2], wantOnes: ones[1:]},
		{ones: ones[:2], w: ones[2], wantOnes: ones, wantTwos: []impl.Word{own}, kind: 4},
		{ones: ones[:2], w: late, wantOnes: []impl.Word{ones[0], ones[1], late}, wantTwos: []impl.Word{own}, kind: 4},
		{ones: ones[:2], twos: twos[1:], w: ones[2], wantOnes: ones, wantTwos: []impl.Word{own}, kind: 4},
		{ones: ones[:2], twos: twos, w: ones[2], wantOnes: ones, wantTwos: []impl.Word{own}, kind: 4},
		// The first one counts; one of another round, without what was heard, or behind the last one, does not.
		{ones: ones[1:], w: late, wantOnes: ones[1:]},
		{ones: ones[1:], w: fell, wantOnes: ones[1:]},
		{ones: ones[:2], w: far, wantOnes: ones[:2]},
		{ones: ones[:2], w: slow, wantOnes: ones[:2]},
		{ones: ones[:2], w: noIncs, wantOnes: ones[:2]},
		{ones: ones[:2], w: noVersions, wantOnes: ones[:2]},
		{ones: ones[:2], w: none, wantOnes: ones[:2]},
		{ones: ones, w: ones[2], wantOnes: ones},
		{ones: ones, w: late, wantOnes: ones},
		{ones: ones, twos: twos[:1], w: late, wantOnes: ones, wantTwos: twos[:1]},
		{ones: ones, twos: twos, w: fell, wantOnes: ones, wantTwos: twos},
		// Second answers behind all first ones alone.
		{ones: nil, w: twos[2]},
		{ones: ones[:2], w: twos[2], wantOnes: ones[:2]},
		{ones: ones[1:], twos: twos[:2], w: twos[2], wantOnes: ones[1:], wantTwos: twos[:2]},
		{ones: ones, w: twos[2], wantOnes: ones, wantTwos: twos[2:]},
		{ones: ones, twos: twos[:1], w: twos[2], wantOnes: ones, wantTwos: []impl.Word{twos[0], twos[2]}},
		{ones: ones, twos: twos[1:2], w: twos[2], wantOnes: ones, wantTwos: twos[1:]},
		{ones: ones, twos: twos[:2], w: twos[2], wantOnes: ones, wantTwos: twos, kind: 6},
		{ones: ones, twos: twos, w: twos[2], wantOnes: ones, wantTwos: twos},
		{ones: ones, twos: twos[1:], w: twos[2], wantOnes: ones, wantTwos: twos[1:]},
	} {
		h, x, words := impl.HubHear(impl.Hub{Round: 4, Ones: c.ones, Twos: c.twos}, n, c.w)
		if !sameHub(h, impl.Hub{Round: 4, Ones: c.wantOnes, Twos: c.wantTwos}) || c.kind < 6 && !sameNode(x, n) {
			t.Error(i, h, x)
		}
		if (len(words) == 2) != (c.kind > 0) || c.kind > 0 && (words[0].Kind != c.kind || words[1].Kind != c.kind || words[0].To != 1 || words[1].To != 2 || words[1].Round != 4) {
			t.Error(i, words)
		}
	}
}

// Promise 48: of second answers too the first one of a node counts.
func TestTheFirstSecondAnswerCounts(t *testing.T) {
	h := fullHub()
	later := h.Twos[1]
	later.Version, later.Inc = 9, 9
	h.Twos = h.Twos[:2]
	if got, _, words := impl.HubHear(h, leader(), later); !sameHub(got, h) || len(words) != 0 {
		t.Error("it counts instead", got, words)
	}
	h.Twos = h.Twos[:1]
	got, _, _ := impl.HubHear(h, leader(), later)
	got, n, words := impl.HubHear(got, leader(), fullHub().Twos[2])
	if len(got.Twos) != 3 || got.Twos[1].Version != 9 || len(words) != 0 || !sameNode(n, leader()) {
		t.Error("it had told more since", got, words)
	}
	if x, _, words := impl.HubHear(got, leader(), fullHub().Twos[1]); !sameHub(x, got) || len(words) != 0 {
		t.Error("another one mends it", x, words)
	}
}

// Promise 48: the node 0's own second answer is as of the time when all first ones are there.
func TestTheNode0AnswersAsOfNow(t *testing.T) {
	h := fullHub()
	h.Ones, h.Twos = h.Ones[:2], nil
	n := leader()
	for _, version := range []int{0, 1, 2, 9999} {
		n.Version, n.Inc = version, 1+version%7
		got, x, words := impl.HubHear(h, n, fullHub().Ones[2])
		want := impl.Word{Kind: 5, Inc: n.Inc, Version: version, Round: 4}
		if !sameWords(got.Twos, []impl.Word{want}) || !sameNode(x, n) || !sameWords(words, toOthers(impl.Word{Kind: 4, Round: 4})) {
			t.Error(version, got, words)
		}
	}
}

// Promise 48: a life that ended between both answers, or a telling that not all had heard, keeps the round from settling.
func TestARoundBetweenTwoLives(t *testing.T) {
	apps := mustRead(t, "proc\nproc\nrule 0\nsend 2 0 3 x\nproc\nproc\n")
	for i, c := range []struct {
		between func(n impl.Node) impl.Node
		ends    bool
	}{
		{between: func(n impl.Node) impl.Node { return n }, ends: true},
		{between: func(n impl.Node) impl.Node { n, _ = impl.NodeStep(apps, n, 1); return n }},
		{between: func(n impl.Node) impl.Node {
			n, _, _ = impl.NodeReport(impl.NodeRise(impl.NodeFall(n)), 1)
			return n
		}},
	} {
		nodes := []impl.Node{impl.NodeStart(0), impl.NodeStart(1), impl.NodeStart(2)}
		for _, n := range nodes {
			bringAll(nodes, impl.NodeTend(n))
		}
		h, zero, asks := impl.HubBegin(impl.Hub{}, nodes[0])
		for _, one := range bringAll(nodes, asks) {
			var mores []impl.Word
			h, zero, mores = impl.HubHear(h, zero, one)
			asks = mores
		}
		nodes[1] = c.between(nodes[1])
		var ends []impl.Word
		for _, two := range bringAll(nodes, asks) {
			h, zero, ends = impl.HubHear(h, zero, two)
		}
		if g, ok := impl.HubJudge(h); len(h.Twos) != 3 || ok != c.ends || g != 0 || (len(ends) == 2) != c.ends {
			t.Error(i, h, ends)
		}
	}
}

// Promise 49.
func TestAnAnswerThatComesTwiceCountsOnce(t *testing.T) {
	changed, spoke := 0, 0
	for _, s := range hubSpots() {
		h, n, words := impl.HubHear(s.h, s.n, s.w)
		again, x, more := impl.HubHear(h, n, s.w)
		if !sameHub(again, h) || !sameNode(x, n) || len(more) != 0 {
			t.Fatal("it counts twice", s, again, x, more)
		}
		changed += count(!sameHub(h, s.h))
		spoke += count(len(words) > 0)
	}
	if changed < 1000 || spoke < 300 {
		t.Error("too few", changed, spoke)
	}
}

// Promise 49: what was let out counts instead of what its node had told, if it had settled more by it.
func TestEdgesOfWhatWasLetOut(t *testing.T) {
	at := func(from int, g int, value int) impl.Word {
		return impl.Word{Kind: 7, From: from, G: g, Outs: []impl.Out{{Time: 1, Proc: from, Value: value}}}
	}
	for i, c := range []struct {
		before []impl.Word
		w      impl.Word
		after  []impl.Word
	}{
		{nil, at(1, 0, 5), []impl.Word{at(1, 0, 5)}},
		{nil, at(2, 41, 5), []impl.Word{at(2, 41, 5)}},
		{[]impl.Word{at(2, 3, 1)}, at(1, 2, 5), []impl.Word{at(1, 2, 5), at(2, 3, 1)}},
		{[]impl.Word{at(1, 3, 1)}, at(2, 0, 5), []impl.Word{at(1, 3, 1), at(2, 0, 5)}},
		{[]impl.Word{at(1, 3, 1)}, at(1, 3, 5), []impl.Word{at(1, 3, 1)}},
		{[]impl.Word{at(1, 3, 1)}, at(1, 2, 5), []impl.Word{at(1, 3, 1)}},
		{[]impl.Word{at(1, 3, 1)}, at(1, 4, 5), []impl.Word{at(1, 4, 5)}},
		{[]impl.Word{at(1, 3, 1), at(2, 3, 1)}, at(2, 4, 5), []impl.Word{at(1, 3, 1), at(2, 4, 5)}},
		{[]impl.Word{at(1, 0, 1)}, at(1, 0, 5), []impl.Word{at(1, 0, 1)}},
		{[]impl.Word{at(1, 40, 1)}, at(1, 41, 5), []impl.Word{at(1, 41, 5)}},
	} {
		for _, round := range []int{0, 4, 9999} {
			old := fullHub()
			old.Outs, c.w.Round, c.w.Inc = c.before, round, round
			h, n, words := impl.HubHear(old, leader(), c.w)
			want := fullHub()
			want.Outs = cloneWords(c.after)
			for at := range want.Outs {
				if want.Outs[at].From == c.w.From && want.Outs[at].G == c.w.G && want.Outs[at].Outs[0] == c.w.Outs[0] {
					want.Outs[at] = c.w
				}
			}
			if !sameHub(h, want) || !sameNode(n, leader()) || len(words) != 0 {
				t.Error(i, round, h, words)
			}
		}
	}
}

// Promise 50.
func TestOnlyTheNode0MakesRounds(t *testing.T) {
	d := dice(263)
	for _, s := range spots() {
		if s.n.Id == 0 && s.n.Up {
			continue
		}
		h := d.anyHub(s.n)
		w := d.answerTo(h)
		begun, n, words := impl.HubBegin(h, s.n)
		if !sameHub(begun, h) || !sameNode(n, s.n) || len(words) != 0 {
			t.Fatal("it begins a round", s.n, begun, n, words)
		}
		heard, n, words := impl.HubHear(h, s.n, w)
		if !sameHub(heard, h) || !sameNode(n, s.n) || len(words) != 0 {
			t.Fatal("it hears an answer", s.n, w, heard, n, words)
		}
		if outs := impl.HubOuts(h, s.n); s.n.Id > 0 && len(outs) > 0 {
			t.Fatal("it lets something out", s.n, outs)
		}
	}
}

// Promise 50: what the node 0 does something by, another one, or one that is down, does nothing by.
func TestWhoElseMakesNoRounds(t *testing.T) {
	down := leader()
	down.Up = false
	for _, n := range []impl.Node{down, impl.NodeFall(leader()), impl.NodeStart(1), impl.NodeStart(2), plainNode(1), plainNode(2)} {
		for i, c := range waiting() {
			if h, x, _ := impl.HubHear(c.h, leader(), c.w); sameHub(h, c.h) || !impl.NodeOk(x) {
				t.Fatal("the node 0 does nothing by that", i)
			}
			if h, x, words := impl.HubHear(c.h, n, c.w); !sameHub(h, c.h) || !sameNode(x, n) || len(words) != 0 {
				t.Error("it hears", i, n, h, words)
			}
		}
		if h, x, words := impl.HubBegin(fullHub(), n); !sameHub(h, fullHub()) || !sameNode(x, n) || len(words) != 0 {
			t.Error("it begins", n, h, words)
		}
	}
}

// Promise 51.
func TestWhatMayBeLetOut(t *testing.T) {
	let, held := 0, 0
	for _, s := range hubSpots() {
		got := impl.HubOuts(s.h, s.n)
		if !slices.Equal(got, hubOutsByHand(s.h, s.n)) {
			t.Fatal(s, got)
		}
		for i, o := range got {
			if o.Time >= s.n.G || o.Time >= s.h.Outs[0].G || o.Time >= s.h.Outs[1].G || i > 0 && compareOuts(got[i-1], o) > 0 {
				t.Fatal("not settled by all, or not in order", s, got)
			}
		}
		let += len(got)
		held += count(len(got) == 0 && len(s.h.Outs) == 2)
	}
	if let < 500 || held < 100 {
		t.Error("too little", let, held)
	}
}

// Promise 51: the least time up to which anybody has settled counts, whose ever it is; what is just at it waits.
func TestEdgesOfHubOuts(t *testing.T) {
	outs := func(proc int) []impl.Out {
		var list []impl.Out
		for time := range 6 {
			list = append(list, impl.Out{Time: time, Proc: proc, Value: time})
		}
		return list
	}
	for _, c := range []struct{ own, one, two, want int }{
		{6, 6, 6, 6}, {6, 6, 7, 6}, {41, 41, 41, 6}, {6, 6, 5, 5}, {6, 5, 6, 5}, {6, 1, 6, 1}, {6, 6, 0, 0}, {6, 0, 41, 0}, {6, 4, 3, 3},
	} {
		n := impl.NodeStart(0)
		n.G, n.Outs = c.own, outs(0)
		h := impl.Hub{Outs: []impl.Word{{Kind: 7, From: 1, G: c.one, Outs: outs(1)}, {Kind: 7, From: 2, G: c.two, Outs: outs(2)}}}
		got := impl.HubOuts(h, n)
		if len(got) != 3*c.want {
			t.Error(c, got)
		}
		for i, o := range got {
			if o != (impl.Out{Time: i / 3, Proc: i % 3, Value: i / 3}) {
				t.Error(c, got)
			}
		}
		n.G, n.Outs = min(c.own, 2), outs(0)[:2]
		if got := impl.HubOuts(h, n); len(got) != 3*min(2, c.want) {
			t.Error("the node's own", c, got)
		}
		n.Up = false
		if got := impl.HubOuts(h, n); len(got) != 3*min(2, c.want) {
			t.Error("whether it is up is not asked", c, got)
		}
	}
}

// Promise 51: nothing without what all others have let out, also if that is nothing; what is the same stays as often as it is there.
func TestWhoMustHaveLetOut(t *testing.T) {
	n := impl.NodeStart(0)
	n.G, n.Outs = 5, []impl.Out{{Time: 2, Value: 4}}
	one, two := impl.Word{Kind: 7, From: 1, G: 5}, impl.Word{Kind: 7, From: 2, G: 5}
	for i, c := range []struct {
		outs []impl.Word
		want int
	}{{nil, 0}, {[]impl.Word{one}, 0}, {[]impl.Word{two}, 0}, {[]impl.Word{one, two}, 1}, {[]impl.Word{{Kind: 7, G: 5}, one}, 0}, {[]impl.Word{{Kind: 7, G: 5}, two}, 0}} {
		if got := impl.HubOuts(impl.Hub{Outs: c.outs}, n); len(got) != c.want {
			t.Error(i, got)
		}
	}
	one.Outs, two.Outs = n.Outs, n.Outs
	if got := impl.HubOuts(impl.Hub{Outs: []impl.Word{one, two}}, n); !slices.Equal(got, []impl.Out{n.Outs[0], n.Outs[0], n.Outs[0]}) {
		t.Error(got)
	}
	n.Outs = nil
	if got := impl.HubOuts(impl.Hub{Outs: []impl.Word{{Kind: 7, From: 1, G: 5}, {Kind: 7, From: 2, G: 5}}}, n); len(got) != 0 {
		t.Error("nobody let out anything", got)
	}
}

// checkRun holds what is settled, and what may be let out, against one machine.
func checkRun(t *testing.T, r *roundRun, sink []impl.Out) []impl.Out {
	t.Helper()
	for _, n := range r.nodes {
		sim := impl.SimRun(r.apps, n.G)
		for _, l := range n.Lanes {
			if l.Base != sim.States[l.Proc] {
				t.Fatal("settled wrongly", impl.AppWrite(r.apps), n)
			}
		}
	}
	outs := impl.HubOuts(r.hub, r.nodes[0])
	least := min(len(outs), len(sink))
	if !slices.Equal(outs[:least], sink[:least]) || !slices.IsSortedFunc(outs, compareOuts) {
		t.Fatal("what was let out is another one then", impl.AppWrite(r.apps), sink, outs)
	}
	if len(outs) > len(sink) {
		sink = outs
	}
	all := impl.SimRun(r.apps, 41).Outs
	if len(sink) > len(all) || !slices.Equal(sink, all[:len(sink)]) {
		t.Fatal("no beginning of what one machine lets out", impl.AppWrite(r.apps), sink, all)
	}
	return sink
}

// Promises 46 to 51: whatever is lost, doubled and late, and whoever falls, rounds settle what one machine does, and in the end all of it.
func TestRoundsSettleWhatOneMachineDoes(t *testing.T) {
	d := dice(264)
	let, early := 0, 0
	for i := range 40 {
		r := d.newRoundRun(i, byProgram())
		var sink []impl.Out
		led := 0
		for range 120 {
			r.happens(&d)
			sink = checkRun(t, r, sink)
			if r.nodes[0].Led < led || r.hub.Round > r.nodes[0].Led {
				t.Fatal("a number of a round comes again", r.hub, r.nodes[0])
			}
			led = r.nodes[0].Led
		}
		early += len(sink)
		for range 12 {
			r.calm()
			r.begins()
			r.bringAll()
			r.allWork()
			sink = checkRun(t, r, sink)
		}
		for _, n := range r.nodes {
			if n.G != 41 {
				t.Fatal("not all is settled", impl.AppWrite(r.apps), n)
			}
		}
		if all := impl.SimRun(r.apps, 41).Outs; !slices.Equal(sink, all) {
			t.Fatal("not all is let out", impl.AppWrite(r.apps), sink, all)
		}
		let += len(sink)
	}
	if let < 500 || early < 100 {
		t.Error("too little", let, early)
	}
}
