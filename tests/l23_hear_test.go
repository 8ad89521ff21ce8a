package tests

import (
	"math"
	"slices"
	"testing"

	"loop.example/slackwater/impl"
)

// touched is the first time, from G on, of what only one of two lists has; 41 if there is none.
func touched(before []impl.Event, after []impl.Event, g int) int {
	for time := g; time < 41; time++ {
		at := func(e impl.Event) bool { return e.Time == time }
		if !slices.Equal(those(before, at), those(after, at)) {
			return time
		}
	}
	return 41
}

// Promise 39.
func TestNobodySettlesWhatWasTouchedSinceItAnswered(t *testing.T) {
	d := dice(254)
	changes, settled := 0, 0
	for _, s := range spots() {
		n, _, ok := impl.NodeReport(s.n, s.n.Round+1)
		if !ok {
			continue
		}
		w := d.toldTo(n)
		x, _ := impl.NodeHear(n, impl.Word{Kind: impl.WordTells, From: w.from, To: n.Id, Inc: w.inc, Version: w.version, G: w.g, Events: w.events})
		time := touched(n.Views[w.from].Events, x.Views[w.from].Events, n.G)
		// What is done behind the answer does not make up for it.
		x = doAllOf(s.apps, x)
		for _, g := range []int{min(41, x.G+1), time, min(41, time+1), d.upTo(41), 41} {
			got, ok := impl.NodeSettle(x, x.Round, g)
			byWord, _ := impl.NodeHear(x, impl.Word{Kind: impl.WordDone, From: (x.Id + 1) % 3, To: x.Id, Inc: x.Inc, Round: x.Round, G: g})
			if !sameNode(byWord, got) {
				t.Fatal("the end of the round settles something else", x, g, byWord)
			}
			if g > time && (ok || !sameNode(got, x)) {
				t.Fatal("settled what was touched", n, w, time, g)
			}
			settled += count(ok)
		}
		changes += count(time < 41)
	}
	if changes < 1000 || settled < 3000 {
		t.Error("too few", changes, settled)
	}
}

// Promise 39: just at the time and one later; what is told and taken back; what an answer to the next round makes good.
func TestEdgesOfWhatWasTouched(t *testing.T) {
	at := func(times ...int) []impl.Event {
		var list []impl.Event
		for _, time := range times {
			list = append(list, impl.Event{Time: time, To: 1, From: 0})
		}
		return list
	}
	apps := withRules()
	tells := func(version int, list []impl.Event) impl.Word {
		return impl.Word{Kind: impl.WordTells, From: 0, To: 1, Inc: 1, Version: version, Events: list}
	}
	begin := doAllOf(apps, impl.NodeView(impl.NodeStart(1), 0, 1, 3, 0, at(5, 8)))
	begin, _, _ = impl.NodeReport(begin, 2)
	for i, c := range []struct {
		words []impl.Word
		most  int
	}{
		{most: 41},
		{words: []impl.Word{tells(4, at(5, 8))}, most: 41},
		{words: []impl.Word{tells(3, nil)}, most: 41},
		{words: []impl.Word{tells(4, at(5, 7, 8))}, most: 7},
		{words: []impl.Word{tells(4, at(0, 5, 8))}, most: 0},
		{words: []impl.Word{tells(4, at(5, 8, 40))}, most: 40},
		{words: []impl.Word{tells(4, at(8))}, most: 5},
		{words: []impl.Word{tells(4, nil), tells(5, at(5, 8))}, most: 5},
		{words: []impl.Word{tells(4, at(5, 8, 12)), tells(5, at(5, 8, 11))}, most: 11},
		{words: []impl.Word{tells(4, at(5, 6, 8)), tells(5, at(5, 8, 11))}, most: 6},
		{words: []impl.Word{tells(4, at(5, 6, 8)), {Kind: impl.WordAsk, To: 1, Round: 2}}, most: 6},
	} {
		n := begin
		for _, w := range c.words {
			n, _ = impl.NodeHear(n, w)
		}
		n = doAllOf(apps, n)
		next, _, _ := impl.NodeReport(n, 3)
		for g := range 42 {
			got, ok := impl.NodeSettle(n, 2, g)
			if ok != (g >= 1 && g <= c.most) || ok && got.G != g {
				t.Error(i, g, ok)
			}
			if _, ok := impl.NodeSettle(next, 3, g); ok != (g >= 1) {
				t.Error("behind the next answer", i, g, ok)
			}
		}
	}
}

// Promise 43.
func TestNothingThatANodeHearsSpoilsIt(t *testing.T) {
	d := dice(255)
	var changed, spoke [8]int
	for _, s := range spots() {
		n := s.n
		for range 6 {
			w := d.wordTo(n)
			got, words := impl.NodeHear(n, w)
			want, wantWords := hearByHand(n, w)
			if !sameNode(got, want) || !sameWords(words, wantWords) {
				t.Fatal(n, w, got, words)
			}
			if !impl.NodeOk(got) || got.Id != n.Id || got.Up != n.Up || got.Inc != n.Inc || got.Led != n.Led || got.G < n.G || got.Round < n.Round {
				t.Fatal("spoiled, or another one", n, w, got)
			}
			for _, o := range n.Outs {
				if !slices.Contains(got.Outs, o) {
					t.Fatal("what was let out is no more", n, w, got)
				}
			}
			if w.Kind != impl.WordDone && !keepsTheSame(got, n) {
				t.Fatal("settled by another word than the end of a round", n, w, got)
			}
			for _, a := range words {
				if !impl.WordOk(a) || a.From != n.Id || a.To != 0 || a.Inc != n.Inc || a.Round != got.Round {
					t.Fatal("its word is not ok, or not its own", n, w, a)
				}
			}
			if !impl.WordOk(w) || w.To != n.Id || w.From == n.Id || !n.Up {
				w.Kind = 0
			}
			changed[max(0, w.Kind)] += count(!sameNode(got, n))
			spoke[max(0, w.Kind)] += len(words)
			n = got
		}
	}
	if changed[0]+changed[3]+changed[4]+changed[5]+changed[7] > 0 || changed[1] < 1000 || changed[2] < 1000 || changed[6] < 300 {
		t.Error("changed by each kind", changed)
	}
	if spoke[2] < 1000 || spoke[4] < 1000 || spoke[0]+spoke[1]+spoke[3]+spoke[5]+spoke[6]+spoke[7] > 0 {
		t.Error("spoken by each kind", spoke)
	}
}

// listener can do something with a word of each kind that a node does something with.
func listener(t *testing.T) impl.Node {
	t.Helper()
	n := settler(t)
	n.Inc, n.Version = 3, 6
	return n
}

// wordsFor are a word of each kind, by which the listener does something if it is one that it hears.
func wordsFor() []impl.Word {
	e := impl.Event{Time: 7, To: 1, From: 0}
	return []impl.Word{
		{Kind: impl.WordTells, To: 1, Inc: 1, Version: 2, G: 1, Events: []impl.Event{e}},
		{Kind: impl.WordAsk, To: 1, Round: 5},
		{Kind: impl.WordMore, To: 1, Round: 4},
		{Kind: impl.WordDone, To: 1, Inc: 3, Round: 4, G: 6},
		{Kind: impl.WordOne, To: 1, Inc: 3, Round: 5, G: 6, Incs: []int{1, 1, 1}, Versions: []int{1, 1, 1}},
		{Kind: impl.WordTwo, To: 1, Inc: 3, Round: 4, Version: 6},
		{Kind: impl.WordOuts, To: 1, G: 6, Outs: []impl.Out{{Time: 4, Proc: 1, Count: 1, Value: 7}}},
	}
}

// Promise 43: what each kind does; what a word has beside that counts for nothing.
func TestWhatEachWordDoes(t *testing.T) {
	n := listener(t)
	one := impl.Word{Kind: 3, From: 1, Inc: 3, Round: 5, G: 9, Incs: []int{1, 0, 0}, Versions: []int{1, 0, 0}}
	two := impl.Word{Kind: 5, From: 1, Inc: 3, Version: 6, Round: 4}
	settled, ok := impl.NodeSettle(n, 4, 6)
	if !ok {
		t.Fatal(settled)
	}
	heard := impl.NodeView(n, 0, 1, 2, 1, wordsFor()[0].Events)
	if sameNode(heard, n) {
		t.Fatal(heard)
	}
	want := []struct {
		n     impl.Node
		words []impl.Word
	}{{n: heard}, {n: answered(n, 5), words: []impl.Word{one}}, {n: n, words: []impl.Word{two}}, {n: settled}, {n: n}, {n: n}, {n: n}}
	for i, w := range wordsFor() {
		if got, words := impl.NodeHear(n, w); !sameNode(got, want[i].n) || !sameWords(words, want[i].words) {
			t.Error(w.Kind, got, words)
		}
		full := cloneWord(w)
		full.Incs, full.Versions, full.Outs = []int{7, 8, 9}, []int{9, 8, 7}, outsAt(96, 2)
		if w.Kind != impl.WordTells {
			full.Version, full.Events = 9999, manyEvents(100, 3)
		}
		if w.Kind == impl.WordAsk || w.Kind == impl.WordMore {
			full.Inc, full.G = 9999, 41
		}
		if w.Kind == impl.WordTells {
			full.Round = 9999
		}
		if got, words := impl.NodeHear(n, full); !sameNode(got, want[i].n) || !sameWords(words, want[i].words) {
			t.Error("with more than it needs", w.Kind, got, words)
		}
	}
}

// Promise 43: a word that is not ok, is for another one, or is from the node itself is not heard, whatever it says.
func TestWhomAWordIsNotFor(t *testing.T) {
	n := listener(t)
	for _, w := range wordsFor() {
		list := wrongWords(w)
		for _, c := range []struct{ from, to int }{{0, 0}, {0, 2}, {2, 0}, {2, 2}, {1, 1}, {1, 0}, {1, 2}} {
			x := w
			x.From, x.To = c.from, c.to
			list = append(list, x)
		}
		for i, x := range list {
			if got, words := impl.NodeHear(n, x); !sameNode(got, n) || len(words) != 0 {
				t.Errorf("kind %d, word %d %v is heard: %v %v", w.Kind, i, x, got, words)
			}
		}
	}
	if got, words := impl.NodeHear(n, impl.Word{}); !sameNode(got, n) || len(words) != 0 {
		t.Error("nothing is heard", got, words)
	}
}

// Promise 43: from whom a word is does not matter, but for what is told; all answers are to the node 0.
func TestFromWhomAWordIs(t *testing.T) {
	n := listener(t)
	for _, w := range wordsFor() {
		got, words := impl.NodeHear(n, w)
		w.From = 2
		if w.Kind == impl.WordTells {
			if x, _ := impl.NodeHear(n, w); !sameNode(x, n) {
				t.Error("what the node 0 sent is told by another one", x)
			}
			continue
		}
		if x, others := impl.NodeHear(n, w); !sameNode(x, got) || !sameWords(others, words) {
			t.Error(w.Kind, x, others)
		}
	}
	zero := answered(impl.NodeStart(0), 2)
	if x, words := impl.NodeHear(zero, impl.Word{Kind: impl.WordAsk, From: 1, Round: 3}); x.Round != 3 || len(words) != 1 || words[0].From != 0 || words[0].To != 0 {
		t.Error("the node 0 is asked", x, words)
	}
	if _, words := impl.NodeHear(zero, impl.Word{Kind: impl.WordMore, From: 2, Round: 2}); len(words) != 1 || words[0].From != 0 || words[0].To != 0 {
		t.Error("the node 0 is asked for more", words)
	}
}

// Promises 42, 43: which rounds a node answers, first and then.
func TestRoundsThatWereAnswered(t *testing.T) {
	for _, c := range []struct {
		last, round int
		one, two    bool
	}{
		{0, 0, false, false}, {0, 1, true, false}, {0, 9999, true, false},
		{1, 0, false, false}, {1, 1, false, true}, {1, 2, true, false},
		{5, 4, false, false}, {5, 5, false, true}, {5, 6, true, false}, {5, 9999, true, false},
		{9999, 9999, false, true}, {9999, 9998, false, false}, {9999, 0, false, false},
		{9998, 9999, true, false},
	} {
		n := plainNode(2)
		n.Round = c.last
		x, ones := impl.NodeHear(n, impl.Word{Kind: impl.WordAsk, To: 2, Round: c.round})
		if (len(ones) == 1) != c.one || len(ones) > 1 || c.one && (x.Round != c.round || ones[0].Kind != 3) || !c.one && !sameNode(x, n) {
			t.Error(c, x, ones)
		}
		if again, words := impl.NodeHear(x, impl.Word{Kind: impl.WordAsk, To: 2, Round: c.round}); !sameNode(again, x) || len(words) != 0 {
			t.Error("asked twice", c, again, words)
		}
		y, twos := impl.NodeHear(n, impl.Word{Kind: impl.WordMore, To: 2, Round: c.round})
		if !sameNode(y, n) || (len(twos) == 1) != c.two || len(twos) > 1 || c.two && twos[0].Round != c.round {
			t.Error("for more", c, y, twos)
		}
		if _, again := impl.NodeHear(y, impl.Word{Kind: impl.WordMore, To: 2, Round: c.round}); !sameWords(again, twos) {
			t.Error("asked for more twice", c, again)
		}
	}
}

// Promise 43: the second answer tells the number of now, not the one of the first answer.
func TestTheSecondAnswerIsAsOfNow(t *testing.T) {
	apps := mustRead(t, "proc\nproc\nrule 0\nsend 2 0 3 x\nproc\nproc\n")
	n, _, _ := impl.NodeReport(impl.NodeStart(1), 7)
	more := impl.Word{Kind: impl.WordMore, To: 1, Round: 7}
	for version := 1; version <= 2; version++ {
		want := impl.Word{Kind: 5, From: 1, Inc: 1, Version: version, Round: 7}
		if _, words := impl.NodeHear(n, more); !sameWords(words, []impl.Word{want}) {
			t.Error(version, words)
		}
		n, _ = impl.NodeStep(apps, n, 1)
	}
}

// Promise 44.
func TestANodeThatIsDownDoesNothing(t *testing.T) {
	d := dice(256)
	for _, s := range spots() {
		// The first is as if it had not yet forgotten: there is all that it could do something with.
		ready := answered(s.n, 2)
		ready.Up = false
		for _, n := range []impl.Node{ready, impl.NodeFall(s.n)} {
			if len(impl.NodeTend(n)) != 0 {
				t.Fatal("it tells", n)
			}
			for proc := range 4 {
				if got, ok := impl.NodeStep(s.apps, n, proc); ok || !sameNode(got, n) {
					t.Fatal("it steps", n, got)
				}
			}
			for _, round := range []int{n.Round, n.Round + 1, 9999} {
				if got, one, ok := impl.NodeReport(n, round); ok || !isNoWord(one) || !sameNode(got, n) {
					t.Fatal("it answers", n, got, one)
				}
			}
			for _, g := range []int{n.G + 1, minByHand(n), 41} {
				if got, ok := impl.NodeSettle(n, n.Round, g); ok || !sameNode(got, n) {
					t.Fatal("it settles", n, got)
				}
			}
			for range 4 {
				w := d.wordTo(n)
				if got, words := impl.NodeHear(n, w); !sameNode(got, n) || len(words) != 0 {
					t.Fatal("it hears", n, w, got, words)
				}
			}
		}
	}
}

// Promise 44: none of the words that the listener does something with when it is up.
func TestWhatAListenerThatIsDownHears(t *testing.T) {
	n := listener(t)
	n.Up = false
	for _, w := range wordsFor() {
		if got, words := impl.NodeHear(n, w); !sameNode(got, n) || len(words) != 0 {
			t.Error(w.Kind, got, words)
		}
	}
}

// Promise 45.
func TestTheEndOfARoundOfAnotherLife(t *testing.T) {
	settled := 0
	for _, s := range spots() {
		n, one, ok := impl.NodeReport(s.n, s.n.Round+1)
		if !ok || n.Inc == mostNumber {
			continue
		}
		rose := impl.NodeRise(impl.NodeFall(n))
		again, two, ok := impl.NodeReport(rose, one.Round)
		if !ok || two.Inc != one.Inc+1 {
			t.Fatal("it does not answer in its next life", rose, two)
		}
		for _, g := range []int{n.G + 1, one.G, two.G, 41} {
			done := impl.Word{Kind: impl.WordDone, From: (n.Id + 1) % 3, To: n.Id, Inc: one.Inc, Round: one.Round, G: g}
			for _, x := range []impl.Node{rose, again} {
				if got, words := impl.NodeHear(x, done); !sameNode(got, x) || len(words) != 0 {
					t.Fatal("the end of a round of another life", x, done, got)
				}
			}
			done.Inc = two.Inc
			if got, words := impl.NodeHear(rose, done); !sameNode(got, rose) || len(words) != 0 {
				t.Fatal("it answered none in this life", rose, done, got)
			}
			got, _ := impl.NodeHear(again, done)
			if want, _ := settleNodeByHand(again, two.Round, g); !sameNode(got, want) {
				t.Fatal("the end of a round of this life", again, done, got)
			}
			settled += count(got.G == g && g > n.G)
			if got, _ := impl.NodeHear(n, done); !sameNode(got, n) {
				t.Fatal("of a life that is still to come", n, done, got)
			}
		}
	}
	if settled < 1000 {
		t.Error("too few", settled)
	}
}

// Promise 45: one thing of the end of a round being another, nothing is settled.
func TestEdgesOfTheEndOfARound(t *testing.T) {
	n := listener(t)
	for i, c := range []struct {
		inc, round, g int
		ok            bool
	}{
		{3, 4, 1, true}, {3, 4, 6, true}, {3, 4, 9, true}, {3, 4, 10, false}, {3, 4, 0, false}, {3, 4, 41, false},
		{2, 4, 6, false}, {4, 4, 6, false}, {0, 4, 6, false}, {1, 4, 6, false}, {9999, 4, 6, false},
		{3, 3, 6, false}, {3, 5, 6, false}, {3, 0, 6, false}, {3, 9999, 6, false},
	} {
		got, words := impl.NodeHear(n, impl.Word{Kind: impl.WordDone, To: 1, Inc: c.inc, Round: c.round, G: c.g})
		if len(words) != 0 || (got.G == c.g && c.g > 0) != c.ok || !c.ok && !sameNode(got, n) {
			t.Error(i, got, words)
		}
		if again, _ := impl.NodeHear(got, impl.Word{Kind: impl.WordDone, To: 1, Inc: c.inc, Round: c.round, G: c.g}); !sameNode(again, got) {
			t.Error("it ends twice", i, again)
		}
	}
	for _, inc := range []int{-3, math.MinInt} {
		if got, _ := impl.NodeHear(n, impl.Word{Kind: impl.WordDone, To: 1, Inc: inc, Round: 4, G: 6}); !sameNode(got, n) {
			t.Error(inc, got)
		}
	}
}

// bringAll lets all words be heard, and all that is told by that which is for a node; what is for rounds is handed back.
func bringAll(nodes []impl.Node, words []impl.Word) []impl.Word {
	var answers []impl.Word
	for ; len(words) > 0; words = words[1:] {
		w := words[0]
		if w.Kind == impl.WordOne || w.Kind == impl.WordTwo || w.Kind == impl.WordOuts {
			answers = append(answers, w)
			continue
		}
		next, more := impl.NodeHear(nodes[w.To], w)
		nodes[w.To] = next
		words = append(words, more...)
	}
	return answers
}

// workAll lets all do and tell all, until nobody does anything by it.
func workAll(apps []impl.App, nodes []impl.Node) {
	for before := []impl.Node(nil); !slices.EqualFunc(before, nodes, sameNode); {
		before = slices.Clone(nodes)
		for id := range nodes {
			nodes[id] = doAllOf(apps, nodes[id])
			bringAll(nodes, impl.NodeTend(nodes[id]))
		}
	}
}

// askAll is a round of which nothing is lost: its first answers, those of the node 0 being the first.
func askAll(nodes []impl.Node, round int) []impl.Word {
	next, one, _ := impl.NodeReport(nodes[0], round)
	nodes[0] = next
	return append([]impl.Word{one}, bringAll(nodes, []impl.Word{{Kind: impl.WordAsk, To: 1, Round: round}, {Kind: impl.WordAsk, To: 2, Round: round}})...)
}

// Promises 39 to 45: by words alone all is settled as one machine does it; what a node did not hear of keeps it from settling.
func TestARoundByWords(t *testing.T) {
	d := dice(257)
	let, kept := 0, 0
	for i := range 40 {
		apps := d.simApps(i)
		nodes := []impl.Node{impl.NodeStart(0), impl.NodeStart(1), impl.NodeStart(2)}
		for range d.upTo(30) {
			proc := d.upTo(3)
			nodes[proc%3], _ = impl.NodeStep(apps, nodes[proc%3], proc)
			bringAll(nodes, impl.NodeTend(nodes[d.upTo(2)])[:d.upTo(2)])
		}
		// What comes behind the answers, and is no more than before, keeps from settling what it touches.
		ones := askAll(nodes, 1)
		answers := slices.Clone(nodes)
		workAll(apps, nodes)
		for id, n := range nodes {
			first := 41
			for from, v := range n.Views {
				first = min(first, touched(answers[id].Views[from].Events, v.Events, n.G))
			}
			got, _ := impl.NodeHear(n, impl.Word{Kind: impl.WordDone, From: (id + 1) % 3, To: id, Inc: ones[id].Inc, Round: 1, G: min(41, first+1)})
			if first < 41 && got.G != n.G {
				t.Fatal("settled what was touched", impl.AppWrite(apps), n, first)
			}
			kept += count(first < 41)
		}
		ones = askAll(nodes, 2)
		twos := bringAll(nodes, []impl.Word{{Kind: impl.WordMore, To: 1, Round: 2}, {Kind: impl.WordMore, To: 2, Round: 2}})
		if len(ones) != 3 || len(twos) != 2 || ones[0].G != 41 || ones[1].G != 41 || ones[2].G != 41 {
			t.Fatal("not all is done", impl.AppWrite(apps), ones, twos)
		}
		for _, two := range twos {
			for _, one := range ones {
				if one.From != two.From && (one.Incs[two.From] != two.Inc || one.Versions[two.From] != two.Version) {
					t.Fatal("not all is heard", impl.AppWrite(apps), one, two)
				}
			}
			bringAll(nodes, []impl.Word{{Kind: impl.WordDone, To: two.From, Inc: two.Inc, Round: 2, G: 41}})
		}
		nodes[0], _ = impl.NodeSettle(nodes[0], 2, 41)
		let += checkAllSettled(t, apps, nodes)
	}
	if let < 500 || kept < 30 {
		t.Error("too little", let, kept)
	}
}

// checkAllSettled holds what all have let out, as far as words tell it, against one machine.
func checkAllSettled(t *testing.T, apps []impl.App, nodes []impl.Node) int {
	t.Helper()
	outs := slices.Clone(nodes[0].Outs)
	for id, n := range nodes {
		if n.G != 41 {
			t.Fatal("not settled", impl.AppWrite(apps), n)
		}
		for _, w := range impl.NodeTend(n) {
			if w.Kind == impl.WordOuts {
				outs = append(outs, w.Outs...)
			}
		}
		if id == 0 && len(impl.NodeTend(n)) != 2 {
			t.Fatal("the node 0 tells itself", n)
		}
	}
	if sim := impl.SimRun(apps, 41); !slices.Equal(outsByHand(outs), sim.Outs) {
		t.Fatal("let out wrongly", impl.AppWrite(apps), outs)
	}
	return len(outs)
}
