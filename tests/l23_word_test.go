package tests

import (
	"math"
	"slices"
	"testing"

	"loop.example/slackwater/impl"
)

// farNumbers are out of the bounds of each number of a word.
func farNumbers() []int {
	return []int{-1, 10000, math.MinInt, math.MaxInt}
}

func TestKindsOfWords(t *testing.T) {
	kinds := []int{impl.WordTells, impl.WordAsk, impl.WordOne, impl.WordMore, impl.WordTwo, impl.WordDone, impl.WordOuts}
	if !slices.Equal(kinds, []int{1, 2, 3, 4, 5, 6, 7}) {
		t.Error(kinds)
	}
}

// numbersOf are all numbers of a word, so that each can be made less.
func numbersOf(w *impl.Word) []*int {
	list := []*int{&w.Kind, &w.From, &w.To, &w.Inc, &w.Version, &w.Round, &w.G}
	for i := range w.Incs {
		list = append(list, &w.Incs[i])
	}
	for i := range w.Versions {
		list = append(list, &w.Versions[i])
	}
	return list
}

func fewer[T any](d *dice, list []T) []T {
	return slices.DeleteFunc(slices.Clone(list), func(T) bool { return d.upTo(2) == 0 })
}

// Promise 40.
func TestWhatIsLessThanAnOkWordIsOk(t *testing.T) {
	d := dice(251)
	less, gone := 0, 0
	for range 3000 {
		w := d.anyWord()
		if !impl.WordOk(w) {
			t.Fatal("not ok", w)
		}
		x := cloneWord(w)
		x.Events, x.Outs = fewer(&d, w.Events), fewer(&d, w.Outs)
		for at, n := range numbersOf(&x) {
			if at == 0 {
				*n = d.between(1, *n)
			} else {
				*n = d.upTo(*n)
			}
		}
		if !impl.WordOk(x) {
			t.Fatal("what is less is not ok", w, x)
		}
		less += count(!sameWord(w, x))
		gone += count(len(x.Events) < len(w.Events) && len(x.Outs) < len(w.Outs))
		for at := range numbersOf(&w) {
			y := cloneWord(w)
			*numbersOf(&y)[at] = -1 - d.upTo(3)
			if impl.WordOk(y) {
				t.Fatal("it is ok with a number below 0", y)
			}
		}
	}
	if less < 2000 || gone < 500 {
		t.Error("too few", less, gone)
	}
}

// Promise 40: each limit of a word may be met exactly.
func TestLimitsOfWordsMayBeMet(t *testing.T) {
	last := impl.Event{Time: 40, To: 3, From: 3, Count: 12, N: 3, Kind: 3, Arg: 999}
	most, none := []int{9999, 9999, 9999}, []int{0, 0, 0}
	for i, w := range []impl.Word{
		{Kind: 1}, {Kind: 7},
		{Kind: 7, From: 2, To: 2, Inc: 9999, Version: 9999, Round: 9999, G: 41, Incs: most, Versions: most, Events: manyEvents(100, 40), Outs: manyOuts(96)},
		{Kind: 1, From: 2, To: 0}, {Kind: 2, From: 0, To: 2}, {Kind: 3, From: 0, To: 0},
		{Kind: 4, Incs: none}, {Kind: 4, Versions: none}, {Kind: 5, Incs: none, Versions: most}, {Kind: 6, Incs: []int{}, Versions: []int{}},
		{Kind: 1, Events: []impl.Event{{From: -1}, last}, Outs: []impl.Out{{}, {Time: 40, Proc: 3, Count: 11, N: 1, Value: 999}}},
		{Kind: 2, Events: []impl.Event{}, Outs: []impl.Out{}},
	} {
		if !impl.WordOk(w) {
			t.Error(i, w)
		}
	}
}

// Promise 40: one thing that is wrong is enough, whatever the kind; also with nothing else in the word.
func TestWrongWords(t *testing.T) {
	d := dice(252)
	for kind := 1; kind <= 7; kind++ {
		full := d.anyWord()
		full.Kind = kind
		for _, good := range []impl.Word{full, {Kind: kind}} {
			for i, w := range wrongWords(good) {
				if impl.WordOk(w) || wordOkByHand(w) {
					t.Errorf("word %d of the kind %d is ok: %v", i, kind, w)
				}
			}
		}
	}
	if impl.WordOk(impl.Word{}) {
		t.Error("nothing is a word")
	}
}

// Promise 41.
func TestWhatANodeTellsIsItsOwn(t *testing.T) {
	told, let := 0, 0
	for _, s := range spots() {
		words := impl.NodeTend(s.n)
		if !sameWords(words, tendByHand(s.n)) {
			t.Fatal(s.n, words)
		}
		for _, w := range words {
			if !impl.WordOk(w) || w.From != s.n.Id || w.To == s.n.Id || w.G != s.n.G {
				t.Fatal("not ok, or not its own", s.n, w)
			}
			if w.Kind == impl.WordTells && (w.Inc != s.n.Inc || w.Version != s.n.Version || !slices.Equal(w.Events, impl.NodeTells(s.n, w.To))) {
				t.Fatal("another life, another number, or something else", s.n, w)
			}
			told, let = told+len(w.Events), let+len(w.Outs)
		}
	}
	if told < 3000 || let < 1000 {
		t.Error("too little", told, let)
	}
}

// Promise 41: what each word has, and nothing else.
func TestEdgesOfNodeTend(t *testing.T) {
	a, b, c := impl.Event{Time: 4, To: 0, From: 1}, impl.Event{Time: 5, To: 3, From: 1}, impl.Event{Time: 5, To: 2, From: 1}
	n := impl.NodeStart(1)
	n.Inc, n.G, n.Version, n.Led, n.Round, n.Low = 6, 3, 8, 4, 5, 2
	n.Kept = []impl.Event{a, c, b}
	n.Outs = []impl.Out{{Time: 1, Proc: 1, Value: 7}, {Time: 2, Proc: 1, Count: 1, Value: 9}}
	n.Views[0], n.Known = impl.View{Inc: 3, Version: 4}, []int{5, 0, 5}
	tellsZero := impl.Word{Kind: 1, From: 1, To: 0, Inc: 6, Version: 8, G: 3, Events: []impl.Event{b}}
	tellsTwo := impl.Word{Kind: 1, From: 1, To: 2, Inc: 6, Version: 8, G: 3, Events: []impl.Event{c}}
	outs := impl.Word{Kind: 7, From: 1, To: 0, G: 3, Outs: n.Outs}
	if got := impl.NodeTend(n); !sameWords(got, []impl.Word{tellsZero, tellsTwo, outs}) {
		t.Error(got)
	}
	n.Version, n.Inc = 9999, 9999
	tellsZero.Version, tellsTwo.Version, tellsZero.Inc, tellsTwo.Inc = 9999, 9999, 9999, 9999
	if got := impl.NodeTend(n); !sameWords(got, []impl.Word{tellsZero, tellsTwo, outs}) {
		t.Error("at the last number", got)
	}
	n.Up = false
	if got := impl.NodeTend(n); len(got) != 0 {
		t.Error("it is down", got)
	}
	for id, want := range [][]impl.Word{
		{{Kind: 1, From: 0, To: 1, Inc: 1, Version: 1}, {Kind: 1, From: 0, To: 2, Inc: 1, Version: 1}},
		{{Kind: 1, From: 1, To: 0, Inc: 1, Version: 1}, {Kind: 1, From: 1, To: 2, Inc: 1, Version: 1}, {Kind: 7, From: 1, To: 0}},
		{{Kind: 1, From: 2, To: 0, Inc: 1, Version: 1}, {Kind: 1, From: 2, To: 1, Inc: 1, Version: 1}, {Kind: 7, From: 2, To: 0}},
	} {
		if got := impl.NodeTend(impl.NodeStart(id)); !sameWords(got, want) {
			t.Error("at first", id, got)
		}
	}
}

// Promise 41: as much as there can be; more than a word may have is told as NodeTells says too, in a word that is not ok.
func TestANodeTellsAllThatItSent(t *testing.T) {
	n := impl.NodeStart(1)
	n.G, n.Outs = 4, outsAt(96, 3)
	n.Kept = eventsTo(100, 2, 20)
	got := impl.NodeTend(n)
	if len(got) != 3 || len(got[1].Events) != 100 || len(got[2].Outs) != 96 || !impl.WordOk(got[1]) || !impl.WordOk(got[2]) {
		t.Error("each limit met exactly", got)
	}
	came := impl.Event{Time: 5, To: 1, From: 0}
	n.Views[0].Events = []impl.Event{came}
	n.Lanes[0].Done = []impl.Past{{Event: came, Sends: []impl.Event{{Time: 9, To: 2, From: 1}}}}
	if got = impl.NodeTend(n); !impl.NodeOk(n) || len(got) != 3 || !slices.Equal(got[1].Events, impl.NodeTells(n, 2)) || len(got[1].Events) != 101 || impl.WordOk(got[1]) {
		t.Error("one more", got)
	}
}

// Promise 42.
func TestANodeAnswersEachRoundOnce(t *testing.T) {
	d := dice(253)
	answers, low := 0, 0
	for _, s := range spots() {
		for _, round := range []int{s.n.Round + 1, s.n.Round + 1 + d.upTo(9), 9999, s.n.Round, s.n.Round - 1, d.upTo(9999), 10000} {
			got, one, ok := impl.NodeReport(s.n, round)
			want, wantOne, wantOk := reportByHand(s.n, round)
			if ok != wantOk || !sameNode(got, want) || !sameWord(one, wantOne) {
				t.Fatal(s.n, round, got, one, ok)
			}
			if !impl.NodeOk(got) || !keepsTheSame(got, s.n) || !slices.EqualFunc(got.Lanes, s.n.Lanes, sameLane) || !sameCame(got, s.n) || got.Version != s.n.Version {
				t.Fatal("not ok, or another one by answering", s.n, round, got)
			}
			if !ok {
				continue
			}
			if !impl.WordOk(one) || one.From != s.n.Id || one.Inc != s.n.Inc || one.Round != round || one.G != impl.NodeMin(s.n) {
				t.Fatal("the answer is not ok, or not its own", s.n, one)
			}
			for _, again := range []int{round, round - 1, 1, d.upTo(round)} {
				if x, two, ok := impl.NodeReport(got, again); ok || !sameNode(x, got) || !isNoWord(two) {
					t.Fatal("answered again, or an earlier one behind it", got, again, x, two)
				}
			}
			answers++
			low += count(s.n.Low < got.Low)
		}
	}
	if answers < 5000 || low < 500 {
		t.Error("too few", answers, low)
	}
}

// Promise 42: what the answer has, and which rounds are answered.
func TestEdgesOfNodeReport(t *testing.T) {
	n := plainNode(2)
	n.Inc, n.Views[1], n.Views[2] = 6, impl.View{Inc: 7, Version: 8}, impl.View{Inc: 9, Version: 1}
	want := impl.Word{Kind: 3, From: 2, To: 0, Inc: 6, Round: 4, G: 5, Incs: []int{2, 7, 9}, Versions: []int{2, 8, 1}}
	x, one, ok := impl.NodeReport(n, 4)
	if !ok || !sameWord(one, want) || !sameNode(x, answered(n, 4)) || n.Low == x.Low {
		t.Error(x, one, ok)
	}
	for _, c := range []struct {
		last, round int
		ok          bool
	}{
		{0, 0, false}, {0, -1, false}, {0, 1, true}, {0, 2, true}, {0, 9999, true}, {0, 10000, false},
		{3, 0, false}, {3, 1, false}, {3, 2, false}, {3, 3, false}, {3, 4, true}, {3, 9, true},
		{9998, 9998, false}, {9998, 9999, true}, {9998, 10000, false}, {9999, 9999, false}, {9999, 10000, false}, {9999, 1, false},
		{3, math.MaxInt, false}, {3, math.MinInt, false}, {3, -4, false},
	} {
		n.Round = c.last
		got, one, ok := impl.NodeReport(n, c.round)
		if ok != c.ok || ok && (got.Round != c.round || got.Low != 41 || one.Round != c.round) || !ok && (!sameNode(got, n) || !isNoWord(one)) {
			t.Error(c, got, one, ok)
		}
		down := cloneNode(n)
		down.Up = false
		if got, one, ok := impl.NodeReport(down, c.round); ok || !sameNode(got, down) || !isNoWord(one) {
			t.Error("it is down", c, got, one)
		}
	}
	n.Round, n.Version = 3, 9999
	if _, one, ok := impl.NodeReport(n, 4); !ok || one.Version != 0 || one.G != 5 {
		t.Error("which number it tells by is not asked", one, ok)
	}
}

// Promise 42: the node 0 answers itself; nothing is not done, or nothing was heard, or all is settled.
func TestAnswersOfOtherNodes(t *testing.T) {
	for id := range 3 {
		n := impl.NodeStart(id)
		want := impl.Word{Kind: 3, From: id, Inc: 1, Round: 1, Incs: []int{0, 0, 0}, Versions: []int{0, 0, 0}}
		if _, one, ok := impl.NodeReport(n, 1); !ok || !sameWord(one, want) {
			t.Error("at first", id, one)
		}
		n.Kept, want.G = nil, 41
		if _, one, ok := impl.NodeReport(n, 1); !ok || !sameWord(one, want) {
			t.Error("nothing to do", id, one)
		}
		n.G, n.Kept = 40, []impl.Event{{Time: 40, To: id, From: -1}}
		if _, one, _ := impl.NodeReport(n, 1); one.G != 40 {
			t.Error("at the last time", id, one)
		}
	}
}
