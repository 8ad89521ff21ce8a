package tests

import (
	"slices"
	"testing"

	"loop.example/slackwater/impl"
)

// Promises 41 to 44: a node that is not ok tells nothing, answers nothing, and nothing comes of what it hears.
func TestWrongNodesTellNothing(t *testing.T) {
	for id := range 3 {
		for i, do := range wrongings() {
			for _, up := range []bool{true, false} {
				n := cloneNode(plainNode(id))
				n.Up = up
				do(&n)
				checkSilent(t, n, id, i)
			}
		}
	}
	checkSilent(t, impl.Node{}, 0, -1)
	checkSilent(t, impl.Node{Up: true, Inc: 1, Views: make([]impl.View, 3), Known: make([]int, 3)}, 0, -2)
}

func checkSilent(t *testing.T, n impl.Node, id int, i int) {
	t.Helper()
	if words := impl.NodeTend(n); len(words) != 0 {
		t.Errorf("node %d, thing %d: it tells: %v", id, i, words)
	}
	for _, round := range []int{0, 3, 4, 9999, 10000} {
		if got, one, ok := impl.NodeReport(n, round); ok || !isNoNode(got) || !isNoWord(one) {
			t.Errorf("node %d, thing %d: it answers: %v %v", id, i, got, one)
		}
	}
	for kind := range 9 {
		for to := range 3 {
			w := impl.Word{Kind: kind, From: (id + 1) % 3, To: to, Inc: 1, Version: 9, Round: 3 + count(kind == 2), G: 3}
			if got, words := impl.NodeHear(n, w); !isNoNode(got) || len(words) != 0 {
				t.Errorf("node %d, thing %d: it hears %v: %v %v", id, i, w, got, words)
			}
		}
	}
}

func wordParts(w impl.Word) []part {
	same := func(a int, b int) bool { return a == b }
	return []part{partOf(w.Incs, -9, same), partOf(w.Versions, -9, same), eventsPart(w.Events), outsPart(w.Outs)}
}

func wordsParts(words []impl.Word) []part {
	parts := []part{partOf(words, impl.Word{Kind: -9}, func(a impl.Word, b impl.Word) bool { return a.Kind == b.Kind && a.To == b.To })}
	for _, w := range words {
		parts = append(parts, wordParts(w)...)
	}
	return parts
}

func roomyWord(w impl.Word) impl.Word {
	w.Incs, w.Versions, w.Events, w.Outs = roomy(w.Incs), roomy(w.Versions), roomy(w.Events), roomy(w.Outs)
	return w
}

// Nothing is written into a node or a word, or behind their ends, and what is answered shares nothing with them.
func TestWordsAreNewMemory(t *testing.T) {
	d := dice(258)
	for i, s := range spots() {
		if i%10 != 0 {
			continue
		}
		n, down, ready := roomyNode(s.n), roomyNode(s.n), roomyNode(answered(s.n, 1))
		down.Up, ready.Up = false, true
		given := slices.Concat(nodeParts(n), nodeParts(down), nodeParts(ready))
		var words []impl.Word
		for range 6 {
			words = append(words, roomyWord(d.wordTo(ready)))
			given = append(given, wordParts(words[len(words)-1])...)
		}
		more := impl.Word{Kind: impl.WordMore, From: (n.Id + 1) % 3, To: n.Id, Round: 1}
		hears := func(n impl.Node, w impl.Word) []part {
			r, words := impl.NodeHear(n, w)
			return append(nodeParts(r), wordsParts(words)...)
		}
		reports := func(n impl.Node, round int) []part {
			r, w, _ := impl.NodeReport(n, round)
			return append(nodeParts(r), wordParts(w)...)
		}
		for k, do := range []func() []part{
			func() []part { return wordsParts(impl.NodeTend(n)) },
			func() []part { return wordsParts(impl.NodeTend(ready)) },
			func() []part { return reports(ready, 2) },
			func() []part { return reports(ready, 1) },
			func() []part { return reports(down, 9999) },
			func() []part { return hears(ready, more) },
			func() []part { return hears(down, more) },
		} {
			checkNew(t, given, do(), k)
		}
		for k, w := range words {
			impl.WordOk(w)
			checkNew(t, given, hears(ready, w), 100+k)
			checkNew(t, given, hears(n, w), 200+k)
		}
	}
}

// looseWord is put together without asking whether it fits.
func (d *dice) looseWord() impl.Word {
	w := impl.Word{Kind: d.anyInt(7), From: d.anyInt(2), To: d.anyInt(2), Inc: d.anyInt(3), Version: d.anyInt(3), Round: d.anyInt(3), G: d.anyInt(41)}
	for range []int{0, 0, 3, 3, d.upTo(4)}[d.upTo(4)] {
		w.Incs = append(w.Incs, d.anyInt(9))
	}
	for range []int{0, 0, 3, 3, d.upTo(4)}[d.upTo(4)] {
		w.Versions = append(w.Versions, d.anyInt(9))
	}
	for time := range d.upTo(2) {
		w.Events = append(w.Events, impl.Event{Time: time, To: d.anyInt(3), From: d.anyInt(3)})
		w.Outs = append(w.Outs, impl.Out{Time: time, Proc: d.anyInt(3), Value: d.anyInt(9)})
	}
	return w
}

// Promises 40 to 45: every function answers, whatever it is given; what is not ok is nothing, and what is ok stays so.
func TestWordsAnswerWhateverTheyAreGiven(t *testing.T) {
	d := dice(259)
	oks, wordOks, heard := 0, 0, 0
	for range 20000 {
		n, w := d.looseNode(), d.looseWord()
		if d.upTo(3) > 0 {
			w.To = n.Id
		}
		ok := okByHand(n)
		if impl.WordOk(w) != wordOkByHand(w) {
			t.Fatal(w)
		}
		got, words := impl.NodeHear(n, w)
		report, one, answers := impl.NodeReport(n, w.Round)
		tends := impl.NodeTend(n)
		if !ok {
			if !isNoNode(got) || !isNoNode(report) || !isNoWord(one) || answers || len(words)+len(tends) != 0 {
				t.Fatal("something of nothing", n, w, got, words, report, one, tends)
			}
			continue
		}
		want, wantWords := hearByHand(n, w)
		if !sameNode(got, want) || !sameWords(words, wantWords) || !sameWords(tends, tendByHand(n)) || !impl.NodeOk(got) {
			t.Fatal(n, w, got, words, tends)
		}
		if want, wantOne, wantOk := reportByHand(n, w.Round); answers != wantOk || !sameNode(report, want) || !sameWord(one, wantOne) {
			t.Fatal(n, w, report, one)
		}
		oks, wordOks = oks+1, wordOks+count(impl.WordOk(w))
		heard += count(len(words) > 0 || !sameNode(got, n))
	}
	if oks < 1000 || wordOks < 500 || heard < 100 {
		t.Error("too few", oks, wordOks, heard)
	}
}
