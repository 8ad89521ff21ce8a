package tests

import (
	"bytes"
	"testing"

	"loop.example/slackwater/impl"
)

// Promise 52.
func TestAWordIsReadBackFromItsBytes(t *testing.T) {
	kinds, long, negative := map[int]int{}, 0, 0
	for _, w := range packable() {
		b := impl.WordPack(w)
		if want := packByHand(w); len(want) == 0 || !bytes.Equal(b, want) {
			t.Fatal("other bytes", w, b, want)
		}
		if got, ok := impl.WordUnpack(b); !ok || !sameWord(got, w) {
			t.Fatal("not read back", w, b, got, ok)
		}
		kinds[w.Kind]++
		long += count(len(b) > len(rowOf(w)))
		negative += count(bytes.IndexByte(b, 0) >= 0)
	}
	for kind := 1; kind <= 7; kind++ {
		if kinds[kind] < 100 {
			t.Error("too few", kinds)
		}
	}
	if long < 1000 || negative < 300 {
		t.Error("too few", long, negative)
	}
}

// Promise 52: the bytes of a number, at all places that have it.
func TestBytesOfNumbers(t *testing.T) {
	for _, x := range []struct {
		n    int
		want []byte
	}{
		{0, []byte{1}}, {1, []byte{2}}, {62, []byte{63}}, {63, []byte{64}}, {126, []byte{127}}, {127, []byte{128, 1}}, {128, []byte{129, 1}},
		{254, []byte{255, 1}}, {255, []byte{128, 2}}, {999, []byte{232, 7}}, {1000, []byte{233, 7}}, {8191, []byte{128, 64}}, {9998, []byte{143, 78}}, {9999, []byte{144, 78}},
	} {
		w := impl.Word{Kind: 5, Inc: x.n, Version: x.n, Round: x.n, Incs: []int{x.n, 0, x.n}, Versions: []int{0, x.n, 0}}
		want := bytes.Join([][]byte{{6, 1, 1}, x.want, x.want, x.want, {1, 4}, x.want, {1}, x.want, {4, 1}, x.want, {1, 1, 1}}, nil)
		if got := impl.WordPack(w); !bytes.Equal(got, want) {
			t.Error(x.n, got, want)
		}
		if got, ok := impl.WordUnpack(want); !ok || !sameWord(got, w) {
			t.Error(x.n, got, ok)
		}
	}
	for n := range 10000 {
		w := impl.Word{Kind: 4, Round: n}
		want := []byte{5, 1, 1, 1, 1, byte(n + 1), 1, 1, 1, 1, 1}
		if n > 126 {
			want = []byte{5, 1, 1, 1, 1, byte((n+1)%128 + 128), byte((n + 1) / 128), 1, 1, 1, 1, 1}
		}
		got, ok := impl.WordUnpack(want)
		if !bytes.Equal(impl.WordPack(w), want) || !ok || !sameWord(got, w) {
			t.Fatal(n, impl.WordPack(w), got, ok)
		}
	}
}

// Promise 52: what stands where, each number being another one.
func TestOrderOfBytes(t *testing.T) {
	for i, x := range []struct {
		w    impl.Word
		want []byte
	}{
		{impl.Word{Kind: 1}, []byte{2, 1, 1, 1, 1, 1, 1, 1, 1, 1, 1}},
		{
			impl.Word{Kind: 6, From: 1, To: 2, Inc: 9, Version: 8, Round: 7, G: 41, Incs: []int{10, 11, 12}, Versions: []int{20, 21, 22}},
			[]byte{7, 2, 3, 10, 9, 8, 42, 4, 11, 12, 13, 4, 21, 22, 23, 1, 1},
		},
		{
			impl.Word{Kind: 7, Events: []impl.Event{{From: -1}, {Time: 40, To: 3, From: 2, Count: 12, N: 1, Kind: 0, Arg: 99}}},
			[]byte{8, 1, 1, 1, 1, 1, 1, 1, 1, 3, 1, 1, 0, 1, 1, 1, 1, 41, 4, 3, 13, 2, 1, 100, 1},
		},
		{
			impl.Word{Kind: 7, Outs: []impl.Out{{}, {Time: 40, Proc: 3, Count: 11, N: 1, Value: 99}}},
			[]byte{8, 1, 1, 1, 1, 1, 1, 1, 1, 1, 3, 1, 1, 1, 1, 1, 41, 4, 12, 2, 100},
		},
	} {
		if got := impl.WordPack(x.w); !bytes.Equal(got, x.want) {
			t.Error(i, got)
		}
		if got, ok := impl.WordUnpack(x.want); !ok || !sameWord(got, x.w) {
			t.Error(i, got, ok)
		}
	}
}

// Promise 52: each limit may be met exactly.
func TestLimitsOfBytesMayBeMet(t *testing.T) {
	w := greatWord()
	b := impl.WordPack(w)
	if !bytes.Equal(b, packByHand(w)) {
		t.Error(b)
	}
	if got, ok := impl.WordUnpack(b); !ok || !sameWord(got, w) {
		t.Error(got, ok)
	}
	for n := range 101 {
		x := impl.Word{Kind: 1, Events: manyEvents(n, 40), Outs: manyOuts(min(n, 96))}
		if got, ok := impl.WordUnpack(impl.WordPack(x)); !ok || !sameWord(got, x) {
			t.Error(n, got, ok)
		}
	}
}

// Promise 52: what is not ok has no bytes.
func TestWrongWordsHaveNoBytes(t *testing.T) {
	d := dice(267)
	for kind := 1; kind <= 7; kind++ {
		full := d.anyWord()
		full.Kind = kind
		for _, good := range []impl.Word{full, {Kind: kind}} {
			for i, w := range wrongWords(good) {
				if b := impl.WordPack(w); len(b) != 0 {
					t.Errorf("word %d of the kind %d: %v", i, kind, b)
				}
			}
		}
	}
	if b := impl.WordPack(impl.Word{}); len(b) != 0 {
		t.Error(b)
	}
}

// checkRefused holds also that nothing comes beside the false.
func checkRefused(t *testing.T, b []byte, why string) {
	t.Helper()
	if w, ok := impl.WordUnpack(b); ok || !isNoWord(w) {
		t.Fatal(why, b, w, ok)
	}
}

// Promise 53: what other bytes there may be, they are refused, or are just those of the word that is read.
func TestEveryWordHasOneRowOfBytes(t *testing.T) {
	d := dice(268)
	read, other, refused := 0, 0, 0
	for _, w := range packable() {
		own := packByHand(w)
		for range 8 {
			b := d.otherBytes(w)
			got, ok := impl.WordUnpack(b)
			if want, wantOk := unpackByHand(b); ok != wantOk || !sameWord(got, want) {
				t.Fatal(b, got, ok, want, wantOk)
			}
			if ok && !bytes.Equal(impl.WordPack(got), b) {
				t.Fatal("another row", b, got, impl.WordPack(got))
			}
			if ok && sameWord(got, w) != bytes.Equal(own, b) {
				t.Fatal("two rows of one word, or two words of one row", b, own, got)
			}
			read, refused = read+count(ok), refused+count(!ok)
			other += count(ok && !sameWord(got, w))
		}
	}
	if read < 2000 || other < 1000 || refused < 10000 {
		t.Error("too few", read, other, refused)
	}
}

// Promise 53: one byte being another one, each in turn.
func TestEachByteCounts(t *testing.T) {
	read := 0
	for _, w := range []impl.Word{
		{Kind: 1}, {Kind: 2, Round: 300}, {Kind: 3, Incs: []int{1, 2, 300}, Versions: []int{4, 5, 6}},
		{Kind: 7, Inc: 200, Events: []impl.Event{{From: -1}, {Time: 9, To: 2, From: 1, Arg: 500}}, Outs: []impl.Out{{Time: 7, Value: 3}, {Time: 7, Value: 130}}},
	} {
		good := impl.WordPack(w)
		for at := range good {
			for x := range 256 {
				b := bytes.Clone(good)
				b[at] = byte(x)
				got, ok := impl.WordUnpack(b)
				if want, wantOk := unpackByHand(b); ok != wantOk || !sameWord(got, want) {
					t.Fatal(b, got, ok, want, wantOk)
				}
				if ok && !bytes.Equal(impl.WordPack(got), b) || ok && sameWord(got, w) != (b[at] == good[at]) {
					t.Fatal("another row", b, got)
				}
				read += count(ok && b[at] != good[at])
			}
		}
	}
	if read < 500 {
		t.Error("too few", read)
	}
}

// Promise 53: bytes that end too early, at each place, and bytes that are left.
func TestBytesThatAreTooFewOrTooMany(t *testing.T) {
	words := packable()
	for i, w := range words {
		if i%9 != 0 && i > 10 {
			continue
		}
		b := impl.WordPack(w)
		for n := range b {
			checkRefused(t, b[:n], "too few bytes")
			checkRefused(t, bytes.Clone(b[:n]), "too few bytes")
		}
		for _, left := range [][]byte{{0}, {1}, {127}, {128}, {129}, {255}, {128, 128}, {128, 0}, {128, 128, 128, 128, 128, 128}, {1, 1}, {1, 128}, b} {
			checkRefused(t, append(bytes.Clone(b), left...), "bytes are left")
			checkRefused(t, append(bytes.Clone(left), b...), "bytes ahead")
		}
	}
	for left := range 256 {
		checkRefused(t, append(impl.WordPack(impl.Word{Kind: 1}), byte(left)), "a byte is left")
	}
}

// Promise 53: no bytes at all, or nearly none.
func TestNoBytes(t *testing.T) {
	checkRefused(t, nil, "no bytes")
	checkRefused(t, []byte{}, "no bytes")
	for a := range 256 {
		checkRefused(t, []byte{byte(a)}, "one byte")
		checkRefused(t, bytes.Repeat([]byte{byte(a)}, 100000), "one byte again and again")
		for n := range 300 {
			checkRefused(t, bytes.Repeat([]byte{byte(a)}, n), "one byte again and again")
		}
		for b := range 256 {
			checkRefused(t, []byte{byte(a), byte(b)}, "two bytes")
		}
	}
}

// Promise 53: each number in turn has needless bytes, or bits beyond those of any number.
func TestLongNumbersAreRefused(t *testing.T) {
	words := []impl.Word{{Kind: 1}, {Kind: 3, Inc: 9999, Incs: []int{0, 126, 127}}, {Kind: 7, Events: manyEvents(5, 40), Outs: manyOuts(5)}}
	d := dice(269)
	for range 20 {
		words = append(words, d.anyWord())
	}
	for _, w := range words {
		row := rowOf(w)
		if got, ok := impl.WordUnpack(bytes.Join(piecesOf(row), nil)); !ok || !sameWord(got, w) {
			t.Fatal("not read", w)
		}
		for at := range row {
			for many := 1; many <= 12; many++ {
				pieces := piecesOf(row)
				needed := pieces[at]
				pieces[at] = longer(needed, many, 0)
				checkRefused(t, bytes.Join(pieces, nil), "needless bytes")
				for _, last := range []byte{1, 2, 8, 16, 64, 127} {
					pieces[at] = longer(needed, many+1, last)
					checkRefused(t, bytes.Join(pieces, nil), "a number is too long")
				}
			}
		}
	}
}

// Promise 53: one more than a number may be, at each place, and numbers of three bytes and more, of which no word has any.
func TestGreatNumbersAreRefused(t *testing.T) {
	w := impl.Word{Kind: 7, From: 2, To: 2, Inc: 9999, Version: 9999, Round: 9999, G: 41, Incs: []int{9999, 9999, 9999}, Versions: []int{9999, 9999, 9999}}
	w.Events = []impl.Event{{Time: 40, To: 3, From: 3, Count: 12, N: 3, Kind: 3, Arg: 999}}
	w.Outs = []impl.Out{{Time: 40, Proc: 3, Count: 11, N: 1, Value: 999}}
	row := rowOf(w)
	if got, ok := impl.WordUnpack(packByHand(w)); !ok || !sameWord(got, w) {
		t.Fatal("not read", got, ok)
	}
	for at := range row {
		for _, n := range []int{row[at] + 1, 16381, 16382, 16383, 16384, 2097150, 2097151, 2097152, 268435454, 268435455, 1<<31 - 1, 1 << 32, row[at] + 1<<32, 1<<62 - 1} {
			if n < row[at]+1 {
				t.Fatal(n)
			}
			pieces := piecesOf(row)
			pieces[at] = numberByHand(n)
			checkRefused(t, bytes.Join(pieces, nil), "a number is too great")
		}
	}
	for n := 9999; n < 20000; n++ {
		_, ok := impl.WordUnpack(bytes.Join(piecesOf([]int{5, 0, 0, n, 0, 0, 0, 0, 0, 0, 0}), nil))
		if ok != (n == 9999) {
			t.Fatal(n, ok)
		}
	}
}

// Promise 53: only what an event is From may be -1.
func TestNumbersBelowNothing(t *testing.T) {
	w := impl.Word{Kind: 3, Incs: []int{0, 0, 0}, Versions: []int{0, 0, 0}, Events: []impl.Event{{}}, Outs: []impl.Out{{}}}
	for at := range rowOf(w) {
		row := rowOf(w)
		row[at] = -1
		got, ok := impl.WordUnpack(bytes.Join(piecesOf(row), nil))
		if isFrom := at == 7+4+4+1+2; ok != isFrom || ok && got.Events[0].From != -1 {
			t.Error(at, got, ok)
		}
	}
}

// Promise 53: a list says how many it has; neither less, nor more than there can be, nor more than there are.
func TestCountsOfLists(t *testing.T) {
	head, none := []byte{2, 1, 1, 1, 1, 1, 1}, []byte{1}
	wide := func(list ...[]byte) []byte { return bytes.Join(append([][]byte{head}, list...), nil) }
	if _, ok := impl.WordUnpack(wide(none, none, none, none)); !ok {
		t.Fatal("a word without lists")
	}
	for list := range 4 {
		for _, n := range []int{-1, 1, 2, 4, 96, 97, 100, 101, 127, 9999, 1 << 20, 1<<28 - 2, 1<<31 - 1, 1 << 40, 1<<62 - 1} {
			lists := [][]byte{none, none, none, none}
			lists[list] = numberByHand(n)
			checkRefused(t, wide(lists...), "a list that is not there")
		}
		lists := [][]byte{none, none, none, none}
		lists[list] = nil
		checkRefused(t, wide(lists...), "a list has no count")
	}
	for n := range 9 {
		numbers := append(numberByHand(n), bytes.Repeat([]byte{1}, n)...)
		for _, b := range [][]byte{wide(numbers, none, none, none), wide(none, numbers, none, none), wide(numbers, numbers, none, none)} {
			if _, ok := impl.WordUnpack(b); ok != (n == 0 || n == 3) {
				t.Error(n, b, ok)
			}
		}
	}
	for n := 90; n < 110; n++ {
		events := impl.Word{Kind: 1, Events: manyEvents(n, 40)}
		outs := impl.Word{Kind: 1, Outs: manyOuts(n)}
		if _, ok := impl.WordUnpack(bytesByHand(events)); ok != (n <= 100) {
			t.Error("events", n, ok)
		}
		if _, ok := impl.WordUnpack(bytesByHand(outs)); ok != (n <= 96) {
			t.Error("outs", n, ok)
		}
	}
}

// Promise 53: bytes that are well written, of a word that is not ok.
func TestBytesOfWrongWords(t *testing.T) {
	d := dice(270)
	tried := 0
	for kind := 1; kind <= 7; kind++ {
		full := d.anyWord()
		full.Kind = kind
		for _, good := range []impl.Word{full, {Kind: kind}} {
			for _, w := range wrongWords(good) {
				if row := rowOf(w); canBeBytes(row) {
					checkRefused(t, bytesByHand(w), "a word that is not ok")
					tried++
				}
			}
		}
	}
	checkRefused(t, bytesByHand(impl.Word{}), "nothing")
	if tried < 500 {
		t.Error("too few", tried)
	}
}

func canBeBytes(row []int) bool {
	for _, n := range row {
		if n < -1 || n > 1<<62 {
			return false
		}
	}
	return true
}

// Promises 52 and 53: nothing is written into a word or bytes, or behind their ends, and what is answered shares nothing with them.
func TestBytesAreNewMemory(t *testing.T) {
	bytesPart := func(b []byte) part {
		return partOf(b, 77, func(a byte, b byte) bool { return a == b })
	}
	for i, w := range packable() {
		if i%5 != 0 && i > 10 {
			continue
		}
		w = roomyWord(w)
		b, bad := roomy(packByHand(w)), roomy(append(packByHand(w), 1))
		given := append(wordParts(w), bytesPart(b), bytesPart(bad))
		for k, do := range []func() []part{
			func() []part { return []part{bytesPart(impl.WordPack(w))} },
			func() []part { x, _ := impl.WordUnpack(b); return wordParts(x) },
			func() []part { x, _ := impl.WordUnpack(bad); return wordParts(x) },
			func() []part { x, _ := impl.WordUnpack(b[:len(b)-1]); return wordParts(x) },
		} {
			checkNew(t, given, do(), k)
		}
	}
}

// looseBytes are put together without asking whether they fit.
func (d *dice) looseBytes() []byte {
	b := []byte{byte(d.between(1, 9))}
	for range []int{10, 10, 11, 13, d.upTo(40)}[d.upTo(4)] {
		b = append(b, []byte{0, 1, 1, 1, 1, 1, 1, 1, 1, 2, 2, 3, 4, 128, 255, byte(d.upTo(255))}[d.upTo(15)])
	}
	return b
}

// Promises 52 and 53: both answer, whatever they are given.
func TestBytesAnswerWhateverTheyAreGiven(t *testing.T) {
	d := dice(271)
	packed, read := 0, 0
	for range 20000 {
		w := d.looseWord()
		b := impl.WordPack(w)
		if !bytes.Equal(b, packByHand(w)) {
			t.Fatal(w, b)
		}
		got, ok := impl.WordUnpack(b)
		if ok != wordOkByHand(w) || ok && !sameWord(got, w) || !ok && !isNoWord(got) {
			t.Fatal(w, b, got, ok)
		}
		packed += count(ok)
		b = d.looseBytes()
		got, ok = impl.WordUnpack(b)
		if want, wantOk := unpackByHand(b); ok != wantOk || !sameWord(got, want) {
			t.Fatal(b, got, ok, want, wantOk)
		}
		read += count(ok)
	}
	if packed < 1000 || read < 60 {
		t.Error("too few", packed, read)
	}
}
