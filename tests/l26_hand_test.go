package tests

import (
	"bytes"
	"math/big"
	"reflect"
	"sync"

	"loop.example/slackwater/impl"
)

// What the document says of words as bytes, by hand.

// numberByHand is the bytes of a number from -1 on.
func numberByHand(n int) []byte {
	return piecesByHand(n + 1)
}

func piecesByHand(more int) []byte {
	if more < 128 {
		return []byte{byte(more)}
	}
	return append([]byte{byte(more%128 + 128)}, piecesByHand(more/128)...)
}

// rowOf is all numbers of a word, its counts among them, in the order of its fields.
func rowOf(w impl.Word) []int {
	return rowOfValue(reflect.ValueOf(w))
}

func rowOfValue(v reflect.Value) []int {
	var row []int
	switch v.Kind() {
	case reflect.Int:
		return []int{int(v.Int())}
	case reflect.Slice:
		row = append(row, v.Len())
		for i := range v.Len() {
			row = append(row, rowOfValue(v.Index(i))...)
		}
	case reflect.Struct:
		for i := range v.NumField() {
			row = append(row, rowOfValue(v.Field(i))...)
		}
	}
	return row
}

// piecesOf is the bytes of each number.
func piecesOf(row []int) [][]byte {
	var pieces [][]byte
	for _, n := range row {
		pieces = append(pieces, numberByHand(n))
	}
	return pieces
}

// bytesByHand asks nothing: also of what is not ok, as long as no number is below -1.
func bytesByHand(w impl.Word) []byte {
	return bytes.Join(piecesOf(rowOf(w)), nil)
}

func packByHand(w impl.Word) []byte {
	if !wordOkByHand(w) {
		return nil
	}
	return bytesByHand(w)
}

// readRow is the numbers of bytes, however long they are written; none, if they end in the midst of one, or one is beyond every int.
func readRow(b []byte) ([]int, bool) {
	var row []int
	more, shift := new(big.Int), uint(0)
	for _, piece := range b {
		more.Add(more, new(big.Int).Lsh(big.NewInt(int64(piece%128)), shift))
		shift += 7
		if piece >= 128 {
			continue
		}
		if !more.IsInt64() {
			return nil, false
		}
		row = append(row, int(more.Int64())-1)
		more, shift = new(big.Int), 0
	}
	return row, shift == 0
}

// fill puts the first numbers of a row into a value.
func fill(v reflect.Value, row []int) ([]int, bool) {
	if v.Kind() == reflect.Struct {
		ok := true
		for i := 0; ok && i < v.NumField(); i++ {
			row, ok = fill(v.Field(i), row)
		}
		return row, ok
	}
	if len(row) == 0 {
		return nil, false
	}
	n, row := row[0], row[1:]
	if v.Kind() == reflect.Int {
		v.SetInt(int64(n))
		return row, true
	}
	if n < 0 || n > len(row) {
		return nil, false
	}
	v.Set(reflect.MakeSlice(v.Type(), n, n))
	ok := true
	for i := 0; ok && i < n; i++ {
		row, ok = fill(v.Index(i), row)
	}
	return row, ok
}

// unpackByHand is the word whose bytes these just are: any that they could mean is packed again.
func unpackByHand(b []byte) (impl.Word, bool) {
	var w impl.Word
	row, ok := readRow(b)
	if ok {
		row, ok = fill(reflect.ValueOf(&w).Elem(), row)
	}
	if !ok || len(row) > 0 || !wordOkByHand(w) || !bytes.Equal(bytesByHand(w), b) {
		return impl.Word{}, false
	}
	return w, true
}

// greatWord has as much of everything as a word can have.
func greatWord() impl.Word {
	most := []int{9999, 9999, 9999}
	return impl.Word{Kind: 7, From: 2, To: 2, Inc: 9999, Version: 9999, Round: 9999, G: 41, Incs: most, Versions: most, Events: manyEvents(100, 40), Outs: manyOuts(96)}
}

// packable are words that are ok: of nodes and hubs at work, and thrown ones. They are made once, and none of the tests writes into them.
var packable = sync.OnceValue(func() []impl.Word {
	d := dice(266)
	words := []impl.Word{{Kind: 1}, greatWord(), {Kind: 3, Incs: []int{0, 0, 0}}, {Kind: 3, Versions: []int{0, 0, 0}}}
	for _, s := range spots() {
		words = append(words, impl.NodeTend(s.n)...)
		if _, w, ok := impl.NodeReport(s.n, d.between(1, 9999)); ok {
			words = append(words, w)
		}
	}
	for _, s := range hubSpots() {
		_, _, sent := impl.HubHear(s.h, s.n, s.w)
		words = append(words, sent...)
	}
	for range 2000 {
		words = append(words, d.anyWord())
	}
	return words
})

// otherBytes are a word's bytes, mostly one thing in them being another one.
func (d *dice) otherBytes(w impl.Word) []byte {
	row := rowOf(w)
	pieces := piecesOf(row)
	at := d.upTo(len(row) - 1)
	switch d.upTo(6) {
	case 0:
		pieces[at] = numberByHand(max(-1, row[at]+d.between(-2, 2)))
	case 1:
		pieces[at] = numberByHand([]int{-1, 0, 126, 127, 128, 999, 1000, 9999, 10000, 16382, 16383}[d.upTo(10)])
	case 2:
		pieces[at] = nil
	case 3:
		pieces[at] = append(pieces[at], numberByHand(d.between(-1, 3))...)
	case 4:
		pieces[at] = longer(pieces[at], d.between(1, 10), byte(d.upTo(1)))
	}
	b := bytes.Join(pieces, nil)
	switch d.upTo(4) {
	case 0:
		b[d.upTo(len(b)-1)] ^= 1 << d.upTo(7)
	case 1:
		b = b[:d.upTo(len(b))]
	}
	return b
}

// longer is a number with so many bytes more behind it, all of them 0 but the last.
func longer(piece []byte, many int, last byte) []byte {
	b := bytes.Clone(piece)
	b[len(b)-1] += 128
	for range many - 1 {
		b = append(b, 128)
	}
	return append(b, last)
}
