package tests

import (
	"reflect"
	"slices"
	"sync"

	"loop.example/slackwater/impl"
)

// What the document says of what a node keeps, by hand.

// keptRow asks nothing: it is told also of what is not ok.
func keptRow(n impl.Node) []int {
	row := []int{n.Id, n.Inc, n.G, n.Led}
	for _, l := range n.Lanes {
		row = append(row, l.Base.X, l.Base.Y, l.Base.Count)
	}
	return slices.Concat(row, rowOfValue(reflect.ValueOf(n.Kept)), rowOfValue(reflect.ValueOf(n.Outs)))
}

func keepByHand(n impl.Node) []int {
	if !okByHand(n) {
		return nil
	}
	return keptRow(n)
}

// wakeByHand fills all that a node keeps with numbers, as long as there are any.
func wakeByHand(nums []int) (impl.Node, bool) {
	if len(nums) == 0 || nums[0] < 0 || nums[0] > 2 {
		return impl.Node{}, false
	}
	n := impl.Node{Views: make([]impl.View, 3), Known: make([]int, 3), Low: 41}
	things := []any{&n.Id, &n.Inc, &n.G, &n.Led}
	n.Lanes = make([]impl.Lane, len(procsByHand(nums[0])))
	for i, proc := range procsByHand(nums[0]) {
		n.Lanes[i].Proc = proc
		things = append(things, &n.Lanes[i].Base)
	}
	rest, ok := nums, true
	for _, thing := range append(things, &n.Kept, &n.Outs) {
		if ok {
			rest, ok = fill(reflect.ValueOf(thing).Elem(), rest)
		}
	}
	if !ok || len(rest) > 0 || !okByHand(n) {
		return impl.Node{}, false
	}
	return n, true
}

// fullKeeper keeps as much of everything as a node may keep.
func fullKeeper(id int) impl.Node {
	n := impl.NodeStart(id)
	n.Inc, n.G, n.Led = 9999, 41, 9999
	n.Kept, n.Outs = manyEvents(100, 40), outsAt(96, 40)
	for i := range n.Lanes {
		n.Lanes[i].Base = impl.State{X: 999, Y: 998, Count: 12}
	}
	return n
}

// bareKeeper keeps as little as a node may keep.
func bareKeeper(id int) impl.Node {
	n := impl.NodeStart(id)
	n.Kept = nil
	return n
}

// smallKeeper keeps one thing of each, so that its numbers are few.
func smallKeeper(id int) impl.Node {
	n := bareKeeper(id)
	n.G = 41
	n.Kept = []impl.Event{{Time: 9, To: 1, From: 2}}
	n.Outs = []impl.Out{{Time: 9, Proc: 2}}
	return n
}

// settling is a node ahead of what it settles, and behind it.
type settling struct {
	before impl.Node
	behind impl.Node
}

// settlings are of nodes that have just answered a round. They are made once, and none of the tests writes into them.
var settlings = sync.OnceValue(func() []settling {
	d := dice(278)
	var list []settling
	for _, s := range spots() {
		n := answered(s.n, 3)
		for _, g := range []int{n.G + 1, d.between(n.G+1, max(n.G+1, minByHand(n))), minByHand(n)} {
			if behind, ok := impl.NodeSettle(n, 3, g); ok {
				list = append(list, settling{n, behind})
			}
		}
	}
	return list
})

// keepers are nodes that are ok. They are made once, and none of the tests writes into them.
var keepers = sync.OnceValue(func() []impl.Node {
	var list []impl.Node
	for id := range 3 {
		list = append(list, impl.NodeStart(id), bareKeeper(id), smallKeeper(id), fullKeeper(id), plainNode(id))
	}
	for i, s := range spots() {
		list = append(list, s.n)
		if i%10 == 0 {
			list = append(list, impl.NodeFall(s.n), impl.NodeRise(impl.NodeFall(s.n)))
		}
	}
	for i, s := range settlings() {
		if i%2 == 0 {
			list = append(list, s.behind)
		}
	}
	return list
})

// otherRow is what a node keeps, mostly one thing in it being another one.
func (d *dice) otherRow(n impl.Node) []int {
	row := keptRow(n)
	at := d.upTo(len(row) - 1)
	switch d.upTo(8) {
	case 0, 1:
		row[at] += d.between(-2, 2)
	case 2:
		row[at] = []int{-2, -1, 0, 1, 2, 3, 12, 13, 40, 41, 42, 96, 97, 100, 101, 999, 1000, 9999, 10000}[d.upTo(18)]
	case 3:
		row[at] = d.closeNum()
	case 4:
		row = slices.Delete(row, at, at+1)
	case 5:
		row = slices.Insert(row, at, d.between(-1, 3))
	case 6:
		row = append(row, d.between(-1, 3))
	case 7:
		row = row[:at]
	}
	return row
}

// looseRow is put together without asking whether it fits, and without much in it.
func (d *dice) looseRow() []int {
	row := []int{d.anyInt(2), 1 + d.anyInt(9), d.anyInt(41), d.anyInt(9)}
	for range []int{3, 3, 6, 6, d.upTo(7)}[d.upTo(4)] {
		row = append(row, d.anyInt(12))
	}
	for _, width := range []int{7, 5} {
		many := d.anyInt(2)
		row = append(row, many)
		for range width * min(max(many, 0), 2) {
			row = append(row, d.anyInt(1))
		}
	}
	return row
}
