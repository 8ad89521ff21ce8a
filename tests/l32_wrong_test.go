package tests

import (
	"math"
	"slices"
	"testing"

	"loop.example/slackwater/impl"
)

// Promises 58, 59: of a node that is not ok nothing is kept, and no node that is not ok is read.
func TestNothingIsKeptOfWrongNodes(t *testing.T) {
	asleep := 0
	for id := range 3 {
		for i, do := range wrongings() {
			for _, up := range []bool{true, false} {
				n := cloneNode(plainNode(id))
				n.Up = up
				if len(impl.NodeKeep(n)) == 0 {
					t.Fatal("nothing is kept", n)
				}
				do(&n)
				if nums := impl.NodeKeep(n); len(nums) != 0 {
					t.Errorf("node %d, thing %d: %v is kept", id, i, nums)
				}
				asleep += count(!checkWake(t, keptRow(n), "of a node that is not ok"))
			}
		}
	}
	for _, n := range []impl.Node{{}, {Inc: 1}, {Inc: 1, Lanes: make([]impl.Lane, 2), Views: make([]impl.View, 3)}} {
		if nums := impl.NodeKeep(n); len(nums) != 0 {
			t.Error(n, nums)
		}
	}
	if asleep < 300 {
		t.Error("too few", asleep)
	}
}

// Promise 59: each number missing at the end, and numbers that are left.
func TestNumbersThatAreTooFewOrTooMany(t *testing.T) {
	for i, n := range keepers() {
		if i%40 != 0 && i > 20 {
			continue
		}
		nums := impl.NodeKeep(n)
		for many := range nums {
			checkAsleep(t, nums[:many], "too few numbers")
			checkAsleep(t, slices.Clone(nums[:many]), "too few numbers")
		}
		for _, left := range [][]int{{0}, {1}, {-1}, {9999}, {math.MinInt}, {math.MaxInt}, {0, 0}, {0, 0, 0, 0, 0}, {0, 0, 0, 0, 0, 0, 0}, nums} {
			checkAsleep(t, slices.Concat(nums, left), "numbers are left")
			checkWake(t, slices.Concat(left, nums), "numbers ahead")
		}
		checkAwake(t, nums, fallenByHand(n), "just these")
	}
}

// Promise 59: no numbers at all, or one again and again.
func TestNoNumbers(t *testing.T) {
	checkAsleep(t, nil, "no numbers")
	checkAsleep(t, []int{}, "no numbers")
	for n := -2; n < 5; n++ {
		for many := range 40 {
			checkWake(t, slices.Repeat([]int{n}, many), "one number again and again")
		}
	}
	if _, ok := impl.NodeWake(make([]int, 5000000)); ok {
		t.Error("very many numbers")
	}
	checkAwake(t, []int{1, 1, 0, 0, 0, 0, 0, 0, 0}, fallenByHand(bareKeeper(1)), "as few as can be")
	checkAwake(t, []int{0, 1, 0, 0, 0, 0, 0, 0, 0, 0, 0, 0}, fallenByHand(bareKeeper(0)), "as few as can be")
}

// edge is the least and the greatest number at a place.
type edge struct {
	least int
	most  int
}

// edgesOf are those of smallKeeper, where Kept and Outs have one thing each.
func edgesOf(id int) []edge {
	list := []edge{{id, id}, {1, 9999}, {41, 41}, {0, 9999}}
	for range procsByHand(id) {
		list = append(list, edge{0, 999}, edge{0, 999}, edge{0, 12})
	}
	list = append(list, edge{1, 1}, edge{0, 40}, edge{0, 3}, edge{-1, 3}, edge{0, 12}, edge{0, 3}, edge{0, 3}, edge{0, 999})
	return append(list, edge{1, 1}, edge{0, 40}, edge{0, 3}, edge{0, 11}, edge{0, 1}, edge{0, 999})
}

// Promise 59: each limit may be met exactly, and one more, or one less, is refused.
func TestLimitsOfWhatIsKept(t *testing.T) {
	for id := range 3 {
		for at, e := range edgesOf(id) {
			row := impl.NodeKeep(smallKeeper(id))
			if len(row) != len(edgesOf(id)) {
				t.Fatal(row)
			}
			try := func(n int) bool {
				row[at] = n
				return checkWake(t, row, "at the edge")
			}
			for _, n := range []int{e.least, e.most, (e.least + e.most) / 2} {
				if !try(n) {
					t.Error("refused", id, at, n)
				}
			}
			// Other nodes are of another length, and other times hang on what was let out: both have tests of their own.
			if at != 0 && at != 2 {
				for _, n := range []int{e.least - 1, e.most + 1, e.least - 1<<32, e.most + 1<<32, math.MinInt, math.MaxInt} {
					if try(n) {
						t.Error("read", id, at, n)
					}
				}
			}
		}
	}
}

// Promise 59: how far all may be settled, with nothing let out, and with something.
func TestHowFarMayBeSettled(t *testing.T) {
	for id := range 3 {
		for _, g := range []int{-1, 0, 1, 8, 9, 10, 40, 41, 42, math.MinInt, math.MaxInt, 1 << 32} {
			bare, small := impl.NodeKeep(bareKeeper(id)), impl.NodeKeep(smallKeeper(id))
			bare[2], small[2] = g, g
			if ok := checkWake(t, bare, "nothing let out"); ok != (g >= 0 && g <= 41) {
				t.Error(id, g, ok)
			}
			if ok := checkWake(t, small, "let out at the time 9"); ok != (g >= 10 && g <= 41) {
				t.Error(id, g, ok)
			}
		}
	}
}

// Promise 59: an Id that is no node, with the lanes of one process or of two.
func TestIdsThatAreNoNode(t *testing.T) {
	for id := range 3 {
		for _, n := range []impl.Node{impl.NodeStart(id), bareKeeper(id), smallKeeper(id), fullKeeper(id)} {
			nums := impl.NodeKeep(n)
			for _, wrong := range []int{-1, 3, 4, 1 << 32, -1 << 32, math.MinInt, math.MaxInt} {
				nums[0] = wrong
				checkAsleep(t, nums, "no node")
				checkAsleep(t, slices.Delete(slices.Clone(nums), 4, 7), "no node, and a lane less")
				checkAsleep(t, slices.Insert(slices.Clone(nums), 4, 0, 0, 0), "no node, and a lane more")
			}
			for other := range 3 {
				nums[0] = other
				if ok := checkWake(t, nums, "another node"); ok != (len(procsByHand(other)) == len(procsByHand(id))) {
					t.Error(id, other, ok)
				}
			}
		}
	}
}

// Promise 59: how many there are is below 0, less than there are, more than that, or far too great.
func TestCountsOfWhatIsKept(t *testing.T) {
	for id := range 3 {
		for _, n := range []impl.Node{bareKeeper(id), smallKeeper(id), plainNode(id), fullKeeper(id)} {
			own := impl.NodeKeep(n)
			ofKept := 4 + 3*len(n.Lanes)
			ofOuts := ofKept + 1 + 7*len(n.Kept)
			for _, at := range []int{ofKept, ofOuts} {
				for _, add := range []int{-7, -5, -2, -1, 1, 2, 5, 7} {
					row := slices.Clone(own)
					row[at] += add
					checkAsleep(t, row, "another count")
				}
				for _, many := range []int{-1, -2, -9999, 97, 101, 102, 999, 9999, 10000, 1 << 20, 1 << 31, 1 << 32, 1 << 40, 1 << 62, math.MaxInt, math.MinInt} {
					row := slices.Clone(own)
					row[at] = many
					checkAsleep(t, row, "a count out of all bounds")
				}
			}
		}
	}
}

// Promise 59: in all counts together too, so that what is missing of one list may be taken of the other, or below 0 of nothing.
func TestCountsTogether(t *testing.T) {
	zeros := make([]int, 40)
	for kept := -8; kept < 9; kept++ {
		for outs := -8; outs < 9; outs++ {
			for many := range 24 {
				row := slices.Concat([]int{2, 1, 41, 0, 0, 0, 0, kept}, zeros[:many], []int{outs}, zeros[:many/3])
				checkWake(t, row, "two counts")
			}
		}
	}
}

// Promise 59: what is out of order, there twice, or more than there may be.
func TestListsOfWhatIsKept(t *testing.T) {
	e, o := manyEvents(4, 30), outsAt(4, 30)
	for id := range 3 {
		for i, x := range []struct {
			kept []impl.Event
			outs []impl.Out
			ok   bool
		}{
			{kept: e, outs: o, ok: true}, {kept: nil, outs: o, ok: true}, {kept: e, ok: true},
			{kept: []impl.Event{e[1], e[0]}}, {kept: []impl.Event{e[0], e[0]}}, {kept: []impl.Event{e[0], e[1], e[1]}}, {kept: []impl.Event{e[0], e[2], e[1], e[3]}}, {kept: []impl.Event{e[0], e[1], e[0]}},
			{outs: []impl.Out{o[1], o[0]}}, {outs: []impl.Out{o[0], o[0]}}, {outs: []impl.Out{o[0], o[1], o[1]}}, {outs: []impl.Out{o[0], o[2], o[1], o[3]}}, {outs: []impl.Out{o[0], o[1], o[0]}},
			{kept: manyEvents(100, 40), ok: true}, {kept: manyEvents(101, 40)}, {outs: outsAt(96, 40), ok: true}, {outs: outsAt(97, 40)},
			{kept: manyEvents(100, 40), outs: outsAt(96, 40), ok: true}, {kept: manyEvents(101, 40), outs: outsAt(96, 40)}, {kept: manyEvents(100, 40), outs: outsAt(97, 40)},
			{kept: manyEvents(300, 40)}, {outs: outsAt(300, 40)}, {kept: inOrder(append(e, impl.Event{Time: 40, From: -1})), ok: true},
		} {
			n := smallKeeper(id)
			n.Kept, n.Outs = x.kept, x.outs
			if ok := checkWake(t, keptRow(n), "lists"); ok != x.ok || ok != (len(impl.NodeKeep(n)) > 0) {
				t.Error(id, i, ok)
			}
		}
	}
}

// Promises 58 and 59: nothing is written into a node or numbers, or behind their ends, and what is answered shares nothing with them.
func TestWhatIsKeptIsNewMemory(t *testing.T) {
	for i, n := range keepers() {
		if i%15 != 0 && i > 20 {
			continue
		}
		n = roomyNode(n)
		wrong := n
		wrong.Inc = 0
		nums, bad := roomy(keptRow(n)), roomy(append(keptRow(n), 1))
		given := append(nodeParts(n), numsPart(nums), numsPart(bad))
		for k, do := range []func() []part{
			func() []part { return []part{numsPart(impl.NodeKeep(n))} },
			func() []part { return []part{numsPart(impl.NodeKeep(wrong))} },
			func() []part { x, _ := impl.NodeWake(nums); return nodeParts(x) },
			func() []part { x, _ := impl.NodeWake(bad); return nodeParts(x) },
			func() []part { x, _ := impl.NodeWake(nums[:len(nums)-1]); return nodeParts(x) },
		} {
			checkNew(t, given, do(), k)
		}
	}
}

// Promises 58 and 59: both answer, whatever they are given.
func TestWhatIsKeptAnswersWhateverItIsGiven(t *testing.T) {
	d := dice(283)
	kept, read := 0, 0
	for range 20000 {
		n := d.looseNode()
		nums := impl.NodeKeep(n)
		if !slices.Equal(nums, keepByHand(n)) {
			t.Fatal(n, nums)
		}
		kept += count(len(nums) > 0)
		checkWake(t, keptRow(n), "of a loose node")
		read += count(checkWake(t, d.looseRow(), "loose"))
	}
	if kept < 1000 || read < 300 {
		t.Error("too few", kept, read)
	}
}
