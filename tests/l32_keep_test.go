package tests

import (
	"slices"
	"testing"

	"loop.example/slackwater/impl"
)

// checkAwake holds that a node, as if it had fallen, is read of numbers, and written as just them.
func checkAwake(t *testing.T, nums []int, want impl.Node, why string) {
	t.Helper()
	got, ok := impl.NodeWake(nums)
	if !ok || !sameNode(got, want) {
		t.Fatal(why, nums, got, ok, want)
	}
	if again := impl.NodeKeep(got); !slices.Equal(again, nums) {
		t.Fatal(why, "another row", nums, again)
	}
}

// checkAsleep holds also that nothing comes beside the false.
func checkAsleep(t *testing.T, nums []int, why string) {
	t.Helper()
	if got, ok := impl.NodeWake(nums); ok || !isNoNode(got) {
		t.Fatal(why, nums, got, ok)
	}
}

// checkWake holds numbers against the document, whatever they are.
func checkWake(t *testing.T, nums []int, why string) bool {
	t.Helper()
	want, ok := wakeByHand(nums)
	if ok {
		checkAwake(t, nums, want, why)
	} else {
		checkAsleep(t, nums, why)
	}
	return ok
}

// Promise 58.
func TestANodeIsReadBackFromWhatItKeeps(t *testing.T) {
	ids, down, risen, settled, bare, much := map[int]int{}, 0, 0, 0, 0, 0
	for _, n := range keepers() {
		nums := impl.NodeKeep(n)
		if want := keepByHand(n); len(want) == 0 || !slices.Equal(nums, want) {
			t.Fatal("other numbers", n, nums, want)
		}
		fallen := impl.NodeFall(n)
		if !sameNode(fallen, fallenByHand(n)) {
			t.Fatal("it falls to another one", n, fallen)
		}
		checkAwake(t, nums, fallen, "read back")
		ids[n.Id]++
		down, risen, settled = down+count(!n.Up), risen+count(n.Inc > 1), settled+count(n.G > 0)
		bare, much = bare+count(len(n.Kept)+len(n.Outs) == 0), much+count(len(n.Kept) > 5 && len(n.Outs) > 2)
	}
	if ids[0] < 1000 || ids[1] < 1000 || ids[2] < 1000 || down < 500 || risen < 1000 || settled < 1000 || bare < 10 || much < 100 {
		t.Error("too few", ids, down, risen, settled, bare, much)
	}
}

// Promise 58: what it has beside what it keeps does not matter, and it rises from what is read as from its fall.
func TestANodeThatIsReadBackRises(t *testing.T) {
	others, lives := 0, 0
	for _, n := range keepers() {
		fallen := impl.NodeFall(n)
		nums := impl.NodeKeep(n)
		if !slices.Equal(impl.NodeKeep(fallen), nums) {
			t.Fatal("it keeps something else behind its fall", n, fallen)
		}
		got, _ := impl.NodeWake(nums)
		up := impl.NodeRise(got)
		if !sameNode(up, impl.NodeRise(fallen)) || !sameNode(impl.NodeRise(up), up) {
			t.Fatal("it rises to another one", n, up)
		}
		others += count(!sameNode(fallen, n))
		lives += count(up.Up && up.Inc == n.Inc+1)
	}
	if others < 1000 || lives < 1000 || lives == len(keepers()) {
		t.Error("too few, or too many", others, lives)
	}
}

// Promise 58: a node at first, behind steps, a telling and a settling, settled once more, fallen, and in its next life.
func TestWhatIsKeptFromTimeToTime(t *testing.T) {
	apps := mustRead(t, "proc\nproc\nrule 0\nmore x 5\nsend 2 1 4 x\nout x\nrule 1\nadd y x\nsend 1 1 3 y\nout y\nproc\nproc\n")
	n := impl.NodeStart(1)
	check := func(why string, nums ...int) {
		t.Helper()
		if got := impl.NodeKeep(n); !slices.Equal(got, nums) {
			t.Fatal(why, got)
		}
		checkAwake(t, nums, impl.NodeFall(n), why)
	}
	check("at first", 1, 1, 0, 0, 0, 0, 0, 1, 0, 1, -1, 0, 1, 0, 1, 0)
	n = stepAll(apps, n, 1)
	n = impl.NodeView(n, 0, 2, 3, 0, []impl.Event{{Time: 2, To: 1, From: 0, Kind: 1, Arg: 6}})
	n = stepAll(apps, n, 1)
	check("behind steps and a telling", 1, 1, 0, 0, 0, 0, 0, 1, 0, 1, -1, 0, 1, 0, 1, 0)
	n, ok := impl.NodeSettle(answered(n, 1), 1, 1)
	check("settled", 1, 1, 1, 0, 5, 0, 1, 1, 4, 2, 1, 0, 0, 1, 5, 1, 0, 1, 0, 0, 5)
	n, again := impl.NodeSettle(n, 1, 5)
	check("settled further", 1, 1, 5, 0, 5, 5, 2, 2, 4, 2, 1, 0, 0, 1, 5, 5, 1, 1, 1, 0, 1, 5, 2, 0, 1, 0, 0, 5, 2, 1, 1, 0, 5)
	n = impl.NodeFall(n)
	check("fallen", 1, 1, 5, 0, 5, 5, 2, 2, 4, 2, 1, 0, 0, 1, 5, 5, 1, 1, 1, 0, 1, 5, 2, 0, 1, 0, 0, 5, 2, 1, 1, 0, 5)
	n = impl.NodeRise(n)
	check("risen", 1, 2, 5, 0, 5, 5, 2, 2, 4, 2, 1, 0, 0, 1, 5, 5, 1, 1, 1, 0, 1, 5, 2, 0, 1, 0, 0, 5, 2, 1, 1, 0, 5)
	if !ok || !again {
		t.Error("nothing is settled", ok, again)
	}
}

// Promise 58: what stands where, each number being another one.
func TestOrderOfWhatIsKept(t *testing.T) {
	n := impl.NodeStart(0)
	n.Inc, n.G, n.Led = 21, 22, 23
	n.Lanes[0].Base, n.Lanes[1].Base = impl.State{X: 24, Y: 25, Count: 6}, impl.State{X: 27, Y: 28, Count: 9}
	n.Kept = []impl.Event{{Time: 30, To: 3, From: -1, Count: 12, N: 2, Kind: 1, Arg: 36}, {Time: 31, To: 1, From: 2, Count: 11, N: 3, Kind: 0, Arg: 37}}
	n.Outs = []impl.Out{{Time: 10, Proc: 3, Count: 8, N: 1, Value: 40}, {Time: 13, Proc: 1, Count: 7, N: 0, Value: 41}, {Time: 14, Proc: 0, Count: 4, N: 1, Value: 42}}
	want := []int{0, 21, 22, 23, 24, 25, 6, 27, 28, 9, 2, 30, 3, -1, 12, 2, 1, 36, 31, 1, 2, 11, 3, 0, 37, 3, 10, 3, 8, 1, 40, 13, 1, 7, 0, 41, 14, 0, 4, 1, 42}
	if got := impl.NodeKeep(n); !slices.Equal(got, want) {
		t.Fatal(got)
	}
	checkAwake(t, want, fallenByHand(n), "a node with two lanes")
	n = impl.NodeStart(2)
	n.Inc, n.G, n.Led, n.Lanes[0].Base, n.Kept = 21, 22, 23, impl.State{X: 24, Y: 25, Count: 6}, nil
	want = []int{2, 21, 22, 23, 24, 25, 6, 0, 0}
	if got := impl.NodeKeep(n); !slices.Equal(got, want) {
		t.Fatal(got)
	}
	checkAwake(t, want, fallenByHand(n), "a node with one lane")
}

// Promise 58: as many in Kept and in Outs as there may be, and what a disk has room for.
func TestWhatIsKeptFitsOnADisk(t *testing.T) {
	for id := range 3 {
		n := fullKeeper(id)
		nums := impl.NodeKeep(n)
		if len(nums) != 4+3*len(n.Lanes)+1+700+1+480 {
			t.Error(id, len(nums))
		}
		for kept := range 101 {
			n.Kept, n.Outs = manyEvents(kept, 40), outsAt(min(kept, 96), 40)
			checkAwake(t, impl.NodeKeep(n), fallenByHand(n), "so many")
		}
	}
	for i, n := range keepers() {
		nums := impl.NodeKeep(n)
		disk := impl.SlotNew()
		steps, ok := impl.SlotSave(disk, nums)
		if !ok {
			t.Fatal(i, "not saved", nums)
		}
		if said, ok := impl.SlotRead(impl.SlotDo(disk, steps, len(steps))); !ok || !slices.Equal(said, nums) {
			t.Fatal(i, "another disk", said, nums)
		}
	}
}

// Promise 59.
func TestWhatANodeKeepsHasOneRow(t *testing.T) {
	d := dice(279)
	read, other, refused := 0, 0, 0
	for _, n := range keepers() {
		own, fallen := keepByHand(n), fallenByHand(n)
		for range 4 {
			row := d.otherRow(n)
			ok := checkWake(t, row, "another row")
			if got, _ := impl.NodeWake(row); ok && sameNode(got, fallen) != slices.Equal(row, own) {
				t.Fatal("two rows of one node, or two nodes of one row", row, own, got)
			}
			read, refused = read+count(ok), refused+count(!ok)
			other += count(ok && !slices.Equal(row, own))
		}
	}
	if read < 4000 || other < 1500 || refused < 6000 {
		t.Error("too few", read, other, refused)
	}
}

// Promise 59: one number being another one, each in turn.
func TestEachNumberCounts(t *testing.T) {
	read, refused := 0, 0
	for id := range 3 {
		for _, n := range []impl.Node{impl.NodeStart(id), bareKeeper(id), smallKeeper(id), plainNode(id)} {
			own := keepByHand(n)
			for at := range own {
				for other := -3; other < 120; other++ {
					row := slices.Clone(own)
					row[at] = other
					ok := checkWake(t, row, "another number")
					if got, _ := impl.NodeWake(row); ok && sameNode(got, fallenByHand(n)) != (other == own[at]) {
						t.Fatal("two rows of one node", row, own)
					}
					read, refused = read+count(ok && other != own[at]), refused+count(!ok)
				}
			}
		}
	}
	if read < 2000 || refused < 4000 {
		t.Error("too few", read, refused)
	}
}

// diskWith is a disk that was in use, or a new one, to which these were saved last.
func (d *dice) diskWith(t *testing.T, nums []int) impl.SlotDisk {
	t.Helper()
	disk := impl.SlotNew()
	if d.upTo(1) == 0 {
		disk = d.savedDisk()
	}
	steps, ok := impl.SlotSave(disk, nums)
	if !ok {
		t.Fatal("not saved", nums)
	}
	return impl.SlotDo(disk, steps, len(steps))
}

// awakeFrom is the node that a disk tells.
func awakeFrom(t *testing.T, disk impl.SlotDisk) impl.Node {
	t.Helper()
	nums, said := impl.SlotRead(disk)
	n, ok := impl.NodeWake(nums)
	if !said || !ok {
		t.Fatal("no node is told", nums, said, ok)
	}
	return n
}

// checkMidst holds all places at which a save may break off: the node that is told is the one ahead of what was settled, until all is saved.
func checkMidst(t *testing.T, disk impl.SlotDisk, s settling) {
	t.Helper()
	steps, ok := impl.SlotSave(disk, impl.NodeKeep(s.behind))
	if !ok {
		t.Fatal("not saved", s.behind)
	}
	for most := range len(steps) + 2 {
		want := s.before
		if most >= len(steps) {
			want = s.behind
		}
		got := awakeFrom(t, impl.SlotDo(disk, steps, most))
		if !sameNode(got, fallenByHand(want)) || !sameNode(impl.NodeRise(got), impl.NodeRise(impl.NodeFall(want))) {
			t.Fatal(most, len(steps), "another node", got, want)
		}
	}
}

// Promise 60.
func TestAFallInTheMidstOfSaving(t *testing.T) {
	d := dice(280)
	ids, others, shorter := map[int]int{}, 0, 0
	for _, s := range settlings() {
		nums := impl.NodeKeep(s.before)
		checkMidst(t, d.diskWith(t, nums), s)
		ids[s.before.Id]++
		others += count(!keepsTheSame(s.before, s.behind))
		shorter += count(len(keepByHand(s.behind)) < len(nums))
	}
	if ids[0] < 500 || ids[1] < 500 || ids[2] < 500 || others != len(settlings()) || shorter < 50 {
		t.Error("too few", ids, others, shorter)
	}
}

// Promise 60: with as much as may be kept, ahead of it and behind it; and the other way, with all of it going by what is settled.
func TestAFallInTheMidstOfSavingMuch(t *testing.T) {
	d := dice(281)
	n := settler(t)
	n.Outs, n.Kept = outsAt(94, 0), append(eventsTo(49, 0, 20), eventsTo(48, 2, 21)...)
	n.G = 1
	n.Lanes[0].Done = n.Lanes[0].Done[1:]
	much, ok := impl.NodeSettle(n, 4, 9)
	if !ok || len(much.Kept) != 100 || len(much.Outs) != 96 {
		t.Fatal(ok, len(much.Kept), len(much.Outs))
	}
	checkMidst(t, d.diskWith(t, impl.NodeKeep(n)), settling{n, much})
	n.Known = []int{41, 0, 41}
	less, ok := impl.NodeSettle(n, 4, 9)
	if !ok || len(less.Kept) != 1 || len(less.Outs) != 96 {
		t.Fatal(ok, len(less.Kept), len(less.Outs))
	}
	checkMidst(t, d.diskWith(t, impl.NodeKeep(n)), settling{n, less})
}

// Promise 60: a disk to which nothing was saved yet tells no node, until all is saved.
func TestAFallInTheMidstOfTheFirstSave(t *testing.T) {
	for i, n := range keepers() {
		if i%50 != 0 {
			continue
		}
		steps, _ := impl.SlotSave(impl.SlotNew(), impl.NodeKeep(n))
		for most := range len(steps) {
			nums, ok := impl.SlotRead(impl.SlotDo(impl.SlotNew(), steps, most))
			if ok {
				t.Fatal(i, most, "something is told", nums)
			}
			checkAsleep(t, nums, "nothing saved")
		}
		if got := awakeFrom(t, impl.SlotDo(impl.SlotNew(), steps, len(steps))); !sameNode(got, fallenByHand(n)) {
			t.Fatal(i, got)
		}
	}
}

// saver is a node that saves what it keeps to a disk, each time that it has settled something, and each time that it rises.
type saver struct {
	n     impl.Node
	disk  impl.SlotDisk
	falls int
	backs int
}

// settles may break off, and then the node falls.
func (s *saver) settles(t *testing.T, d *dice, g int) {
	behind, ok := impl.NodeSettle(s.n, s.n.Round, g)
	if !ok {
		t.Fatal("not settled", s.n, g)
	}
	steps, _ := impl.SlotSave(s.disk, impl.NodeKeep(behind))
	most := d.upTo(len(steps) + 3)
	s.disk = impl.SlotDo(s.disk, steps, most)
	want := s.n
	if most >= len(steps) {
		want = behind
	}
	s.n = behind
	if most < len(steps) || d.upTo(2) == 0 {
		s.rises(t, want)
		s.backs += count(most < len(steps))
	}
}

func (s *saver) rises(t *testing.T, want impl.Node) {
	s.falls++
	got := awakeFrom(t, s.disk)
	if !sameNode(got, fallenByHand(want)) {
		t.Fatal("another node", got, want)
	}
	s.n = impl.NodeRise(got)
	steps, _ := impl.SlotSave(s.disk, impl.NodeKeep(s.n))
	s.disk = impl.SlotDo(s.disk, steps, len(steps))
}

// Promise 60: again and again, until all is settled.
func TestManyFallsInTheMidstOfSaving(t *testing.T) {
	d := dice(282)
	falls, backs, kept := 0, 0, 0
	for i := range 60 {
		apps := d.simApps(i)
		n := impl.NodeStart(i % 3)
		s := &saver{n: n, disk: d.diskWith(t, impl.NodeKeep(n))}
		for round := 1; s.n.G < 41; round++ {
			s.n = answered(doAllOf(apps, hear(s.n, d.toldTo(s.n))), round)
			s.settles(t, &d, d.between(s.n.G+1, min(s.n.G+5, minByHand(s.n))))
		}
		if !sameNode(awakeFrom(t, s.disk), fallenByHand(s.n)) {
			t.Fatal(i, "another node in the end", s.n)
		}
		falls, backs, kept = falls+s.falls, backs+s.backs, kept+len(s.n.Outs)
	}
	if falls < 300 || backs < 200 || kept < 200 {
		t.Error("too few", falls, backs, kept)
	}
}
