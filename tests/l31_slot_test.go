package tests

import (
	"math"
	"slices"
	"testing"

	"loop.example/slackwater/impl"
)

func TestNewDisk(t *testing.T) {
	d := impl.SlotNew()
	none := impl.Slot{Data: make([][]int, 160)}
	if !sameDisk(d, impl.SlotDisk{A: none, B: none}) || !impl.SlotOk(d) {
		t.Error(d)
	}
	if nums, ok := impl.SlotRead(d); ok || len(nums) > 0 {
		t.Error(nums, ok)
	}
	if impl.SlotSize != 8 || impl.SlotMost != 160 {
		t.Error(impl.SlotSize, impl.SlotMost)
	}
}

// checkRead holds also that nothing comes beside the false.
func checkRead(t *testing.T, d impl.SlotDisk, want []int, wantOk bool, why string) {
	t.Helper()
	if got, ok := impl.SlotRead(d); ok != wantOk || !slices.Equal(got, want) {
		t.Fatal(why, got, ok, want, wantOk)
	}
}

// Promise 54.
func TestWhatWasKeptIsKeptWhole(t *testing.T) {
	silent, broken := 0, 0
	for i, s := range maySave() {
		said, saidOk := readDiskByHand(s.disk)
		checkRead(t, s.disk, said, saidOk, "ahead of a save")
		steps, ok := impl.SlotSave(s.disk, s.nums)
		if !ok {
			t.Fatal(i, "not saved")
		}
		for most := -2; most < len(steps)+3; most++ {
			d := impl.SlotDo(s.disk, steps, most)
			if !impl.SlotOk(d) || !diskOkByHand(d) {
				t.Fatal(i, most, "not ok")
			}
			if most < len(steps) {
				checkRead(t, d, said, saidOk, "broken off")
				broken++
			} else {
				checkRead(t, d, s.nums, true, "behind all")
			}
		}
		silent += count(!saidOk)
	}
	if silent < 40 || broken < 8000 {
		t.Error("too few", silent, broken)
	}
}

// Promise 54: what is done is done step by step, by hand too.
func TestSavesAreDoneStepByStep(t *testing.T) {
	for i, s := range maySave() {
		steps, _ := impl.SlotSave(s.disk, s.nums)
		if i%6 != 0 && len(steps) > 10 {
			continue
		}
		said, saidOk := readDiskByHand(s.disk)
		want := s.disk
		for most := range len(steps) + 1 {
			if most > 0 {
				want = stepByHand(want, steps[most-1])
			}
			got := impl.SlotDo(s.disk, steps, most)
			if !sameDisk(got, want) {
				t.Fatal(i, most, "another disk")
			}
			if most < len(steps) {
				checkRead(t, want, said, saidOk, "broken off")
			}
		}
		checkRead(t, want, s.nums, true, "behind all")
		for _, most := range []int{math.MinInt, -1, len(steps) + 1, math.MaxInt} {
			if !sameDisk(impl.SlotDo(s.disk, steps, most), doByHand(s.disk, steps, most)) {
				t.Fatal(i, most, "another disk")
			}
		}
	}
}

// Promise 54: a later slot that holds fewer numbers than its Count says nothing, and goes on so until all is saved.
func TestLaterSlotThatCannotBeRead(t *testing.T) {
	for _, x := range []struct {
		held  []int
		count int
		reads bool
	}{
		{nil, 0, true}, {nil, 1, false}, {[]int{1}, 1, true}, {[]int{1}, 2, false}, {[]int{8, 8}, 16, true}, {[]int{8, 8}, 17, false},
		{[]int{0, 3, 0, 5}, 8, true}, {[]int{0, 3, 0, 5}, 9, false}, {[]int{0, 3, 0, 5}, 4, true}, {[]int{8}, 1280, false},
	} {
		for _, second := range []bool{false, true} {
			later := impl.Slot{Number: 5, Count: x.count, Data: make([][]int, 160)}
			var nums []int
			for at, n := range x.held {
				for k := range n {
					later.Data[at] = append(later.Data[at], 100*at+k)
				}
				nums = append(nums, later.Data[at]...)
			}
			d := impl.SlotDisk{A: later, B: laterFirst(true, 4).B}
			if second {
				d = impl.SlotDisk{A: d.B, B: d.A}
			}
			if !x.reads {
				nums = nil
			}
			checkRead(t, d, nums[:min(len(nums), x.count)], x.reads, "ahead of a save")
			steps, ok := impl.SlotSave(d, []int{7, 8, 9})
			if !ok || len(steps) != 3 || steps[0].Second == second {
				t.Fatal(x, steps, ok)
			}
			for most := range 3 {
				checkRead(t, impl.SlotDo(d, steps, most), nums[:min(len(nums), x.count)], x.reads, "broken off")
			}
			checkRead(t, impl.SlotDo(d, steps, 3), []int{7, 8, 9}, true, "behind all")
		}
	}
}

// Promise 54: a slot with the Number 0 says nothing, whatever it has.
func TestBothNumbersZero(t *testing.T) {
	d := impl.SlotDisk{A: laterFirst(false, 1).A, B: laterFirst(true, 2).B}
	d.A.Number, d.B.Number = 0, 0
	if !impl.SlotOk(d) {
		t.Fatal(d)
	}
	checkRead(t, d, nil, false, "both 0")
	steps, ok := impl.SlotSave(d, []int{3})
	want := []impl.SlotStep{{Second: true, Sector: -1}, {Second: true, Data: []int{3}}, {Second: true, Sector: -1, Number: 1, Count: 1}}
	if !ok || !sameSteps(steps, want) {
		t.Fatal(steps, ok)
	}
	for most := range 3 {
		checkRead(t, impl.SlotDo(d, steps, most), nil, false, "broken off")
	}
	next := impl.SlotDo(d, steps, 3)
	checkRead(t, next, []int{3}, true, "behind all")
	if !sameSlot(next.A, d.A) || next.B.Number != 1 || !slices.Equal(next.B.Data[1], d.B.Data[1]) {
		t.Error(next)
	}
}

// Promise 55.
func TestWhatIsSavedIsReadBack(t *testing.T) {
	lengths, seconds, none := map[int]int{}, 0, 0
	for i, s := range diskSpots() {
		steps, ok := impl.SlotSave(s.disk, s.nums)
		want, wantOk := saveByHand(s.disk, s.nums)
		if ok != wantOk || !sameSteps(steps, want) {
			t.Fatal(i, "other steps", steps, want)
		}
		if !ok {
			none++
			continue
		}
		for _, most := range []int{len(steps), len(steps) + 1, math.MaxInt} {
			d := impl.SlotDo(s.disk, steps, most)
			checkRead(t, d, s.nums, true, "saved")
			if laterByHand(d).Number != laterByHand(s.disk).Number+1 || laterIsB(d) == laterIsB(s.disk) {
				t.Fatal(i, "not the other slot")
			}
		}
		lengths[len(s.nums)]++
		seconds += count(steps[0].Second)
	}
	for _, n := range []int{0, 1, 7, 8, 9, 16, 17, 1279, 1280} {
		if lengths[n] < 5 {
			t.Error("too few", n, lengths[n])
		}
	}
	if seconds < 100 || seconds > len(diskSpots())-100 || none < 20 {
		t.Error("too few", seconds, none)
	}
}

// Promise 55: how sectors are filled, of no numbers at all up to as many as fit, and one more.
func TestSectorsOfASave(t *testing.T) {
	d := dice(274)
	all := d.keptNums(1281)
	for n := range 1281 {
		nums := all[:n]
		for _, second := range []bool{false, true} {
			disk := laterFirst(second, 41)
			steps, ok := impl.SlotSave(disk, nums)
			full, rest := n/8, n%8
			if !ok || len(steps) != 2+full+count(rest > 0) {
				t.Fatal(n, ok, len(steps))
			}
			first, last := impl.SlotStep{Second: !second, Sector: -1}, impl.SlotStep{Second: !second, Sector: -1, Number: 42, Count: n}
			if !sameStep(steps[0], first) || !sameStep(steps[len(steps)-1], last) {
				t.Fatal(n, steps)
			}
			for at, step := range steps[1 : len(steps)-1] {
				if want := nums[8*at : min(8*at+8, n)]; !sameStep(step, impl.SlotStep{Second: !second, Sector: at, Data: want}) {
					t.Fatal(n, at, step, want)
				}
			}
			if n < 40 || n > 1240 || n%100 == 3 {
				checkRead(t, impl.SlotDo(disk, steps, len(steps)), nums, true, "saved")
			}
		}
	}
	if steps, ok := impl.SlotSave(impl.SlotNew(), all); ok || len(steps) > 0 {
		t.Error("more than fit", len(steps), ok)
	}
	if steps, ok := impl.SlotSave(impl.SlotNew(), make([]int, 5000000)); ok || len(steps) > 0 {
		t.Error("many more than fit", len(steps), ok)
	}
}

// Promise 55: one save behind the other, up to the last Number there is; the one of 9998 goes, none of 9999 does.
func TestSavesUpToTheLastNumber(t *testing.T) {
	d := impl.SlotNew()
	for n := 1; n <= 9999; n++ {
		nums := []int{n, n - 2, 9999}[:n%4*3/4]
		steps, ok := impl.SlotSave(d, nums)
		if !ok || steps[0].Second != (n%2 == 1) || steps[len(steps)-1].Number != n {
			t.Fatal(n, steps, ok)
		}
		d = impl.SlotDo(d, steps, len(steps))
		checkRead(t, d, nums, true, "saved")
	}
	said, _ := impl.SlotRead(d)
	for _, nums := range [][]int{nil, {1}, said} {
		if steps, ok := impl.SlotSave(d, nums); ok || len(steps) > 0 {
			t.Error("a Number above 9999", steps, ok)
		}
	}
	checkRead(t, d, said, true, "still there")
	for _, second := range []bool{false, true} {
		if steps, ok := impl.SlotSave(laterFirst(second, 9998), []int{1}); !ok || steps[2].Number != 9999 {
			t.Error(steps, ok)
		}
		if steps, ok := impl.SlotSave(laterFirst(second, 9999), []int{1}); ok || len(steps) > 0 {
			t.Error(steps, ok)
		}
	}
}

// Promise 56.
func TestASaveBehindOneThatBrokeOff(t *testing.T) {
	d := dice(275)
	broken := 0
	for i, s := range maySave() {
		if len(s.nums) > 100 && i%10 != 0 {
			continue
		}
		said, saidOk := readDiskByHand(s.disk)
		steps, _ := impl.SlotSave(s.disk, s.nums)
		for most := range len(steps) {
			off := impl.SlotDo(s.disk, steps, most)
			nums := d.keptNums(d.upTo(30))
			again, ok := impl.SlotSave(off, nums)
			if whole, wholeOk := impl.SlotSave(s.disk, nums); !ok || !wholeOk || !sameSteps(again, whole) {
				t.Fatal(i, most, "another save", again, whole)
			}
			for k := range again {
				checkRead(t, impl.SlotDo(off, again, k), said, saidOk, "broken off once more")
			}
			behind := impl.SlotDo(off, again, len(again))
			checkRead(t, behind, nums, true, "behind one that broke off")
			third, ok := impl.SlotSave(behind, s.nums)
			if last := laterByHand(s.disk).Number == 9998; ok == last {
				t.Fatal(i, most, "no third save", ok)
			} else if !last {
				checkRead(t, impl.SlotDo(behind, third, len(third)), s.nums, true, "behind that")
			}
			broken++
		}
	}
	if broken < 2000 {
		t.Error("too few", broken)
	}
}

// Promise 56: many saves, some of which break off; what is read is what the last whole one saved.
func TestManySavesThatBreakOff(t *testing.T) {
	d := dice(276)
	wholes, offs := 0, 0
	for range 60 {
		disk := impl.SlotNew()
		var said []int
		for saved := false; laterByHand(disk).Number < 25; {
			nums := d.keptNums(d.upTo(50))
			steps, ok := impl.SlotSave(disk, nums)
			if !ok {
				t.Fatal("not saved", laterByHand(disk).Number)
			}
			most := d.upTo(len(steps)) + d.upTo(3)
			disk = impl.SlotDo(disk, steps, most)
			if most >= len(steps) {
				said, saved = nums, true
				wholes++
			} else {
				offs++
			}
			checkRead(t, disk, said, saved, "one of many")
		}
	}
	if wholes != 60*25 || offs < 300 {
		t.Error("too few", wholes, offs)
	}
}

// Promise 57.
func TestASaveNeverTouchesTheLaterSlot(t *testing.T) {
	seconds := 0
	for i, s := range maySave() {
		steps, _ := impl.SlotSave(s.disk, s.nums)
		later, second := laterByHand(s.disk), laterIsB(s.disk)
		for k, step := range steps {
			if step.Second == second {
				t.Fatal(i, k, "a step for the later slot", step)
			}
		}
		for most := range len(steps) + 1 {
			d := impl.SlotDo(s.disk, steps, most)
			same := d.A
			if second {
				same = d.B
			}
			if !sameSlot(same, later) {
				t.Fatal(i, most, "the later slot is another one")
			}
		}
		seconds += count(second)
	}
	if seconds < 100 || seconds > 400 {
		t.Error("too few", seconds)
	}
}

// Promise 57: what stands behind what was saved stays, in the other slot too.
func TestASaveWritesNoMoreThanItSays(t *testing.T) {
	for i, s := range maySave() {
		steps, _ := impl.SlotSave(s.disk, s.nums)
		got := impl.SlotDo(s.disk, steps, len(steps))
		want := cloneDisk(s.disk)
		other := &want.B
		if laterIsB(s.disk) {
			other = &want.A
		}
		other.Number, other.Count = laterByHand(s.disk).Number+1, len(s.nums)
		for at := range slices.Collect(slices.Chunk(s.nums, 8)) {
			other.Data[at] = s.nums[8*at : min(8*at+8, len(s.nums))]
		}
		if !sameDisk(got, want) {
			t.Fatal(i, "another disk")
		}
	}
}
