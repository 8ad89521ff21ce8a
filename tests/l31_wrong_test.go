package tests

import (
	"math"
	"slices"
	"testing"

	"loop.example/slackwater/impl"
)

// wrongSlots are ways to make a slot of a disk not ok, each by itself.
func wrongSlots() []func(s *impl.Slot) {
	full := []int{1, 2, 3, 4, 5, 6, 7, 8}
	ways := []func(s *impl.Slot){
		func(s *impl.Slot) { s.Count = 1281 },
		func(s *impl.Slot) { s.Data = nil },
		func(s *impl.Slot) { s.Data = s.Data[:159] },
		func(s *impl.Slot) { s.Data = append(s.Data, nil) },
		func(s *impl.Slot) { s.Data = append(s.Data, s.Data...) },
	}
	for _, n := range []int{-1, 10000, math.MinInt, math.MaxInt} {
		ways = append(ways, func(s *impl.Slot) { s.Number = n })
	}
	for _, n := range []int{-1, math.MinInt, math.MaxInt} {
		ways = append(ways, func(s *impl.Slot) { s.Count = n })
	}
	for _, at := range []int{0, 1, 80, 159} {
		ways = append(ways, func(s *impl.Slot) { s.Data[at] = append(slices.Clone(full), 9) })
		ways = append(ways, func(s *impl.Slot) { s.Data[at] = make([]int, 100000) })
		for _, n := range []int{-2, 10000, math.MinInt, math.MaxInt} {
			ways = append(ways, func(s *impl.Slot) { s.Data[at] = []int{n} })
			ways = append(ways, func(s *impl.Slot) { s.Data[at] = append(full[:7:7], n) })
		}
	}
	return ways
}

// wrongDisks are not ok, each for one reason.
func wrongDisks() []impl.SlotDisk {
	disks := []impl.SlotDisk{{}, {A: impl.SlotNew().A}, {B: impl.SlotNew().B}}
	for _, second := range []bool{false, true} {
		for _, way := range wrongSlots() {
			a, b := laterFirst(second, 7), laterFirst(second, 7)
			way(&a.A)
			way(&b.B)
			disks = append(disks, a, b)
		}
	}
	for _, n := range []int{1, 2, 9998, 9999} {
		d := laterFirst(true, 7)
		d.A.Number, d.B.Number = n, n
		disks = append(disks, d)
	}
	return disks
}

// Promises 54 to 57: a disk that is not ok says nothing, nothing is saved to it, and nothing is done on it.
func TestWrongDisks(t *testing.T) {
	steps := []impl.SlotStep{{Sector: -1}, {Second: true, Sector: -1, Number: 3}}
	for i, d := range wrongDisks() {
		if impl.SlotOk(d) || diskOkByHand(d) {
			t.Errorf("disk %d is ok", i)
		}
		checkRead(t, d, nil, false, "not ok")
		if got, ok := impl.SlotSave(d, []int{1}); ok || len(got) > 0 {
			t.Errorf("disk %d: %v is saved", i, got)
		}
		for most := -1; most < 3; most++ {
			if got := impl.SlotDo(d, steps, most); !isNoDisk(got) {
				t.Errorf("disk %d: something is done", i)
			}
		}
	}
}

// Promises 54 to 57: each limit may be met exactly.
func TestLimitsOfDisksMayBeMet(t *testing.T) {
	full := make([][]int, 160)
	for at := range full {
		full[at] = []int{-1, 9999, 0, 1, -1, 9999, 9998, at}
	}
	for i, d := range []impl.SlotDisk{
		{A: impl.Slot{Number: 9999, Count: 1280, Data: full}, B: impl.Slot{Number: 9998, Count: 1280, Data: full}},
		{A: impl.Slot{Number: 0, Count: 1280, Data: full}, B: impl.Slot{Number: 0, Count: 0, Data: full}},
		{A: impl.Slot{Number: 0, Count: 1280, Data: full}, B: impl.Slot{Number: 9999, Count: 1280, Data: full}},
		{A: impl.Slot{Number: 1, Data: make([][]int, 160)}, B: impl.Slot{Number: 0, Data: make([][]int, 160)}},
	} {
		if !impl.SlotOk(d) {
			t.Errorf("disk %d is not ok", i)
		}
		want, ok := readDiskByHand(d)
		checkRead(t, d, want, ok, "at the limits")
		if ok && i != 3 && len(want) != 1280 {
			t.Error(i, len(want))
		}
	}
}

// Promise 55: one number that cannot be kept, at any place.
func TestWrongNumbersAreNotSaved(t *testing.T) {
	for _, many := range []int{1, 8, 9, 1280} {
		for _, at := range []int{0, many / 2, many - 1} {
			for _, n := range []int{-3, -2, -1, 0, 9998, 9999, 10000, 10001, math.MinInt, math.MaxInt, 1 << 32} {
				nums := make([]int, many)
				nums[at] = n
				steps, ok := impl.SlotSave(laterFirst(true, 3), nums)
				if ok != (n >= -1 && n <= 9999) || ok != (len(steps) > 0) {
					t.Error(many, at, n, ok, len(steps))
				}
			}
		}
	}
}

// leftOut are steps that change nothing of a disk whose Numbers are 6 and 7, the first one's slot being the one with 6.
func leftOut(second bool) []impl.SlotStep {
	steps := []impl.SlotStep{
		{Second: second, Sector: -1, Number: 7}, {Second: !second, Sector: -1, Number: 6, Count: 3},
		{Second: second, Sector: -1, Count: -1}, {Second: second, Sector: -1, Number: 8, Count: 1281},
		{Second: second, Sector: -1, Count: math.MinInt}, {Second: second, Sector: -1, Number: 8, Count: math.MaxInt},
	}
	for _, sector := range []int{-3, -2, 160, 161, 900, math.MinInt, math.MaxInt} {
		steps = append(steps, impl.SlotStep{Second: second, Sector: sector, Number: 8, Count: 1, Data: []int{1}})
		steps = append(steps, impl.SlotStep{Second: !second, Sector: sector})
	}
	for _, number := range []int{-1, 10000, math.MinInt, math.MaxInt} {
		steps = append(steps, impl.SlotStep{Second: second, Sector: -1, Number: number}, impl.SlotStep{Second: !second, Sector: -1, Number: number})
	}
	for _, sector := range []int{0, 1, 159} {
		for _, n := range []int{-2, 10000, math.MinInt, math.MaxInt} {
			steps = append(steps, impl.SlotStep{Second: second, Sector: sector, Data: []int{n}}, impl.SlotStep{Second: !second, Sector: sector, Data: []int{1, 2, 3, 4, 5, 6, 7, n}})
		}
		steps = append(steps, impl.SlotStep{Second: second, Sector: sector, Data: make([]int, 9)}, impl.SlotStep{Second: !second, Sector: sector, Data: make([]int, 100000)})
	}
	return steps
}

// Promise 54: a step that writes no place, or behind which the disk were not ok, is left out; the others are done.
func TestStepsThatAreLeftOut(t *testing.T) {
	for _, second := range []bool{false, true} {
		d := laterFirst(!second, 7)
		bad := leftOut(second)
		if !sameDisk(impl.SlotDo(d, bad, len(bad)), d) {
			t.Error("all of them do something")
		}
		save, _ := impl.SlotSave(d, []int{9, 8, 7, 6, 5, 4, 3, 2, 1})
		done := impl.SlotDo(d, save, 4)
		for i, step := range bad {
			if !sameDisk(impl.SlotDo(d, []impl.SlotStep{step}, 1), d) {
				t.Errorf("step %d does something: %v", i, step)
			}
			if i < 2 {
				continue
			}
			for at := range 5 {
				steps := slices.Insert(slices.Clone(save), at, step)
				if !sameDisk(impl.SlotDo(d, steps, 5), done) {
					t.Errorf("step %d at %d: others are not done: %v", i, at, step)
				}
				if !sameDisk(impl.SlotDo(d, steps, at+1), impl.SlotDo(d, save, at)) {
					t.Errorf("step %d at %d does not count: %v", i, at, step)
				}
			}
		}
	}
}

// Promise 54: whether a step is left out hangs on the disk that it comes to.
func TestStepsComeOneByOne(t *testing.T) {
	d := laterFirst(true, 7)
	same := impl.SlotStep{Sector: -1, Number: 7, Count: 1}
	other := impl.SlotStep{Second: true, Sector: -1, Number: 8, Count: 2}
	if got := impl.SlotDo(d, []impl.SlotStep{same, other}, 2); got.A.Number != 6 || got.B.Number != 8 {
		t.Error(got.A.Number, got.B.Number)
	}
	if got := impl.SlotDo(d, []impl.SlotStep{other, same}, 2); got.A.Number != 7 || got.B.Number != 8 || got.A.Count != 1 || got.B.Count != 2 {
		t.Error(got.A.Number, got.B.Number)
	}
	none := []impl.SlotStep{{Sector: -1, Count: 1280}, {Second: true, Sector: -1, Count: 5}}
	if got := impl.SlotDo(d, none, 2); got.A.Number != 0 || got.B.Number != 0 || got.A.Count != 1280 || got.B.Count != 5 || !impl.SlotOk(got) {
		t.Error(got.A.Number, got.B.Number)
	}
	last := []impl.SlotStep{{Sector: -1, Number: 9999, Count: 1280}, {Second: true, Sector: 159, Data: []int{-1, 9999, 3, 4, 5, 6, 7, 8}}}
	if got := impl.SlotDo(d, last, 2); got.A.Number != 9999 || got.A.Count != 1280 || !slices.Equal(got.B.Data[159], last[1].Data) {
		t.Error(got)
	}
}

// Promise 54: a step for a head has no numbers, and one for a sector no head; what they have of it does not matter.
func TestWhatAStepDoesNotName(t *testing.T) {
	d := laterFirst(false, 7)
	head := impl.SlotDo(d, []impl.SlotStep{{Sector: -1, Number: 30, Count: 4, Data: make([]int, 99)}, {Second: true, Sector: -1, Number: 31, Data: []int{-5}}}, 2)
	want := cloneDisk(d)
	want.A.Number, want.A.Count, want.B.Number, want.B.Count = 30, 4, 31, 0
	if !sameDisk(head, want) {
		t.Error(head)
	}
	sector := impl.SlotDo(d, []impl.SlotStep{{Sector: 5, Number: -9, Count: 5000, Data: []int{4, 4}}, {Second: true, Sector: 0, Number: 7, Count: -1}}, 2)
	want = cloneDisk(d)
	want.A.Data[5], want.B.Data[0] = []int{4, 4}, nil
	if !sameDisk(sector, want) {
		t.Error(sector)
	}
}

// Promise 54: so many steps as there are not, none, and less than none.
func TestHowManySteps(t *testing.T) {
	d := laterFirst(true, 7)
	steps, _ := impl.SlotSave(d, []int{1, 2, 3})
	for most, done := range map[int]int{math.MinInt: 0, -1: 0, 0: 0, 1: 1, 2: 2, 3: 3, 4: 3, 1000: 3, math.MaxInt: 3} {
		if !sameDisk(impl.SlotDo(d, steps, most), doByHand(d, steps, done)) {
			t.Error(most, done)
		}
		if !sameDisk(impl.SlotDo(d, nil, most), d) {
			t.Error("no steps", most)
		}
	}
}

// slotParts are all lists of a slot; the sectors are told by themselves.
func slotParts(s impl.Slot) []part {
	parts := []part{partOf(s.Data, make([]int, 99), func(a []int, b []int) bool { return len(a) == len(b) })}
	for _, data := range s.Data {
		parts = append(parts, numsPart(data))
	}
	return parts
}

func numsPart(list []int) part {
	return partOf(list, -9, func(a int, b int) bool { return a == b })
}

func diskParts(d impl.SlotDisk) []part {
	return append(slotParts(d.A), slotParts(d.B)...)
}

func stepsParts(steps []impl.SlotStep) []part {
	parts := []part{partOf(steps, impl.SlotStep{Sector: -9}, func(a impl.SlotStep, b impl.SlotStep) bool { return a.Sector == b.Sector && a.Number == b.Number })}
	for _, step := range steps {
		parts = append(parts, numsPart(step.Data))
	}
	return parts
}

func roomySlot(s impl.Slot) impl.Slot {
	s.Data = roomy(s.Data)
	for i := range s.Data {
		s.Data[i] = roomy(s.Data[i])
	}
	return s
}

// Nothing is written into a disk, its sectors or steps, or behind their ends, and what is answered shares nothing with them.
func TestDisksAreNewMemory(t *testing.T) {
	for i, s := range maySave() {
		if i%20 != 0 {
			continue
		}
		d := impl.SlotDisk{A: roomySlot(s.disk.A), B: roomySlot(s.disk.B)}
		wrong := impl.SlotDisk{A: d.A, B: d.B}
		wrong.A.Number = -1
		nums := roomy(s.nums)
		steps, _ := saveByHand(d, nums)
		steps = roomy(append(steps, impl.SlotStep{Sector: 3, Data: []int{1, 2}}, impl.SlotStep{Second: true, Sector: 3, Data: []int{-2}}))
		for k := range steps {
			steps[k].Data = roomy(steps[k].Data)
		}
		given := slices.Concat(diskParts(d), stepsParts(steps), []part{numsPart(nums)})
		for k, do := range []func() []part{
			func() []part { return diskParts(impl.SlotNew()) },
			func() []part { x, _ := impl.SlotRead(d); return []part{numsPart(x)} },
			func() []part { x, _ := impl.SlotRead(wrong); return []part{numsPart(x)} },
			func() []part { x, _ := impl.SlotSave(d, nums); return stepsParts(x) },
			func() []part { x, _ := impl.SlotSave(wrong, nums); return stepsParts(x) },
			func() []part { return diskParts(impl.SlotDo(d, steps, 0)) },
			func() []part { return diskParts(impl.SlotDo(d, steps, 2)) },
			func() []part { return diskParts(impl.SlotDo(d, steps, len(steps))) },
			func() []part { return diskParts(impl.SlotDo(wrong, steps, len(steps))) },
		} {
			impl.SlotOk(d)
			checkNew(t, given, do(), k)
		}
	}
	if !sameDisk(impl.SlotNew(), impl.SlotDisk{A: impl.Slot{Data: make([][]int, 160)}, B: impl.Slot{Data: make([][]int, 160)}}) {
		t.Error("what is answered is kept")
	}
}

// looseDisk is mostly ok.
func (d *dice) looseDisk() impl.SlotDisk {
	disk := d.anyDisk()
	slot := []*impl.Slot{&disk.A, &disk.B}[d.upTo(1)]
	switch d.upTo(9) {
	case 0:
		slot.Number = d.closeNum()
	case 1:
		slot.Count = []int{-1, 1280, 1281, d.closeNum()}[d.upTo(3)]
	case 2:
		slot.Data = [][][]int{nil, slot.Data[:159], append(slot.Data, nil), slot.Data[1:]}[d.upTo(3)]
	case 3:
		slot.Data[d.upTo(159)] = append(d.keptNums(d.upTo(8)), []int{-2, 10000, 0}[d.upTo(2)])
	case 4:
		disk.A.Number = disk.B.Number
	}
	return disk
}

func (d *dice) looseStep() impl.SlotStep {
	step := impl.SlotStep{Second: d.upTo(1) > 0, Sector: []int{-2, -1, -1, -1, 0, 1, 159, 160, d.upTo(159)}[d.upTo(8)]}
	step.Number = []int{-1, 0, 1, 2, 3, 4, 9998, 9999, 10000}[d.upTo(8)]
	step.Count = []int{-1, 0, 1, 8, 9, 1280, 1281}[d.upTo(6)]
	step.Data = d.keptNums([]int{0, 1, 7, 8, 8, 9}[d.upTo(5)])
	if d.upTo(9) == 0 {
		step.Data = append(step.Data, []int{-2, 10000}[d.upTo(1)])
	}
	return step
}

// Promises 54 to 57: every function answers, whatever it is given, as the document says.
func TestDisksAnswerWhateverTheyAreGiven(t *testing.T) {
	d := dice(277)
	oks, reads, saves, changes := 0, 0, 0, 0
	for i := range 1500 {
		disk := d.looseDisk()
		if impl.SlotOk(disk) != diskOkByHand(disk) {
			t.Fatal(i, "ok?", diskOkByHand(disk))
		}
		want, ok := readDiskByHand(disk)
		checkRead(t, disk, want, ok, "loose")
		nums := d.keptNums(d.upTo(20))
		if d.upTo(5) == 0 {
			nums = append(nums, []int{-2, 10000}[d.upTo(1)])
		}
		steps, saved := impl.SlotSave(disk, nums)
		if wantSteps, wantOk := saveByHand(disk, nums); saved != wantOk || !sameSteps(steps, wantSteps) {
			t.Fatal(i, steps, saved, wantSteps, wantOk)
		}
		var some []impl.SlotStep
		for range d.upTo(8) {
			some = append(some, d.looseStep())
		}
		most := d.between(-2, len(some)+2)
		got := impl.SlotDo(disk, some, most)
		if !sameDisk(got, doByHand(disk, some, most)) {
			t.Fatal(i, some, most)
		}
		oks, reads, saves = oks+count(impl.SlotOk(disk)), reads+count(ok), saves+count(saved)
		changes += count(impl.SlotOk(disk) && !sameDisk(got, disk))
	}
	if oks < 700 || oks > 1400 || reads < 300 || saves < 300 || changes < 300 {
		t.Error("too few", oks, reads, saves, changes)
	}
}
