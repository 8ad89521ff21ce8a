package tests

import (
	"slices"
	"sync"

	"loop.example/slackwater/impl"
)

// What the document says of slots, by hand.

func sameSlot(a impl.Slot, b impl.Slot) bool {
	return a.Number == b.Number && a.Count == b.Count && slices.EqualFunc(a.Data, b.Data, slices.Equal)
}

func sameDisk(a impl.SlotDisk, b impl.SlotDisk) bool {
	return sameSlot(a.A, b.A) && sameSlot(a.B, b.B)
}

func isNoDisk(d impl.SlotDisk) bool {
	return sameDisk(d, impl.SlotDisk{})
}

func sameStep(a impl.SlotStep, b impl.SlotStep) bool {
	return a.Second == b.Second && a.Sector == b.Sector && a.Number == b.Number && a.Count == b.Count && slices.Equal(a.Data, b.Data)
}

func sameSteps(a []impl.SlotStep, b []impl.SlotStep) bool {
	return slices.EqualFunc(a, b, sameStep)
}

func cloneSlot(s impl.Slot) impl.Slot {
	s.Data = slices.Clone(s.Data)
	for i := range s.Data {
		s.Data[i] = slices.Clone(s.Data[i])
	}
	return s
}

func cloneDisk(d impl.SlotDisk) impl.SlotDisk {
	return impl.SlotDisk{A: cloneSlot(d.A), B: cloneSlot(d.B)}
}

func canBeKept(n int) bool {
	return n >= -1 && n <= 9999
}

func sectorOkByHand(data []int) bool {
	for _, n := range data {
		if !canBeKept(n) {
			return false
		}
	}
	return len(data) <= 8
}

func slotOkByHand(s impl.Slot) bool {
	for _, data := range s.Data {
		if !sectorOkByHand(data) {
			return false
		}
	}
	return s.Number >= 0 && s.Number <= 9999 && s.Count >= 0 && s.Count <= 1280 && len(s.Data) == 160
}

func diskOkByHand(d impl.SlotDisk) bool {
	return slotOkByHand(d.A) && slotOkByHand(d.B) && (d.A.Number != d.B.Number || d.A.Number == 0)
}

func laterIsB(d impl.SlotDisk) bool {
	return d.B.Number > d.A.Number
}

func laterByHand(d impl.SlotDisk) impl.Slot {
	if laterIsB(d) {
		return d.B
	}
	return d.A
}

func readDiskByHand(d impl.SlotDisk) ([]int, bool) {
	s := laterByHand(d)
	if !diskOkByHand(d) || s.Number == 0 {
		return nil, false
	}
	var nums []int
	for _, data := range s.Data {
		for _, n := range data {
			if len(nums) < s.Count {
				nums = append(nums, n)
			}
		}
	}
	if len(nums) < s.Count {
		return nil, false
	}
	return nums, true
}

func saveByHand(d impl.SlotDisk, nums []int) ([]impl.SlotStep, bool) {
	number, second := laterByHand(d).Number, !laterIsB(d)
	if !diskOkByHand(d) || number == 9999 || len(nums) > 1280 || slices.ContainsFunc(nums, func(n int) bool { return !canBeKept(n) }) {
		return nil, false
	}
	steps := []impl.SlotStep{{Second: second, Sector: -1}}
	for at, n := range nums {
		if at%8 == 0 {
			steps = append(steps, impl.SlotStep{Second: second, Sector: at / 8})
		}
		last := &steps[len(steps)-1]
		last.Data = append(last.Data, n)
	}
	return append(steps, impl.SlotStep{Second: second, Sector: -1, Number: number + 1, Count: len(nums)}), true
}

// stepByHand does a step whatever comes of it, and takes it back where the disk is not ok then.
func stepByHand(d impl.SlotDisk, step impl.SlotStep) impl.SlotDisk {
	next := cloneDisk(d)
	s := &next.A
	if step.Second {
		s = &next.B
	}
	if step.Sector == -1 {
		s.Number, s.Count = step.Number, step.Count
	}
	if step.Sector >= 0 && step.Sector < 160 {
		s.Data[step.Sector] = slices.Clone(step.Data)
	}
	if !diskOkByHand(next) {
		return d
	}
	return next
}

func doByHand(d impl.SlotDisk, steps []impl.SlotStep, most int) impl.SlotDisk {
	if !diskOkByHand(d) {
		return impl.SlotDisk{}
	}
	d = cloneDisk(d)
	for i, step := range steps {
		if i < most {
			d = stepByHand(d, step)
		}
	}
	return d
}

// keptNum is often at the edges of what can be kept.
func (d *dice) keptNum() int {
	return []int{-1, 0, 1, 9998, 9999, d.between(-1, 9999)}[d.upTo(5)]
}

func (d *dice) keptNums(n int) []int {
	var nums []int
	for range n {
		nums = append(nums, d.keptNum())
	}
	return nums
}

// lengths are those where something changes, and others.
func (d *dice) length() int {
	return []int{0, 1, 7, 8, 9, 15, 16, 17, 24, d.upTo(40), d.upTo(1280), 1271, 1272, 1273, 1279, 1280}[d.upTo(15)]
}

// sectors are full ones, ragged ones, or some of both; many are empty.
func (d *dice) sectors() [][]int {
	data := make([][]int, 160)
	way, until := d.upTo(4), []int{0, 1, 2, d.upTo(160), 160}[d.upTo(4)]
	for at := range until {
		n := 8
		if way == 0 || way == 1 && d.upTo(9) == 0 {
			n = d.upTo(8)
		}
		if way == 2 && at == until-1 {
			n = d.upTo(8)
		}
		data[at] = d.keptNums(n)
	}
	return data
}

func (d *dice) anySlot() impl.Slot {
	s := impl.Slot{Number: []int{0, 1, 2, 9997, 9998, 9999, d.upTo(9999)}[d.upTo(6)], Data: d.sectors()}
	held := len(slices.Concat(s.Data...))
	s.Count = []int{0, 1, held, held, max(0, held-1), min(held+1, 1280), d.upTo(held), d.length(), 1280}[d.upTo(8)]
	return s
}

func (d *dice) anyDisk() impl.SlotDisk {
	for {
		disk := impl.SlotDisk{A: d.anySlot(), B: d.anySlot()}
		if d.upTo(9) == 0 {
			disk.A.Number, disk.B.Number = 0, 0
		}
		if d.upTo(3) == 0 && disk.A.Number < 9999 {
			disk.B.Number = disk.A.Number + 1
		}
		if diskOkByHand(disk) {
			return disk
		}
	}
}

// diskSpot is a disk that is ok, and numbers that can be kept.
type diskSpot struct {
	disk impl.SlotDisk
	nums []int
}

// diskSpots are thrown disks, new ones, and ones that were saved to. They are made once, and none of the tests writes into them.
var diskSpots = sync.OnceValue(func() []diskSpot {
	d := dice(272)
	var spots []diskSpot
	for i := range 400 {
		spots = append(spots, diskSpot{d.anyDisk(), d.keptNums(d.length())})
		if i%4 == 0 {
			spots = append(spots, diskSpot{d.savedDisk(), d.keptNums(d.length())})
		}
	}
	for _, n := range []int{0, 1, 7, 8, 9, 16, 17, 1279, 1280} {
		spots = append(spots, diskSpot{impl.SlotNew(), d.keptNums(n)})
	}
	return spots
})

// savedDisk was saved to some times, each time by some of the steps or by all.
func (d *dice) savedDisk() impl.SlotDisk {
	disk := impl.SlotDisk{A: impl.Slot{Data: make([][]int, 160)}, B: impl.Slot{Data: make([][]int, 160)}}
	for range d.between(1, 5) {
		steps, _ := saveByHand(disk, d.keptNums(d.upTo(40)))
		disk = doByHand(disk, steps, len(steps)-max(0, d.between(-3, len(steps))))
	}
	return disk
}

// maySave are those that can be saved to.
func maySave() []diskSpot {
	return slices.DeleteFunc(slices.Clone(diskSpots()), func(s diskSpot) bool { return laterByHand(s.disk).Number == 9999 })
}

// laterFirst is a disk whose later slot is A or B, both of them with numbers.
func laterFirst(second bool, number int) impl.SlotDisk {
	d := dice(273)
	slot := func(number int) impl.Slot {
		return impl.Slot{Number: number, Count: 12, Data: append([][]int{d.keptNums(8), d.keptNums(4)}, make([][]int, 158)...)}
	}
	if second {
		return impl.SlotDisk{A: slot(number - 1), B: slot(number)}
	}
	return impl.SlotDisk{A: slot(number), B: slot(number - 1)}
}
