package tests

import (
	"math"
	"slices"
	"testing"

	"loop.example/slackwater/impl"
)

const laneRounds = 1500

func samePast(a impl.Past, b impl.Past) bool {
	return a.Event == b.Event && a.After == b.After && slices.Equal(a.Sends, b.Sends) && slices.Equal(a.Outs, b.Outs)
}

func sameDone(a []impl.Past, b []impl.Past) bool {
	return slices.EqualFunc(a, b, samePast)
}

func sameLane(a impl.Lane, b impl.Lane) bool {
	return a.Proc == b.Proc && a.Base == b.Base && sameDone(a.Done, b.Done)
}

func isNoLane(l impl.Lane) bool {
	return sameLane(l, impl.Lane{})
}

// inOrder is by the parts that the document lists, not by the program.
func inOrder(list []impl.Event) []impl.Event {
	list = slices.Clone(list)
	slices.SortFunc(list, compareEvents)
	return slices.Compact(list)
}

func outsByHand(list []impl.Out) []impl.Out {
	list = slices.Clone(list)
	slices.SortFunc(list, compareOuts)
	return list
}

// eventFor is of one of few times, so that events often differ in their last parts alone.
func (d *dice) eventFor(proc int) impl.Event {
	e := d.event()
	e.To = proc
	if d.upTo(2) > 0 {
		e.Time, e.From, e.Count, e.N = d.upTo(9), d.between(-1, 1), d.upTo(1), d.upTo(1)
	}
	return e
}

func (d *dice) cameFor(proc int, most int) []impl.Event {
	var list []impl.Event
	for range d.upTo(most) {
		list = append(list, d.eventFor(proc))
	}
	return inOrder(list)
}

// changed is what has come with some of it gone, some of it other, and some that is new.
func (d *dice) changed(proc int, came []impl.Event) []impl.Event {
	var list []impl.Event
	for _, e := range came {
		switch d.upTo(11) {
		case 0:
			continue
		case 1:
			e.Arg = d.num()
		case 2:
			list = append(list, d.eventFor(proc))
		}
		list = append(list, e)
	}
	return inOrder(list)
}

func (d *dice) base() impl.State {
	s := d.state()
	s.Count = d.upTo(impl.AppMaxSteps)
	return s
}

// pastByHand is what the document says of one event that is done.
func pastByHand(a impl.App, s impl.State, e impl.Event) impl.Past {
	after, sends, outs := impl.AppRun(a, s, e)
	return impl.Past{Event: e, After: after, Sends: inOrder(sends), Outs: outsByHand(outs)}
}

// laneByHand has done all of a list, from base on.
func laneByHand(a impl.App, proc int, base impl.State, list []impl.Event) impl.Lane {
	l := impl.Lane{Proc: proc, Base: base}
	now := base
	for _, e := range list {
		l.Done = append(l.Done, pastByHand(a, now, e))
		now = l.Done[len(l.Done)-1].After
	}
	return l
}

// anyLane is ok, but not what any program does.
func (d *dice) anyLane(proc int, list []impl.Event) impl.Lane {
	l := impl.Lane{Proc: proc, Base: d.base()}
	for _, e := range list {
		p := impl.Past{Event: e, After: d.base()}
		for range d.upTo(2) {
			p.Sends = append(p.Sends, d.eventFor(d.upTo(2)))
			p.Outs = append(p.Outs, impl.Out{Time: d.upTo(2), Proc: d.upTo(1), Count: d.upTo(11), N: d.upTo(1), Value: d.num()})
		}
		p.Sends = inOrder(p.Sends)
		p.Outs = slices.Compact(outsByHand(p.Outs))
		l.Done = append(l.Done, p)
	}
	return l
}

func nowByHand(l impl.Lane) impl.State {
	if len(l.Done) == 0 {
		return l.Base
	}
	return l.Done[len(l.Done)-1].After
}

func agreeByHand(l impl.Lane, came []impl.Event) int {
	n := 0
	for n < len(l.Done) && n < len(came) && l.Done[n].Event == came[n] {
		n++
	}
	return n
}

func doAll(a impl.App, l impl.Lane, came []impl.Event) impl.Lane {
	for {
		next, ok := impl.LaneStep(a, l, came)
		if !ok {
			return l
		}
		l = next
	}
}

// Promise 19.
func TestWhatIsDoneAheadIsDoneInOrder(t *testing.T) {
	d := dice(31)
	sent, let, full := 0, 0, 0
	for i := range laneRounds {
		proc := d.upTo(impl.AppProcs - 1)
		a, came := d.simApps(i)[proc], d.cameFor(proc, 20)
		l := impl.Lane{Proc: proc, Base: d.base()}
		for n := range came {
			now := impl.LaneNow(l)
			if now != nowByHand(l) {
				t.Fatal("known wrongly", l, now)
			}
			next, ok := impl.LaneStep(a, l, came)
			want := append(slices.Clone(l.Done), pastByHand(a, now, came[n]))
			if !ok || !sameLane(next, impl.Lane{Proc: proc, Base: l.Base, Done: want}) || !impl.LaneOk(next) {
				t.Fatal(impl.AppWrite([]impl.App{a, {}, {}, {}}), l, came, next, ok)
			}
			sent, let = sent+len(want[n].Sends), let+len(want[n].Outs)
			if now.Count == impl.AppMaxSteps {
				full++
			}
			l = next
		}
		if next, ok := impl.LaneStep(a, l, came); ok || !sameLane(next, l) {
			t.Fatal("something is done behind all", l, came, next)
		}
	}
	if sent < laneRounds || let < laneRounds || full < laneRounds {
		t.Error("too little was sent, or let out, or went by", sent, let, full)
	}
}

// Promise 19: what one event sends is put into order, and who has done all that it may lets events go by.
func TestWhatALaneKeepsOfAnEvent(t *testing.T) {
	a := mustRead(t, "proc\nrule 1\narg x\nsend 3 2 9 x\nout x\nmore x 1\nsend 1 0 9 x\nout x\nproc\nproc\nproc\n")[0]
	e := impl.Event{Time: 5, To: 2, From: 0, Count: 1, Kind: 1, Arg: 999}
	l := impl.Lane{Proc: 2, Base: impl.State{Y: 4, Count: 11}}
	got, ok := impl.LaneStep(a, l, []impl.Event{e})
	want := impl.Past{
		Event: e,
		After: impl.State{Y: 4, Count: 12},
		Sends: []impl.Event{{Time: 14, To: 1, From: 2, Count: 11, N: 1}, {Time: 14, To: 3, From: 2, Count: 11, Kind: 2, Arg: 999}},
		Outs:  []impl.Out{{Time: 5, Proc: 2, Count: 11, Value: 999}, {Time: 5, Proc: 2, Count: 11, N: 1}},
	}
	if !ok || got.Proc != 2 || got.Base != l.Base || !sameDone(got.Done, []impl.Past{want}) {
		t.Fatal(got, ok)
	}
	late := e
	late.Time = impl.AppEnd
	got, ok = impl.LaneStep(a, got, []impl.Event{e, late})
	if !ok || !sameDone(got.Done, []impl.Past{want, {Event: late, After: want.After}}) || got.Base != l.Base {
		t.Error("it does more than it may", got, ok)
	}
}

// Promise 20.
func TestWhatDoesNotAgreeIsUndone(t *testing.T) {
	d := dice(32)
	cuts, wholes := 0, 0
	for range laneRounds {
		proc := d.upTo(impl.AppProcs - 1)
		came := d.cameFor(proc, 20)
		l := d.anyLane(proc, came)
		news := d.changed(proc, came)
		n := agreeByHand(l, news)
		got, did := impl.LaneCut(l, news)
		want := impl.Lane{Proc: proc, Base: l.Base, Done: l.Done[:n]}
		if !sameLane(got, want) || did != (n < len(l.Done)) || !impl.LaneOk(got) {
			t.Fatal(l, news, got, did)
		}
		if again, did := impl.LaneCut(got, news); did || !sameLane(again, got) {
			t.Fatal("cut once more it does not stay", got, news, again)
		}
		if did && n > 0 {
			cuts++
		} else if !did && n > 0 {
			wholes++
		}
	}
	if cuts < laneRounds/10 || wholes < laneRounds/20 {
		t.Error("too few were cut in their midst, or not at all", cuts, wholes)
	}
}

// Promise 20: nothing, all, a beginning, and an event that is just not the same in one part.
func TestEdgesOfLaneCut(t *testing.T) {
	came := manyEvents(5, 7)
	d := dice(33)
	l := d.anyLane(1, came)
	for n := range len(came) + 1 {
		if got, did := impl.LaneCut(l, came[:n]); did != (n < 5) || !sameDone(got.Done, l.Done[:n]) || got.Base != l.Base || got.Proc != 1 {
			t.Error("of a beginning", n, got, did)
		}
		if got, did := impl.LaneCut(impl.Lane{Proc: 1, Base: l.Base, Done: l.Done[:n]}, came); did || !sameDone(got.Done, l.Done[:n]) || got.Base != l.Base {
			t.Error("all agrees", n, got, did)
		}
	}
	if got, did := impl.LaneCut(l, came[1:]); !did || len(got.Done) != 0 || got.Base != l.Base || got.Proc != 1 {
		t.Error("the first is gone", got, did)
	}
	ahead := impl.Event{Time: 6, To: 1}
	if got, did := impl.LaneCut(l, append([]impl.Event{ahead}, came...)); !did || len(got.Done) != 0 {
		t.Error("one comes ahead of all", got, did)
	}
	one := impl.Event{Time: 3, To: 1, From: 1, Count: 3, N: 2, Kind: 2, Arg: 5}
	for i, other := range []impl.Event{
		{Time: 4, To: 1, From: 1, Count: 3, N: 2, Kind: 2, Arg: 5}, {Time: 3, To: 1, From: 2, Count: 3, N: 2, Kind: 2, Arg: 5},
		{Time: 3, To: 1, From: 1, Count: 4, N: 2, Kind: 2, Arg: 5}, {Time: 3, To: 1, From: 1, Count: 3, N: 1, Kind: 2, Arg: 5},
		{Time: 3, To: 1, From: 1, Count: 3, N: 2, Kind: 3, Arg: 5}, {Time: 3, To: 1, From: 1, Count: 3, N: 2, Kind: 2, Arg: 6},
	} {
		if got, did := impl.LaneCut(impl.Lane{Proc: 1, Done: []impl.Past{{Event: one}}}, []impl.Event{other}); !did || len(got.Done) != 0 {
			t.Error("part", i, got, did)
		}
	}
}

// Promise 20: events that stand in what has come, but at another place, do not agree.
func TestWhatStandsElsewhereDoesNotAgree(t *testing.T) {
	came := manyEvents(6, 7)
	d := dice(34)
	l := d.anyLane(1, came)
	without := slices.Delete(slices.Clone(came), 2, 3)
	if got, did := impl.LaneCut(l, without); !did || !sameDone(got.Done, l.Done[:2]) {
		t.Error("behind one that is gone", got, did)
	}
	fewer := impl.Lane{Proc: 1, Base: l.Base, Done: slices.Delete(slices.Clone(l.Done), 2, 3)}
	if got, did := impl.LaneCut(fewer, came); !did || !sameDone(got.Done, l.Done[:2]) {
		t.Error("behind one that has come", got, did)
	}
}

// Promise 21.
func TestWhatIsDoneAgainIsDoneAlike(t *testing.T) {
	d := dice(35)
	again := 0
	for i := range laneRounds {
		proc := d.upTo(impl.AppProcs - 1)
		a, came := d.simApps(i)[proc], d.cameFor(proc, 20)
		base := d.base()
		l := laneByHand(a, proc, base, came[:d.upTo(len(came))])
		news := d.changed(proc, came)
		cut, did := impl.LaneCut(l, news)
		if got := doAll(a, cut, news); !sameLane(got, laneByHand(a, proc, base, news)) {
			t.Fatal(impl.AppWrite([]impl.App{a, {}, {}, {}}), l, news, got)
		}
		back, _ := impl.LaneCut(doAll(a, cut, news), came)
		if got := doAll(a, back, came); !sameLane(got, laneByHand(a, proc, base, came)) {
			t.Fatal("there and back again", impl.AppWrite([]impl.App{a, {}, {}, {}}), l, came, got)
		}
		if did {
			again++
		}
	}
	if again < laneRounds/10 {
		t.Error("too few were undone", again)
	}
}

func settleByHand(l impl.Lane, until int) (impl.Lane, []impl.Event, []impl.Out) {
	var sends []impl.Event
	var outs []impl.Out
	for len(l.Done) > 0 && l.Done[0].Event.Time < until {
		l.Base = l.Done[0].After
		sends = append(sends, l.Done[0].Sends...)
		outs = append(outs, l.Done[0].Outs...)
		l.Done = l.Done[1:]
	}
	return l, inOrder(sends), outsByHand(outs)
}

// Promise 22.
func TestWhatIsSettledStaysKnown(t *testing.T) {
	d := dice(36)
	settled := 0
	for i := range laneRounds {
		proc := d.upTo(impl.AppProcs - 1)
		came := d.cameFor(proc, 20)
		l := d.anyLane(proc, came)
		if i%2 == 0 {
			l = laneByHand(d.busyApps()[proc], proc, d.base(), came)
		}
		for _, until := range []int{math.MinInt, -1, 0, 1, d.upTo(10), d.upTo(impl.AppEnd), impl.AppEnd, impl.AppEnd + 1, math.MaxInt} {
			got, sends, outs := impl.LaneSettle(l, until)
			want, wantSends, wantOuts := settleByHand(l, until)
			if !sameLane(got, want) || !slices.Equal(sends, wantSends) || !slices.Equal(outs, wantOuts) {
				t.Fatal(l, until, got, sends, outs)
			}
			if impl.LaneNow(got) != impl.LaneNow(l) || !impl.LaneOk(got) {
				t.Fatal("what is known is another", l, until, got)
			}
			if len(got.Done) > 0 && len(got.Done) < len(l.Done) {
				settled++
			}
		}
	}
	if settled < laneRounds {
		t.Error("too few were settled in part", settled)
	}
}

// Promise 22: ahead of a time, and then ahead of a later one, is ahead of that; what was told is told once.
func TestSettlingGoesOn(t *testing.T) {
	d := dice(37)
	for range laneRounds {
		came := d.cameFor(3, 20)
		l := laneByHand(d.busyApps()[3], 3, d.base(), came)
		early, late := d.upTo(12), d.upTo(41)
		if early > late {
			early, late = late, early
		}
		mid, sends1, outs1 := impl.LaneSettle(l, early)
		end, sends2, outs2 := impl.LaneSettle(mid, late)
		want, sends, outs := impl.LaneSettle(l, late)
		if !sameLane(end, want) || !slices.Equal(inOrder(append(sends1, sends2...)), sends) || !slices.Equal(outsByHand(append(outs1, outs2...)), outs) {
			t.Fatal(l, early, late)
		}
	}
}

// Promise 22: what is just at the time is left; what was sent is told each once, what was let out as often as it was.
func TestEdgesOfLaneSettle(t *testing.T) {
	s1, s2 := impl.Event{Time: 9, To: 1, From: 2}, impl.Event{Time: 8, To: 3, From: 2}
	o1, o2 := impl.Out{Time: 4, Proc: 2, Value: 1}, impl.Out{Time: 3, Proc: 2, Value: 2}
	l := impl.Lane{Proc: 2, Base: impl.State{X: 1}, Done: []impl.Past{
		{Event: impl.Event{Time: 0, To: 2, From: -1}, After: impl.State{X: 2}, Sends: []impl.Event{s1}, Outs: []impl.Out{o1}},
		{Event: impl.Event{Time: 4, To: 2}, After: impl.State{X: 3}, Sends: []impl.Event{s2, s1}, Outs: []impl.Out{o2, o1}},
		{Event: impl.Event{Time: 4, To: 2, Arg: 1}, After: impl.State{X: 4}},
		{Event: impl.Event{Time: 40, To: 2}, After: impl.State{X: 5}, Sends: []impl.Event{{Time: 1}}, Outs: []impl.Out{{}}},
	}}
	if !impl.LaneOk(l) {
		t.Fatal("not ok")
	}
	for _, c := range []struct {
		until, left, x int
		sends          []impl.Event
		outs           []impl.Out
	}{
		{until: 0, left: 4, x: 1},
		{until: 1, left: 3, x: 2, sends: []impl.Event{s1}, outs: []impl.Out{o1}},
		{until: 4, left: 3, x: 2, sends: []impl.Event{s1}, outs: []impl.Out{o1}},
		{until: 5, left: 1, x: 4, sends: []impl.Event{s2, s1}, outs: []impl.Out{o2, o1, o1}},
		{until: 40, left: 1, x: 4, sends: []impl.Event{s2, s1}, outs: []impl.Out{o2, o1, o1}},
		{until: 41, left: 0, x: 5, sends: []impl.Event{{Time: 1}, s2, s1}, outs: []impl.Out{{}, o2, o1, o1}},
	} {
		got, sends, outs := impl.LaneSettle(l, c.until)
		want := impl.Lane{Proc: 2, Base: impl.State{X: c.x}, Done: l.Done[4-c.left:]}
		if !sameLane(got, want) || !slices.Equal(sends, c.sends) || !slices.Equal(outs, c.outs) {
			t.Error(c.until, got, sends, outs)
		}
	}
}

// Promise 23.
func TestWhatIsNextIsTheFirstThatIsNotDone(t *testing.T) {
	d := dice(38)
	nexts, nones := 0, 0
	for range laneRounds {
		proc := d.upTo(impl.AppProcs - 1)
		came := d.cameFor(proc, 20)
		l := d.anyLane(proc, came[:d.upTo(len(came))])
		news := came
		if d.upTo(1) == 0 {
			news = d.changed(proc, came)
		}
		n := agreeByHand(l, news)
		wantOk := n == len(l.Done) && n < len(news)
		var want impl.Event
		if wantOk {
			want = news[n]
			nexts++
		} else {
			nones++
		}
		if e, ok := impl.LaneNext(l, news); ok != wantOk || e != want {
			t.Fatal(l, news, e, ok)
		}
	}
	if nexts < laneRounds/4 || nones < laneRounds/4 {
		t.Error("too few were next, or none", nexts, nones)
	}
}

// Promise 23: nothing has come, all is done, and more is done than agrees.
func TestEdgesOfLaneNext(t *testing.T) {
	came := manyEvents(3, 7)
	d := dice(39)
	l := d.anyLane(1, came[:2])
	for i, c := range []struct {
		l    impl.Lane
		came []impl.Event
		next impl.Event
		ok   bool
	}{
		{l: impl.Lane{Proc: 1}},
		{l: impl.Lane{Proc: 1}, came: came, next: came[0], ok: true},
		{l: l, came: came, next: came[2], ok: true},
		{l: l, came: came[:2]},
		{l: l, came: came[:1]},
		{l: l},
		{l: l, came: came[1:]},
		{l: l, came: []impl.Event{came[0], came[2]}},
		{l: impl.Lane{}, came: []impl.Event{{}}, ok: true},
	} {
		if e, ok := impl.LaneNext(c.l, c.came); e != c.next || ok != c.ok {
			t.Error(i, e, ok)
		}
		next, ok := impl.LaneStep(impl.App{}, c.l, c.came)
		if ok != c.ok || !ok && !sameLane(next, c.l) {
			t.Error("a step", i, next, ok)
		}
		if ok && (len(next.Done) != len(c.l.Done)+1 || next.Done[len(c.l.Done)].Event != c.next) {
			t.Error("a step", i, next)
		}
	}
}

// Promise 24.
func TestWhatComesBehindUndoesNothing(t *testing.T) {
	d := dice(40)
	behind := 0
	for range laneRounds {
		proc := d.upTo(impl.AppProcs - 1)
		came := d.cameFor(proc, 20)
		done := d.upTo(len(came))
		l := d.anyLane(proc, came[:done])
		news := slices.Clone(came[:done])
		for range d.upTo(9) {
			if e := d.eventFor(proc); done == 0 || compareEvents(came[done-1], e) < 0 {
				news = append(news, e)
				behind++
			}
		}
		news = inOrder(news)
		if got, did := impl.LaneCut(l, news); did || !sameLane(got, l) {
			t.Fatal(l, news, got)
		}
		if e, ok := impl.LaneNext(l, news); ok != (len(news) > done) || ok && e != news[done] {
			t.Fatal(l, news, e)
		}
	}
	if behind < laneRounds {
		t.Error("too little came behind", behind)
	}
}

// wrongLanes are lanes that are not ok, by one thing each.
func wrongLanes() []impl.Lane {
	at := func(time int) impl.Past { return impl.Past{Event: impl.Event{Time: time}} }
	one := impl.Past{Event: impl.Event{Time: 1, Arg: 5}}
	d := dice(41)
	list := []impl.Lane{
		{Proc: -1}, {Proc: 4}, {Proc: math.MaxInt}, {Proc: math.MinInt},
		d.anyLane(1, manyEvents(101, 40)), {Done: []impl.Past{at(3), at(2)}}, {Done: []impl.Past{at(3), at(3)}},
		{Done: []impl.Past{at(1), at(3), at(2)}}, {Done: []impl.Past{at(0), one, at(1)}},
		{Proc: 1, Done: []impl.Past{{}}}, {Done: []impl.Past{{}, {Event: impl.Event{Time: 1, To: 1}}}},
	}
	for _, s := range wrongStates() {
		list = append(list, impl.Lane{Base: s}, impl.Lane{Base: s, Done: []impl.Past{one}})
		list = append(list, impl.Lane{Done: []impl.Past{{After: s}}}, impl.Lane{Done: []impl.Past{{After: s}, one}}, impl.Lane{Done: []impl.Past{at(0), {Event: impl.Event{Time: 2}, After: s}}})
	}
	for _, e := range wrongEvents() {
		list = append(list, impl.Lane{Proc: e.To, Done: []impl.Past{{Event: e}}})
		for _, sends := range [][]impl.Event{{e}, inOrder([]impl.Event{e, {Time: 2}})} {
			list = append(list, impl.Lane{Done: []impl.Past{{Sends: sends}}}, impl.Lane{Done: []impl.Past{at(0), {Event: impl.Event{Time: 2}, Sends: sends}}})
		}
	}
	for _, o := range wrongOuts() {
		for _, outs := range [][]impl.Out{{o}, outsByHand([]impl.Out{o, {Time: 2}})} {
			list = append(list, impl.Lane{Done: []impl.Past{{Outs: outs}}}, impl.Lane{Done: []impl.Past{at(0), {Event: impl.Event{Time: 2}, Outs: outs}}})
		}
	}
	for _, sends := range [][]impl.Event{manyEvents(3, 9), {{Time: 2}, {Time: 1}}, {{Time: 2}, {Time: 2}}} {
		list = append(list, impl.Lane{Done: []impl.Past{{Sends: sends}}}, impl.Lane{Done: []impl.Past{{Sends: sends}, one}})
	}
	for _, outs := range [][]impl.Out{manyOuts(3), {{Time: 2}, {Time: 1}}, {{Time: 2}, {Time: 2}}} {
		list = append(list, impl.Lane{Done: []impl.Past{{Outs: outs}}}, impl.Lane{Done: []impl.Past{{Outs: outs}, one}})
	}
	return list
}

// Promises 19 to 24: of a lane that is not ok nothing is told.
func TestNothingIsToldOfWrongLanes(t *testing.T) {
	for i, l := range wrongLanes() {
		if impl.LaneOk(l) {
			t.Errorf("lane %d is ok: %v", i, l)
		}
		if s := impl.LaneNow(l); s != (impl.State{}) {
			t.Errorf("lane %d knows %v", i, s)
		}
		if got, sends, outs := impl.LaneSettle(l, 41); !isNoLane(got) || len(sends)+len(outs) != 0 {
			t.Errorf("lane %d settles: %v %v %v", i, got, sends, outs)
		}
		var done []impl.Event
		for _, p := range l.Done {
			done = append(done, p.Event)
		}
		for _, came := range [][]impl.Event{nil, {{Time: 40}}, done, append(done, impl.Event{Time: 40, To: l.Proc, From: 3, Kind: 3}), {{Time: -1}}} {
			if e, ok := impl.LaneNext(l, came); ok || e != (impl.Event{}) {
				t.Errorf("lane %d has next: %v", i, e)
			}
			if got, did := impl.LaneCut(l, came); did || !isNoLane(got) {
				t.Errorf("lane %d is cut: %v", i, got)
			}
			for _, a := range []impl.App{{}, {Rules: []impl.Rule{{Kind: 4}}}} {
				if got, ok := impl.LaneStep(a, l, came); ok || !isNoLane(got) {
					t.Errorf("lane %d steps: %v", i, got)
				}
			}
		}
	}
}

// wrongCames do not fit a lane of the process 1, by one thing each.
func wrongCames() [][]impl.Event {
	one := impl.Event{Time: 1, To: 1}
	list := [][]impl.Event{
		manyEvents(101, 40), {{Time: 3, To: 1}, {Time: 2, To: 1}}, {one, one}, {one, {Time: 2, To: 1}, one},
		{{}}, {{To: 2}}, {one, {Time: 2}}, {{}, one}, {one, {Time: 1, To: 2}},
		{one, {Time: 1, To: 1, Arg: 2}, {Time: 1, To: 1, Arg: 1}},
	}
	for _, e := range wrongEvents() {
		if e.To == 0 {
			e.To = 1
		}
		list = append(list, []impl.Event{e}, inOrder([]impl.Event{e, one}))
	}
	return list
}

// Promises 19, 20, 23: what has come and does not fit is nothing to a lane.
func TestWhatDoesNotFitIsNotDone(t *testing.T) {
	d := dice(42)
	done := []impl.Event{{Time: 1, To: 1}}
	for _, l := range []impl.Lane{{Proc: 1, Base: impl.State{X: 3}}, d.anyLane(1, done), d.anyLane(1, manyEvents(100, 40))} {
		if !impl.LaneOk(l) {
			t.Fatal("not ok", l)
		}
		for i, came := range wrongCames() {
			if e, ok := impl.LaneNext(l, came); ok || e != (impl.Event{}) {
				t.Errorf("%d is next: %v", i, e)
			}
			if got, did := impl.LaneCut(l, came); did || !isNoLane(got) {
				t.Errorf("%d cuts: %v %v", i, got, did)
			}
			if got, ok := impl.LaneStep(impl.App{}, l, came); ok || !sameLane(got, l) {
				t.Errorf("%d is done: %v %v", i, got, ok)
			}
		}
	}
}

// Promise 19: by a program that is not ok nothing is done, and the lane stays; no matter which of its rules is wrong.
func TestNothingIsDoneByWrongPrograms(t *testing.T) {
	d := dice(43)
	came := manyEvents(3, 7)
	wrong := 0
	for _, apps := range wrongApps() {
		for _, a := range apps {
			if impl.AppOk([]impl.App{a, {}, {}, {}}) {
				continue
			}
			wrong++
			for n := range 4 {
				l := d.anyLane(1, came[:n])
				if n == 0 {
					l.Base.Count = impl.AppMaxSteps
				}
				if got, ok := impl.LaneStep(a, l, came); ok || !sameLane(got, l) {
					t.Fatal(a, l, got, ok)
				}
			}
		}
	}
	if wrong < 50 {
		t.Error("too few were wrong", wrong)
	}
}

// Promises 19 to 24: each limit of a lane, and of what has come, may be met exactly.
func TestLimitsOfLanesMayBeMet(t *testing.T) {
	high := impl.State{X: 999, Y: 999, Count: 12}
	last := impl.Event{Time: 40, To: 3, From: 3, Count: 12, N: 3, Kind: 3, Arg: 999}
	for i, l := range []impl.Lane{
		{}, {Proc: 3, Base: high}, {Done: []impl.Past{}},
		{Proc: 3, Base: high, Done: []impl.Past{{Event: impl.Event{To: 3, From: -1}}, {Event: last, After: high, Sends: []impl.Event{{From: -1}, last}, Outs: []impl.Out{{}, {Time: 40, Proc: 3, Count: 11, N: 1, Value: 999}}}}},
		{Proc: 3, Done: []impl.Past{{Event: last, Sends: manyEvents(2, 0), Outs: manyOuts(2)}}},
	} {
		if !impl.LaneOk(l) || impl.LaneNow(l) != nowByHand(l) {
			t.Error(i, l)
		}
	}
	d := dice(44)
	came := manyEvents(100, 40)
	app := mustRead(t, fullText)[0]
	almost := d.anyLane(1, came[:99])
	almost.Done[98].After = impl.State{X: 7, Count: 3}
	if e, ok := impl.LaneNext(almost, came); !ok || e != came[99] {
		t.Error("the hundredth is not next", e, ok)
	}
	full, ok := impl.LaneStep(app, almost, came)
	if !ok || len(full.Done) != 100 || !impl.LaneOk(full) || !samePast(full.Done[99], pastByHand(app, impl.State{X: 7, Count: 3}, came[99])) {
		t.Fatal("the hundredth is not done", ok, len(full.Done))
	}
	if got, ok := impl.LaneStep(app, full, came); ok || !sameLane(got, full) {
		t.Error("one more is done", ok)
	}
	if got, did := impl.LaneCut(full, came); did || !sameLane(got, full) {
		t.Error("all hundred agree", did)
	}
	if got, sends, _ := impl.LaneSettle(full, 41); len(got.Done) != 0 || got.Base != full.Done[99].After || len(sends) == 0 {
		t.Error("not all hundred are settled", got)
	}
}

// A lane of a process is done by any program, also if another process has it: only the event's To is seen.
func TestLanesOfAllProcesses(t *testing.T) {
	a := mustRead(t, "proc\nrule 0\narg x\nout x\nsend 0 0 1 x\nproc\nproc\nproc\n")[0]
	for proc := range impl.AppProcs {
		l, ok := impl.LaneStep(a, impl.Lane{Proc: proc}, []impl.Event{impl.AppFirst(proc)})
		want := impl.Past{Event: impl.AppFirst(proc), After: impl.State{X: proc, Count: 1}, Sends: []impl.Event{{Time: 1, From: proc, Arg: proc}}, Outs: []impl.Out{{Proc: proc, Value: proc}}}
		if !ok || l.Proc != proc || !sameDone(l.Done, []impl.Past{want}) {
			t.Error(proc, l, ok)
		}
	}
}

func roomyLane(l impl.Lane) impl.Lane {
	l.Done = roomy(l.Done)
	for i := range l.Done {
		l.Done[i].Sends, l.Done[i].Outs = roomy(l.Done[i].Sends), roomy(l.Done[i].Outs)
	}
	return l
}

// wholeLane is a copy of a lane with all the room behind the ends of its lists.
func wholeLane(l impl.Lane) impl.Lane {
	l.Done = room(l.Done)
	for i := range l.Done {
		l.Done[i].Sends, l.Done[i].Outs = room(l.Done[i].Sends), room(l.Done[i].Outs)
	}
	return l
}

func copyLane(l impl.Lane) impl.Lane {
	l.Done = slices.Clone(l.Done)
	for i := range l.Done {
		l.Done[i].Sends, l.Done[i].Outs = slices.Clone(l.Done[i].Sends), slices.Clone(l.Done[i].Outs)
	}
	return l
}

// laneAnswer is all that the functions of lanes may answer together.
type laneAnswer struct {
	lane  impl.Lane
	sends []impl.Event
	outs  []impl.Out
}

func spoilEvents(list []impl.Event) {
	spoil(impl.Sim{Queue: list})
}

func spoilOuts(list []impl.Out) {
	spoil(impl.Sim{Outs: list})
}

// checkApart writes into one list of an answer after the other, and behind its end: no list that comes then is changed by it.
func checkApart(t *testing.T, r laneAnswer) {
	t.Helper()
	want := laneAnswer{lane: copyLane(r.lane), sends: slices.Clone(r.sends), outs: slices.Clone(r.outs)}
	spoilEvents(r.sends)
	if !slices.Equal(r.outs, want.outs) || !sameLane(r.lane, want.lane) {
		t.Error("what was sent is shared")
	}
	spoilOuts(r.outs)
	if !sameLane(r.lane, want.lane) {
		t.Error("what was let out is shared")
	}
	for i := range r.lane.Done {
		spoilEvents(r.lane.Done[i].Sends)
		if !slices.Equal(r.lane.Done[i].Outs, want.lane.Done[i].Outs) || !sameDone(r.lane.Done[i+1:], want.lane.Done[i+1:]) {
			t.Error("Sends are shared", i)
		}
		spoilOuts(r.lane.Done[i].Outs)
		if !sameDone(r.lane.Done[i+1:], want.lane.Done[i+1:]) {
			t.Error("Outs are shared", i)
		}
	}
	for i := range r.lane.Done[:cap(r.lane.Done)] {
		r.lane.Done[:cap(r.lane.Done)][i] = impl.Past{Event: impl.Event{Time: -9}}
	}
}

// Nothing is written into a lane or into what has come, or behind their ends, and what is answered shares nothing with them.
func TestLanesAreNewMemory(t *testing.T) {
	d := dice(45)
	app := mustRead(t, fullText)[0]
	bad := impl.App{Rules: []impl.Rule{{Kind: 4}}}
	for range 50 {
		came := roomy(d.cameFor(2, 12))
		news := roomy(d.changed(2, came))
		l := roomyLane(d.anyLane(2, came[:d.upTo(len(came))]))
		for i, do := range []func() laneAnswer{
			func() laneAnswer { r, _ := impl.LaneCut(l, came); return laneAnswer{lane: r} },
			func() laneAnswer { r, _ := impl.LaneCut(l, news); return laneAnswer{lane: r} },
			func() laneAnswer { r, _ := impl.LaneStep(app, l, came); return laneAnswer{lane: r} },
			func() laneAnswer { r, _ := impl.LaneStep(app, l, news); return laneAnswer{lane: r} },
			func() laneAnswer { r, _ := impl.LaneStep(bad, l, came); return laneAnswer{lane: r} },
			func() laneAnswer { r, s, o := impl.LaneSettle(l, -1); return laneAnswer{r, s, o} },
			func() laneAnswer { r, s, o := impl.LaneSettle(l, 5); return laneAnswer{r, s, o} },
			func() laneAnswer { r, s, o := impl.LaneSettle(l, 41); return laneAnswer{r, s, o} },
			func() laneAnswer { impl.LaneOk(l); impl.LaneNow(l); impl.LaneNext(l, came); return laneAnswer{} },
		} {
			before, beforeCame, beforeNews := wholeLane(l), room(came), room(news)
			answer := do()
			if !sameLane(wholeLane(l), before) || !slices.Equal(room(came), beforeCame) || !slices.Equal(room(news), beforeNews) {
				t.Fatalf("call %d changes what it is given", i)
			}
			checkApart(t, answer)
			if !sameLane(wholeLane(l), before) || !slices.Equal(room(came), beforeCame) || !slices.Equal(room(news), beforeNews) {
				t.Fatalf("call %d shares what it is given", i)
			}
		}
	}
}
