package tests

import (
	"math"
	"slices"
	"strings"
	"testing"

	"loop.example/slackwater/impl"
)

const rounds = 3000

// fullText meets every limit of a program exactly.
const fullText = "proc\n" +
	"rule 0\nset x 999\nadd x y\nmore y 999\narg y\nskip x 999 8\nsend 3 3 40 y\nsend 0 0 1 x\nout x\n" +
	"rule 1\nset y 0\nadd y x\nadd y y\nmore x 0\narg x\nskip y 0 1\nout x\nout y\n" +
	"rule 2\n" +
	"rule 3\nout y\n" +
	"proc\nproc\nrule 3\nproc\n"

func fullApps() []impl.App {
	return []impl.App{
		{Rules: []impl.Rule{
			{Kind: 0, Ops: []impl.Op{
				{Do: impl.OpSet, A: 0, B: 999},
				{Do: impl.OpAdd, A: 0, B: 1},
				{Do: impl.OpMore, A: 1, B: 999},
				{Do: impl.OpArg, A: 1},
				{Do: impl.OpSkip, A: 0, B: 999, C: 8},
				{Do: impl.OpSend, A: 3, B: 3, C: 40, D: 1},
				{Do: impl.OpSend, A: 0, B: 0, C: 1, D: 0},
				{Do: impl.OpOut, A: 0},
			}},
			{Kind: 1, Ops: []impl.Op{
				{Do: impl.OpSet, A: 1},
				{Do: impl.OpAdd, A: 1, B: 0},
				{Do: impl.OpAdd, A: 1, B: 1},
				{Do: impl.OpMore, A: 0},
				{Do: impl.OpArg, A: 0},
				{Do: impl.OpSkip, A: 1, B: 0, C: 1},
				{Do: impl.OpOut, A: 0},
				{Do: impl.OpOut, A: 1},
			}},
			{Kind: 2},
			{Kind: 3, Ops: []impl.Op{{Do: impl.OpOut, A: 1}}},
		}},
		{},
		{Rules: []impl.Rule{{Kind: 3}}},
		{},
	}
}

// wrongOps are ops that are just not in form, by one part each.
func wrongOps() []impl.Op {
	list := []impl.Op{
		{}, {Do: -1}, {Do: 8}, {Do: math.MinInt}, {Do: math.MaxInt},
		{Do: impl.OpSet, B: -1}, {Do: impl.OpSet, B: 1000}, {Do: impl.OpSet, C: 1}, {Do: impl.OpSet, D: 1},
		{Do: impl.OpAdd, B: -1}, {Do: impl.OpAdd, B: 2}, {Do: impl.OpAdd, C: 1}, {Do: impl.OpAdd, D: 1},
		{Do: impl.OpMore, B: -1}, {Do: impl.OpMore, B: 1000}, {Do: impl.OpMore, C: 1}, {Do: impl.OpMore, D: -1},
		{Do: impl.OpArg, B: 1}, {Do: impl.OpArg, C: 1}, {Do: impl.OpArg, D: 1},
		{Do: impl.OpSkip, B: -1, C: 1}, {Do: impl.OpSkip, B: 1000, C: 1}, {Do: impl.OpSkip}, {Do: impl.OpSkip, C: 9}, {Do: impl.OpSkip, C: -1}, {Do: impl.OpSkip, C: 1, D: 1},
		{Do: impl.OpSend, A: -1, C: 1}, {Do: impl.OpSend, A: 4, C: 1}, {Do: impl.OpSend, B: -1, C: 1}, {Do: impl.OpSend, B: 4, C: 1},
		{Do: impl.OpSend}, {Do: impl.OpSend, C: 41}, {Do: impl.OpSend, C: -1}, {Do: impl.OpSend, C: 1, D: -1}, {Do: impl.OpSend, C: 1, D: 2},
		{Do: impl.OpOut, B: 1}, {Do: impl.OpOut, C: -1}, {Do: impl.OpOut, D: 1},
	}
	for _, do := range []int{impl.OpSet, impl.OpAdd, impl.OpMore, impl.OpArg, impl.OpOut} {
		list = append(list, impl.Op{Do: do, A: -1}, impl.Op{Do: do, A: 2})
	}
	return append(list, impl.Op{Do: impl.OpSkip, A: -1, C: 1}, impl.Op{Do: impl.OpSkip, A: 2, C: 1})
}

// wrongApps are programs that are not ok.
func wrongApps() [][]impl.App {
	out := impl.Op{Do: impl.OpOut}
	send := impl.Op{Do: impl.OpSend, C: 1}
	list := [][]impl.App{
		nil, {}, {{}}, {{}, {}, {}}, {{}, {}, {}, {}, {}},
		withRules(impl.Rule{Kind: -1}), withRules(impl.Rule{Kind: 4}),
		withRules(impl.Rule{Kind: 1}, impl.Rule{Kind: 1}), withRules(impl.Rule{Kind: 2}, impl.Rule{Kind: 1}),
		withRules(impl.Rule{}, impl.Rule{Kind: 1}, impl.Rule{Kind: 2}, impl.Rule{Kind: 3}, impl.Rule{Kind: 4}),
		withRules(impl.Rule{}, impl.Rule{Kind: 1}, impl.Rule{Kind: 2}, impl.Rule{Kind: 3}, impl.Rule{Kind: 3}),
		withOps(times(9, impl.Op{Do: impl.OpArg})...),
		withOps(times(3, send)...), withOps(times(3, out)...),
		withOps(send, send, out, out, send), withOps(send, send, out, out, out),
	}
	for _, o := range wrongOps() {
		list = append(list, withOps(o))
		list = append(list, []impl.App{{}, {}, {}, {Rules: []impl.Rule{{Kind: 1}, {Kind: 3, Ops: []impl.Op{out, o}}}}})
	}
	return list
}

func wrongStates() []impl.State {
	return []impl.State{{X: -1}, {X: 1000}, {Y: -1}, {Y: 1000}, {Count: -1}, {Count: 13}, {X: math.MaxInt}, {X: -1, Count: 12}, {Y: 1000, Count: 12}}
}

func wrongEvents() []impl.Event {
	return []impl.Event{
		{Time: -1}, {Time: 41}, {To: -1}, {To: 4}, {From: -2}, {From: 4}, {Count: -1}, {Count: 13},
		{N: -1}, {N: 4}, {Kind: -1}, {Kind: 4}, {Arg: -1}, {Arg: 1000}, {Time: math.MaxInt}, {Time: math.MinInt},
	}
}

// wrongTexts are texts that are no program's text.
func wrongTexts() []string {
	const rest = "proc\nproc\nproc\n"
	list := []string{
		"", "\n", "proc\n", rest, "proc\n" + rest + "proc\n", "proc\nproc\nproc\nproc", "\nproc\n" + rest, "proc\n" + rest + "\n",
		"proc\n\n" + rest, " proc\n" + rest, "proc \n" + rest, "proc 0\n" + rest, "Proc\n" + rest, "proc\r\nproc\r\nproc\r\nproc\r\n",
		"rule 0\nproc\n" + rest, "out x\nproc\n" + rest, "proc\nout x\n" + rest, "proc\nout x\nrule 0\n" + rest,
		"proc\n" + rest + "\x00", "proc\xff\n" + rest, fullText[:len(fullText)-1], fullText + "proc\n", fullText + fullText,
		"proc\nrule 0\nrule 1\nrule 2\nrule 3\nrule 4\n" + rest, strings.Repeat("proc\n", 100000), strings.Repeat(" ", 100000),
	}
	for _, line := range []string{"rule", "rule ", "rule 4", "rule -1", "rule -0", "rule 00", "rule +0", "rule x", "rule 0 0", "rule  0", "rule 0 ", "rule 0x0", "rule 99999999999999999999", "rules 0"} {
		list = append(list, "proc\n"+line+"\n"+rest)
	}
	for _, line := range []string{
		"set", "set x", "set x ", "set x -1", "set x 1000", "set x 01", "set x +1", "set x 1 ", "set  x 1", " set x 1", "set x 1 0", "set x 1_0", "set x 0x1", "set x 1.0",
		"set x 18446744073709551617", "set x x", "set 0 1", "set z 1", "set X 1", "set xy 1", "set  1", "Set x 1", "set\tx\t1", "set,x,1",
		"add x", "add x 1", "add 0 1", "add x z", "add x y x", "more x y", "more x 1000", "more x -1", "more x 00", "arg", "arg 0", "arg x 0", "arg xx",
		"skip x 1", "skip x 1 0", "skip x 1 9", "skip x 1000 1", "skip x -1 1", "skip x 1 1 1", "skip x 1 01", "skip x y 1",
		"send 0 0 1", "send 4 0 1 x", "send -1 0 1 x", "send 0 4 1 x", "send 0 0 0 x", "send 0 0 41 x", "send 0 0 1 0", "send x 0 1 x", "send 0 0 1 x x", "send 0 00 1 x",
		"out", "out 0", "out z", "out x x", "out x\n\nout x", "out x\nout y\nout x", "send 0 0 1 x\nsend 0 0 1 x\nsend 0 0 1 x", "what", "", " ", "\x00", "rule 0", "1 x 1",
		strings.Repeat("arg x\n", 8) + "arg x",
	} {
		list = append(list, "proc\nrule 0\n"+line+"\n"+rest)
	}
	return append(list, "proc\nrule 1\nrule 0\n"+rest, "proc\nrule 1\nrule 1\n"+rest)
}

// Promise 1.
func TestProgramsAreReadBack(t *testing.T) {
	if got := impl.AppWrite(fullApps()); got != fullText {
		t.Errorf("written as %q", got)
	}
	if got, ok := impl.AppRead(fullText); !ok || !sameApps(got, fullApps()) {
		t.Error("read as", got, ok)
	}
	d := dice(1)
	for range rounds {
		apps := d.apps()
		got, ok := impl.AppRead(impl.AppWrite(apps))
		if !impl.AppOk(apps) || !ok || !sameApps(got, apps) {
			t.Fatal(apps, got, ok)
		}
	}
}

// Promises 1 and 2: what is no program has no text.
func TestWrongProgramsAreNotWritten(t *testing.T) {
	for i, apps := range wrongApps() {
		if impl.AppOk(apps) {
			t.Errorf("programs %d are ok: %v", i, apps)
		}
		if text := impl.AppWrite(apps); text != "" {
			t.Errorf("programs %d are written: %q", i, text)
		}
	}
}

// Promise 2.
func TestWrongTextsAreNotRead(t *testing.T) {
	for i, text := range wrongTexts() {
		if apps, ok := impl.AppRead(text); ok || len(apps) != 0 {
			t.Errorf("text %d is read: %.200q", i, text)
		}
	}
}

// Promise 2: a text that is changed somewhere is no text, or the text of what is read.
func TestProgramsHaveOneText(t *testing.T) {
	const letters = "0123456789 \nxy-+prs\x00"
	d := dice(2)
	read := 0
	for range rounds {
		text := []byte(fullText)
		if d.upTo(1) == 0 {
			text = []byte(impl.AppWrite(d.apps()))
		}
		at := d.upTo(len(text) - 1)
		letter := letters[d.upTo(len(letters)-1)]
		switch d.upTo(2) {
		case 0:
			text[at] = letter
		case 1:
			text = slices.Insert(text, at, letter)
		case 2:
			text = slices.Delete(text, at, at+1)
		}
		apps, ok := impl.AppRead(string(text))
		if ok && impl.AppWrite(apps) != string(text) || !ok && len(apps) != 0 {
			t.Fatalf("%q is read as %v", text, apps)
		}
		if ok {
			read++
		}
	}
	if read < 100 {
		t.Error("too few texts were read:", read)
	}
}

func TestLimitsOfProgramsMayBeMet(t *testing.T) {
	out := impl.Op{Do: impl.OpOut, A: 1}
	send := impl.Op{Do: impl.OpSend, A: 3, B: 3, C: 40, D: 1}
	for i, apps := range [][]impl.App{
		{{}, {}, {}, {}},
		fullApps(),
		withRules(impl.Rule{}, impl.Rule{Kind: 1}, impl.Rule{Kind: 2}, impl.Rule{Kind: 3}),
		withRules(impl.Rule{Kind: 3}),
		withOps(times(8, impl.Op{Do: impl.OpSkip, A: 1, B: 999, C: 8})...),
		withOps(send, out, send, out),
	} {
		if !impl.AppOk(apps) || impl.AppWrite(apps) == "" {
			t.Errorf("programs %d: %v", i, apps)
		}
	}
}

func checkSends(t *testing.T, s impl.State, e impl.Event, sends []impl.Event) {
	t.Helper()
	if len(sends) > 2 {
		t.Fatal("too much is sent", sends)
	}
	for i, x := range sends {
		if x.Time <= e.Time || x.Time > impl.AppEnd || x.From != e.To || x.Count != s.Count || x.N != i {
			t.Fatal("sent wrongly", s, e, x)
		}
		if x.To < 0 || x.To >= impl.AppProcs || x.Kind < 0 || x.Kind >= impl.AppMaxRules || x.Arg < 0 || x.Arg > impl.AppMaxNum {
			t.Fatal("sent out of form", x)
		}
	}
}

func checkOuts(t *testing.T, s impl.State, e impl.Event, outs []impl.Out) {
	t.Helper()
	if len(outs) > 2 {
		t.Fatal("too much is let out", outs)
	}
	for i, x := range outs {
		if x.Value < 0 || x.Value > impl.AppMaxNum {
			t.Fatal("let out of bounds", x)
		}
		if x != (impl.Out{Time: e.Time, Proc: e.To, Count: s.Count, N: i, Value: x.Value}) {
			t.Fatal("let out wrongly", s, e, x)
		}
	}
}

// Promise 3.
func TestWhatIsDoneStaysWithinItsBounds(t *testing.T) {
	d := dice(3)
	sent, let := 0, 0
	for range rounds {
		a, s, e := d.app(), d.state(), d.event()
		after, sends, outs := impl.AppRun(a, s, e)
		if after.Count != s.Count+1 || after.X < 0 || after.X > impl.AppMaxNum || after.Y < 0 || after.Y > impl.AppMaxNum {
			t.Fatal(a, s, e, after)
		}
		checkSends(t, s, e, sends)
		checkOuts(t, s, e, outs)
		sent, let = sent+len(sends), let+len(outs)
	}
	if sent < rounds/10 || let < rounds/10 {
		t.Error("too little was sent, or let out", sent, let)
	}
}

// Promise 3: what each op does, with the edges that the document names.
func TestOps(t *testing.T) {
	e := impl.Event{Time: 30, To: 2, From: 1, Count: 5, N: 3, Kind: 0, Arg: 77}
	sent := impl.Event{Time: 31, To: 3, From: 2, Count: 4, Kind: 1}
	for _, c := range []struct {
		ops   string
		x, y  int
		sends []impl.Event
		outs  []impl.Out
	}{
		{ops: "", x: 600, y: 400},
		{ops: "set x 0\nset y 999\n", x: 0, y: 999},
		{ops: "add x y\n", x: 0, y: 400},
		{ops: "add x x\n", x: 200, y: 400},
		{ops: "add y x\nadd x y\n", x: 600, y: 0},
		{ops: "more x 399\nmore y 0\n", x: 999, y: 400},
		{ops: "more x 400\n", x: 0, y: 400},
		{ops: "more x 999\nmore y 999\n", x: 599, y: 399},
		{ops: "set x 999\nmore x 999\n", x: 998, y: 400},
		{ops: "arg y\n", x: 600, y: 77},
		{ops: "skip x 601 1\nset x 1\nset y 2\n", x: 600, y: 2},
		{ops: "skip x 600 1\nset x 1\nset y 2\n", x: 1, y: 2},
		{ops: "skip y 999 2\nset x 1\nset x 2\nset y 3\n", x: 600, y: 3},
		{ops: "set x 5\nskip x 999 8\nset x 1\nset y 2\n", x: 5, y: 400},
		{ops: "skip x 999 8\n", x: 600, y: 400},
		{ops: "skip x 999 1\nskip x 999 8\nset y 2\n", x: 600, y: 2},
		{ops: "skip x 0 8\nset y 2\n", x: 600, y: 2},
		{ops: "skip x 999 1\nset y 1\nskip x 999 1\nset y 2\nset x 3\n", x: 3, y: 400},
		{ops: "send 3 1 1 x\n", x: 600, y: 400, sends: []impl.Event{with(sent, 31, 0, 600)}},
		{ops: "send 3 1 10 y\n", x: 600, y: 400, sends: []impl.Event{with(sent, 40, 0, 400)}},
		{ops: "send 3 1 11 y\n", x: 600, y: 400},
		{ops: "send 3 1 11 y\nsend 3 1 5 x\n", x: 600, y: 400, sends: []impl.Event{with(sent, 35, 0, 600)}},
		{ops: "send 3 1 5 x\nsend 3 1 11 y\n", x: 600, y: 400, sends: []impl.Event{with(sent, 35, 0, 600)}},
		{ops: "send 3 1 5 x\nset x 9\nsend 3 1 2 x\n", x: 9, y: 400, sends: []impl.Event{with(sent, 35, 0, 600), with(sent, 32, 1, 9)}},
		{ops: "out y\n", x: 600, y: 400, outs: []impl.Out{{Time: 30, Proc: 2, Count: 4, Value: 400}}},
		{ops: "out x\nset x 1\nsend 3 1 1 x\nout x\n", x: 1, y: 400, sends: []impl.Event{with(sent, 31, 0, 1)}, outs: []impl.Out{{Time: 30, Proc: 2, Count: 4, Value: 600}, {Time: 30, Proc: 2, Count: 4, N: 1, Value: 1}}},
	} {
		a := mustRead(t, "proc\nrule 0\n"+c.ops+"rule 1\nset x 7\nproc\nproc\nproc\n")[0]
		s, sends, outs := impl.AppRun(a, impl.State{X: 600, Y: 400, Count: 4}, e)
		if s != (impl.State{X: c.x, Y: c.y, Count: 5}) || !slices.Equal(sends, c.sends) || !slices.Equal(outs, c.outs) {
			t.Errorf("%q: %v %v %v", c.ops, s, sends, outs)
		}
	}
}

func with(e impl.Event, time int, n int, arg int) impl.Event {
	e.Time, e.N, e.Arg = time, n, arg
	return e
}

// Promise 3: nothing is done at all for what is not ok or not in form.
func TestNothingIsRunOfWhatIsWrong(t *testing.T) {
	a := mustRead(t, fullText)[0]
	check := func(a impl.App, s impl.State, e impl.Event) {
		t.Helper()
		if after, sends, outs := impl.AppRun(a, s, e); after != (impl.State{}) || len(sends)+len(outs) != 0 {
			t.Errorf("%v %v %v: %v %v %v", a, s, e, after, sends, outs)
		}
	}
	for _, s := range wrongStates() {
		check(a, s, impl.Event{})
		check(impl.App{}, s, impl.Event{Kind: 2})
	}
	for _, e := range wrongEvents() {
		check(a, impl.State{X: 1}, e)
		check(a, impl.State{X: 1, Count: impl.AppMaxSteps}, e)
	}
	for _, apps := range wrongApps() {
		for _, a := range apps {
			if !impl.AppOk([]impl.App{a, {}, {}, {}}) {
				check(a, impl.State{X: 1}, impl.Event{})
				check(a, impl.State{X: 1}, impl.Event{Kind: 2})
				check(a, impl.State{X: 1, Count: impl.AppMaxSteps}, impl.Event{})
			}
		}
	}
}

// Promise 3: each limit of a state and an event may be met exactly.
func TestLimitsOfEventsMayBeMet(t *testing.T) {
	s := impl.State{X: 999, Y: 999, Count: 11}
	for _, e := range []impl.Event{
		{}, {From: -1}, {Time: 40, To: 3, From: 3, Count: 12, N: 3, Kind: 3, Arg: 999},
	} {
		if after, _, _ := impl.AppRun(impl.App{}, s, e); after != (impl.State{X: 999, Y: 999, Count: 12}) {
			t.Error(e, after)
		}
	}
}

// Promise 4.
func TestWhoHasDoneAllDoesNoMore(t *testing.T) {
	d := dice(4)
	for range rounds {
		a, s, e := d.app(), d.state(), d.event()
		s.Count = impl.AppMaxSteps
		if after, sends, outs := impl.AppRun(a, s, e); after != s || len(sends)+len(outs) != 0 {
			t.Fatal(a, s, e, after, sends, outs)
		}
	}
	a := mustRead(t, "proc\nrule 0\nset x 3\nsend 0 0 1 x\nout x\nproc\nproc\nproc\n")[0]
	after, sends, outs := impl.AppRun(a, impl.State{Count: impl.AppMaxSteps - 1}, impl.Event{})
	if after != (impl.State{X: 3, Count: impl.AppMaxSteps}) || len(sends) != 1 || len(outs) != 1 {
		t.Error("the last one is still done", after, sends, outs)
	}
}

func sameRun(a impl.App, b impl.App, s impl.State, e impl.Event) bool {
	s1, sends1, outs1 := impl.AppRun(a, s, e)
	s2, sends2, outs2 := impl.AppRun(b, s, e)
	return s1 == s2 && slices.Equal(sends1, sends2) && slices.Equal(outs1, outs2)
}

// Promise 5.
func TestOnlyTheRuleOfTheKindMatters(t *testing.T) {
	d := dice(5)
	for range rounds {
		a, b, s, e := d.app(), d.app(), d.state(), d.event()
		var alone, other impl.App
		for _, r := range a.Rules {
			if r.Kind == e.Kind {
				alone.Rules = append(alone.Rules, r)
			}
		}
		other.Rules = append(other.Rules, alone.Rules...)
		for _, r := range b.Rules {
			if r.Kind != e.Kind {
				other.Rules = append(other.Rules, r)
			}
		}
		slices.SortFunc(other.Rules, func(x, y impl.Rule) int { return x.Kind - y.Kind })
		if !sameRun(a, alone, s, e) || !sameRun(a, other, s, e) {
			t.Fatal(a, other, s, e)
		}
		after, sends, outs := impl.AppRun(a, s, e)
		s.Count++
		if len(alone.Rules) == 0 && (after != s || len(sends)+len(outs) != 0) {
			t.Fatal("without a rule something is done", a, after, sends, outs)
		}
	}
}

// Promise 5: where the event comes from does not matter either.
func TestOnlyKindAndArgAreSeen(t *testing.T) {
	d := dice(6)
	for range rounds {
		a, s, e, f := d.app(), d.state(), d.event(), d.event()
		f.Time, f.To, f.Kind, f.Arg = e.Time, e.To, e.Kind, e.Arg
		s1, sends1, outs1 := impl.AppRun(a, s, e)
		s2, sends2, outs2 := impl.AppRun(a, s, f)
		if s1 != s2 || !slices.Equal(sends1, sends2) || !slices.Equal(outs1, outs2) {
			t.Fatal(a, s, e, f)
		}
	}
}

// Promise 6.
func TestLaterAllIsLater(t *testing.T) {
	d := dice(7)
	cut := 0
	for range rounds {
		a, s, e := d.app(), d.state(), d.event()
		by := d.upTo(impl.AppEnd - e.Time)
		late := e
		late.Time += by
		s1, sends, outs := impl.AppRun(a, s, e)
		s2, lateSends, lateOuts := impl.AppRun(a, s, late)
		var wantSends []impl.Event
		for _, x := range sends {
			if x.Time+by <= impl.AppEnd {
				wantSends = append(wantSends, with(x, x.Time+by, len(wantSends), x.Arg))
			}
		}
		var wantOuts []impl.Out
		for _, x := range outs {
			x.Time += by
			wantOuts = append(wantOuts, x)
		}
		if s1 != s2 || !slices.Equal(lateSends, wantSends) || !slices.Equal(lateOuts, wantOuts) {
			t.Fatal(a, s, e, by)
		}
		if len(wantSends) > 0 && len(wantSends) < len(sends) {
			cut++
		}
	}
	if cut == 0 {
		t.Error("no event was beyond the end ahead of another one that was not")
	}
}

// Promise 7.
func TestEachProcessBeginsWithOneEvent(t *testing.T) {
	for proc := range impl.AppProcs {
		if e := impl.AppFirst(proc); e != (impl.Event{Time: 0, To: proc, From: -1, Count: 0, N: proc, Kind: 0, Arg: proc}) {
			t.Error(proc, e)
		}
		if s, _, _ := impl.AppRun(impl.App{}, impl.State{}, impl.AppFirst(proc)); s.Count != 1 {
			t.Error("not in form", proc)
		}
	}
	for _, proc := range []int{-1, impl.AppProcs, math.MinInt, math.MaxInt} {
		if e := impl.AppFirst(proc); e != (impl.Event{}) {
			t.Error(proc, e)
		}
	}
}

// Nothing is written into an argument, and no two answers share their memory.
func TestAnswersAreNewMemory(t *testing.T) {
	given := fullApps()
	impl.AppOk(given)
	impl.AppWrite(given)
	for kind := range impl.AppMaxRules {
		impl.AppRun(given[0], impl.State{X: 999}, impl.Event{Kind: kind})
	}
	if !sameApps(given, fullApps()) {
		t.Error("an argument was changed", given)
	}
	apps := mustRead(t, fullText)
	for i := range apps {
		grown := append(apps[i].Rules, impl.Rule{Kind: -9}, impl.Rule{Kind: -9})
		for j := range apps[i].Rules {
			ops := append(apps[i].Rules[j].Ops, times(9, impl.Op{Do: -9})...)
			ops[len(ops)-1].A = len(grown)
		}
	}
	if !sameApps(apps, fullApps()) || !sameApps(mustRead(t, fullText), fullApps()) {
		t.Error("lists of an answer share their memory", apps)
	}
}
