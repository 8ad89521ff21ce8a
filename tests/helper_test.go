package tests

import (
	"reflect"
	"testing"

	"loop.example/slackwater/impl"
)

// dice throws the same numbers in every run, so that a failure can be seen again.
type dice uint64

func (d *dice) upTo(most int) int {
	*d = *d*6364136223846793005 + 1442695040888963407
	return int(uint64(*d)>>33) % (most + 1)
}

func (d *dice) between(low int, high int) int {
	return low + d.upTo(high-low)
}

// num is often at the edges, as numbers come round there.
func (d *dice) num() int {
	switch d.upTo(3) {
	case 0:
		return d.upTo(3)
	case 1:
		return impl.AppMaxNum - d.upTo(3)
	}
	return d.upTo(impl.AppMaxNum)
}

func (d *dice) op(do int) impl.Op {
	o := impl.Op{Do: do, A: d.upTo(1)}
	switch do {
	case impl.OpSet, impl.OpMore:
		o.B = d.num()
	case impl.OpAdd:
		o.B = d.upTo(1)
	case impl.OpSkip:
		o.B, o.C = d.num(), d.between(1, impl.AppMaxOps)
	case impl.OpSend:
		o.A, o.B, o.C, o.D = d.upTo(impl.AppProcs-1), d.upTo(impl.AppMaxRules-1), d.between(1, impl.AppEnd), d.upTo(1)
	}
	return o
}

func (d *dice) rule(kind int) impl.Rule {
	r := impl.Rule{Kind: kind}
	var used [impl.OpOut + 1]int
	for n := d.upTo(impl.AppMaxOps); len(r.Ops) < n; {
		do := d.between(impl.OpSet, impl.OpOut)
		if used[do]++; do < impl.OpSend || used[do] <= 2 {
			r.Ops = append(r.Ops, d.op(do))
		}
	}
	return r
}

func (d *dice) app() impl.App {
	var a impl.App
	for kind := range impl.AppMaxRules {
		if d.upTo(2) > 0 {
			a.Rules = append(a.Rules, d.rule(kind))
		}
	}
	return a
}

func (d *dice) apps() []impl.App {
	var apps []impl.App
	for range impl.AppProcs {
		apps = append(apps, d.app())
	}
	return apps
}

func (d *dice) state() impl.State {
	return impl.State{X: d.num(), Y: d.num(), Count: d.upTo(impl.AppMaxSteps - 1)}
}

func (d *dice) event() impl.Event {
	return impl.Event{
		Time:  d.upTo(impl.AppEnd),
		To:    d.upTo(impl.AppProcs - 1),
		From:  d.between(-1, impl.AppProcs-1),
		Count: d.upTo(impl.AppMaxSteps),
		N:     d.upTo(impl.AppProcs - 1),
		Kind:  d.upTo(impl.AppMaxRules - 1),
		Arg:   d.num(),
	}
}

func copyApp(a impl.App) impl.App {
	var b impl.App
	for _, r := range a.Rules {
		b.Rules = append(b.Rules, impl.Rule{Kind: r.Kind, Ops: append([]impl.Op(nil), r.Ops...)})
	}
	return b
}

func copyApps(apps []impl.App) []impl.App {
	var b []impl.App
	for _, a := range apps {
		b = append(b, copyApp(a))
	}
	return b
}

// sameApps takes empty lists and nil lists as the same.
func sameApps(a []impl.App, b []impl.App) bool {
	return reflect.DeepEqual(copyApps(a), copyApps(b))
}

func withRules(rules ...impl.Rule) []impl.App {
	return []impl.App{{Rules: rules}, {}, {}, {}}
}

func withOps(ops ...impl.Op) []impl.App {
	return withRules(impl.Rule{Ops: ops})
}

func times(n int, o impl.Op) []impl.Op {
	var ops []impl.Op
	for range n {
		ops = append(ops, o)
	}
	return ops
}

func mustRead(t *testing.T, text string) []impl.App {
	t.Helper()
	apps, ok := impl.AppRead(text)
	if !ok {
		t.Fatalf("not read: %q", text)
	}
	return apps
}
