// Package impl: events done ahead of their time.
package impl

import (
	"strconv"
	"strings"
)

// Limits of programs.
const (
	AppProcs    = 4
	AppMaxRules = 4
	AppMaxOps   = 8
	AppMaxSteps = 12
	AppMaxNum   = 999
	AppEnd      = 40
)

// What an op does.
const (
	OpSet  = 1
	OpAdd  = 2
	OpMore = 3
	OpArg  = 4
	OpSkip = 5
	OpSend = 6
	OpOut  = 7
)

// Op is one step of a rule.
type Op struct {
	Do int
	A  int
	B  int
	C  int
	D  int
}

// Rule is what is done for an event of a kind.
type Rule struct {
	Kind int
	Ops  []Op
}

// App is the program of a process.
type App struct {
	Rules []Rule
}

// State is what a process knows, and how many events it has done.
type State struct {
	X     int
	Y     int
	Count int
}

// Event is what comes to a process at a time: From whom (-1 nobody), which of its events sent it, as how manieth.
type Event struct {
	Time  int
	To    int
	From  int
	Count int
	N     int
	Kind  int
	Arg   int
}

// Out is what a process lets out.
type Out struct {
	Time  int
	Proc  int
	Count int
	N     int
	Value int
}

// What stands behind the name of an op: the letters of opShape's parts.
const (
	partRegister = 'r'
	partNumber   = 'n'
	partProc     = 'p'
	partKind     = 'k'
	partOps      = 'o'
	partLater    = 'l'
)

// opShape is the name of an op and, from A on, what it has.
type opShape struct {
	name  string
	parts string
}

// Checking, writing and reading of an op all go by its row, so that they cannot part.
var opShapes = [...]opShape{
	OpSet:  {"set", "rn"},
	OpAdd:  {"add", "rr"},
	OpMore: {"more", "rn"},
	OpArg:  {"arg", "r"},
	OpSkip: {"skip", "rno"},
	OpSend: {"send", "pklr"},
	OpOut:  {"out", "r"},
}

// ruleFault is why something is not done; it goes no further than the recover of the same call.
type ruleFault string

func need(holds bool, fault ruleFault) {
	if !holds {
		panic(fault)
	}
}

func within(n int, low int, high int) bool {
	return low <= n && n <= high
}

func isProc(n int) bool {
	return within(n, 0, AppProcs-1)
}

func isKind(n int) bool {
	return within(n, 0, AppMaxRules-1)
}

func isNum(n int) bool {
	return within(n, 0, AppMaxNum)
}

func isRegister(n int) bool {
	return within(n, 0, 1)
}

func stateInForm(s State) bool {
	return isNum(s.X) && isNum(s.Y) && within(s.Count, 0, AppMaxSteps)
}

func eventInForm(e Event) bool {
	return within(e.Time, 0, AppEnd) && isProc(e.To) && (isProc(e.From) || e.From == -1) &&
		within(e.Count, 0, AppMaxSteps) && within(e.N, 0, AppProcs-1) && isKind(e.Kind) && isNum(e.Arg)
}

func partInForm(part byte, n int) bool {
	switch part {
	case partRegister:
		return isRegister(n)
	case partNumber:
		return isNum(n)
	case partProc:
		return isProc(n)
	case partKind:
		return isKind(n)
	case partOps:
		return within(n, 1, AppMaxOps)
	case partLater:
		return within(n, 1, AppEnd)
	}
	return false
}

func opParts(o Op) [4]int {
	return [4]int{o.A, o.B, o.C, o.D}
}

func needOp(o Op) {
	need(within(o.Do, OpSet, OpOut), "no such op")
	parts := opShapes[o.Do].parts
	for i, n := range opParts(o) {
		if i < len(parts) {
			need(partInForm(parts[i], n), "an op out of its bounds")
		} else {
			need(n == 0, "an op with what it does not have")
		}
	}
}

func countOps(ops []Op, do int) int {
	n := 0
	for _, o := range ops {
		if o.Do == do {
			n++
		}
	}
	return n
}

func needRule(r Rule) {
	need(isKind(r.Kind), "no such kind")
	need(len(r.Ops) <= AppMaxOps, "too many ops")
	for _, o := range r.Ops {
		needOp(o)
	}
	need(countOps(r.Ops, OpSend) <= 2, "too much is sent")
	need(countOps(r.Ops, OpOut) <= 2, "too much is let out")
}

func needApp(a App) {
	need(len(a.Rules) <= AppMaxRules, "too many rules")
	for i, r := range a.Rules {
		needRule(r)
		need(i == 0 || a.Rules[i-1].Kind < r.Kind, "rules out of order")
	}
}

func needApps(apps []App) {
	need(len(apps) == AppProcs, "not one program for each process")
	for _, a := range apps {
		needApp(a)
	}
}

// checkApps is where a fault of a program ends.
func checkApps(apps []App) (ok bool) {
	defer func() {
		if recover() != nil {
			ok = false
		}
	}()
	needApps(apps)
	return true
}

// AppOk says whether programs are ok, one for each process.
func AppOk(apps []App) bool {
	return checkApps(apps)
}

// AppFirst is the event with which a process begins.
func AppFirst(proc int) Event {
	if !isProc(proc) {
		return Event{}
	}
	return Event{To: proc, From: -1, N: proc, Arg: proc}
}

// appWork is an event that is being done. Count of its state stays the Count ahead until all ops are done.
type appWork struct {
	event Event
	state State
	skip  int
	sends []Event
	outs  []Out
}

// opDoer is an op whose numbers are known, so that all it needs is the work.
type opDoer interface {
	do(w *appWork)
}

type opPuts struct {
	register int
	num      int
}

type opAdds struct {
	register int
	num      int
}

type opSkips struct {
	register int
	below    int
	ops      int
}

type opSends struct {
	to       int
	kind     int
	later    int
	register int
}

type opLets struct {
	register int
}

func (o opPuts) do(w *appWork) {
	w.put(o.register, o.num)
}

func (o opAdds) do(w *appWork) {
	w.put(o.register, w.get(o.register)+o.num)
}

func (o opSkips) do(w *appWork) {
	if w.get(o.register) < o.below {
		w.skip = o.ops
	}
}

func (o opSends) do(w *appWork) {
	time := w.event.Time + o.later
	if time > AppEnd {
		return
	}
	w.sends = append(w.sends, Event{
		Time:  time,
		To:    o.to,
		From:  w.event.To,
		Count: w.state.Count,
		N:     len(w.sends),
		Kind:  o.kind,
		Arg:   w.get(o.register),
	})
}

func (o opLets) do(w *appWork) {
	w.outs = append(w.outs, Out{
		Time:  w.event.Time,
		Proc:  w.event.To,
		Count: w.state.Count,
		N:     len(w.outs),
		Value: w.get(o.register),
	})
}

func (w *appWork) get(register int) int {
	switch register {
	case 0:
		return w.state.X
	case 1:
		return w.state.Y
	}
	panic(ruleFault("no such register"))
}

func (w *appWork) put(register int, num int) {
	num %= AppMaxNum + 1
	switch register {
	case 0:
		w.state.X = num
	case 1:
		w.state.Y = num
	default:
		panic(ruleFault("no such register"))
	}
}

// choose falls through where two ops differ only in where their number comes from.
func (w *appWork) choose(o Op) opDoer {
	num := o.B
	switch o.Do {
	case OpArg:
		num = w.event.Arg
		fallthrough
	case OpSet:
		return opPuts{register: o.A, num: num}
	case OpAdd:
		num = w.get(o.B)
		fallthrough
	case OpMore:
		return opAdds{register: o.A, num: num}
	case OpSkip:
		return opSkips{register: o.A, below: o.B, ops: o.C}
	case OpSend:
		return opSends{to: o.A, kind: o.B, later: o.C, register: o.D}
	case OpOut:
		return opLets{register: o.A}
	}
	panic(ruleFault("no such op"))
}

func (w *appWork) doAll(ops []Op) {
	for _, o := range ops {
		if w.skip > 0 {
			w.skip--
		} else {
			w.choose(o).do(w)
		}
	}
}

func opsOfKind(a App, kind int) []Op {
	for _, r := range a.Rules {
		if r.Kind == kind {
			return r.Ops
		}
	}
	return nil
}

// workOut is where a fault of what is to be run ends; what was begun by then is dropped.
func workOut(a App, s State, e Event) (w appWork) {
	defer func() {
		if recover() != nil {
			w = appWork{}
		}
	}()
	needApp(a)
	need(stateInForm(s), "a state out of form")
	need(eventInForm(e), "an event out of form")
	w = appWork{event: e, state: s}
	if s.Count < AppMaxSteps {
		w.doAll(opsOfKind(a, e.Kind))
		w.state.Count++
	}
	return w
}

// AppRun does an event: what is known then, what is sent, what is let out.
func AppRun(a App, s State, e Event) (State, []Event, []Out) {
	w := workOut(a, s, e)
	return w.state, w.sends, w.outs
}

func writePart(part byte, n int) string {
	if part != partRegister {
		return strconv.Itoa(n)
	}
	if n == 0 {
		return "x"
	}
	return "y"
}

func writeOp(o Op) string {
	shape := opShapes[o.Do]
	nums := opParts(o)
	text := shape.name
	for i := range len(shape.parts) {
		text += " " + writePart(shape.parts[i], nums[i])
	}
	return text + "\n"
}

func writeRule(r Rule) string {
	text := "rule " + strconv.Itoa(r.Kind) + "\n"
	for _, o := range r.Ops {
		text += writeOp(o)
	}
	return text
}

// AppWrite writes programs.
func AppWrite(apps []App) string {
	if !AppOk(apps) {
		return ""
	}
	text := ""
	for _, a := range apps {
		text += "proc\n"
		for _, r := range a.Rules {
			text += writeRule(r)
		}
	}
	return text
}

func readNumber(word string) int {
	n, err := strconv.Atoi(word)
	need(err == nil, "not a number")
	return n
}

func readPart(part byte, word string) int {
	if part != partRegister {
		return readNumber(word)
	}
	need(word == "x" || word == "y", "no such register")
	if word == "x" {
		return 0
	}
	return 1
}

func doOf(name string) int {
	for do := OpSet; do <= OpOut; do++ {
		if opShapes[do].name == name {
			return do
		}
	}
	panic(ruleFault("no such line"))
}

func readOp(words []string) Op {
	do := doOf(words[0])
	parts := opShapes[do].parts
	need(len(words) == 1+len(parts), "too many words, or too few")
	var nums [4]int
	for i := range len(parts) {
		nums[i] = readPart(parts[i], words[1+i])
	}
	return Op{Do: do, A: nums[0], B: nums[1], C: nums[2], D: nums[3]}
}

// readLine asks for each limit as it goes, so that a long text ends early.
func readLine(apps []App, line string) []App {
	if line == "proc" {
		need(len(apps) < AppProcs, "too many programs")
		return append(apps, App{})
	}
	need(len(apps) > 0, "nothing stands ahead of the first program")
	app := &apps[len(apps)-1]
	words := strings.Split(line, " ")
	if words[0] == "rule" {
		need(len(app.Rules) < AppMaxRules, "too many rules")
		need(len(words) == 2, "a rule has a kind")
		app.Rules = append(app.Rules, Rule{Kind: readNumber(words[1])})
		return apps
	}
	need(len(app.Rules) > 0, "no op stands ahead of the first rule")
	rule := &app.Rules[len(app.Rules)-1]
	need(len(rule.Ops) < AppMaxOps, "too many ops")
	rule.Ops = append(rule.Ops, readOp(words))
	return apps
}

// readLines is where a fault of a text ends.
func readLines(text string) (apps []App) {
	defer func() {
		if recover() != nil {
			apps = nil
		}
	}()
	for rest := text; rest != ""; {
		var line string
		line, rest, _ = strings.Cut(rest, "\n")
		apps = readLine(apps, line)
	}
	return apps
}

// AppRead reads programs.
func AppRead(text string) ([]App, bool) {
	apps := readLines(text)
	// The lines are read freely (a sign, a zero ahead, no newline at the end): only the one text that is written counts.
	if !AppOk(apps) || AppWrite(apps) != text {
		return nil, false
	}
	return apps, true
}
