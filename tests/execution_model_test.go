package tests

import (
	"fmt"
	"slices"
	"testing"

	"loop.example/g00873/impl"
)

// modelFails is what an operation of the model returns instead of a code if it fails.
const modelFails = -1

// modelOp is an operation of the model: it takes values from the stack and puts values there.
type modelOp func(x *modelMachine) int64

// modelCallFrame is a call that has not returned.
type modelCallFrame struct {
	name  string
	saved []impl.Binding
	pc    int
	base  int
	at    int
}

// modelMachine executes programs in another way than the program that is
// tested: all statements are lists of operations on one stack of values.
type modelMachine struct {
	statements []impl.Statement
	ops        []modelOp
	// entries and failures have the first operation of each statement, and the one at which it continues after a failure.
	entries, failures map[int]int
	// isAlone is set if there is no program.
	isAlone bool
	// isSingle is set if only one statement of level 0 is executed.
	isSingle bool
	every    int64

	m         impl.Memory
	stack     []impl.Value
	frames    []modelCallFrame
	pc, base  int
	at        int
	steps     int64
	fuel      int64
	executed  int64
	next      int64
	succeeded bool
	target    impl.Target
	isDone    bool
	code      int64
}

func newModelMachine(p impl.Program, m impl.Memory, fuel int64) *modelMachine {
	x := &modelMachine{statements: p.Statements, m: m, fuel: fuel, at: -1, entries: map[int]int{}, failures: map[int]int{}}
	for i, s := range p.Statements {
		x.entries[i] = len(x.ops)
		x.ops = append(x.ops, func(x *modelMachine) int64 { return x.step(i) })
		x.ops = append(x.ops, modelBody(s)...)
		x.ops = append(x.ops, func(x *modelMachine) int64 { return x.leave(i, true) })
		x.failures[i] = len(x.ops)
		x.ops = append(x.ops, func(x *modelMachine) int64 { return x.leave(i, false) })
	}
	return x
}

// append adds operations that are executed outside of statements, and ends behind them.
func (x *modelMachine) append(list ...modelOp) {
	x.pc = len(x.ops)
	x.ops = append(x.ops, list...)
	x.ops = append(x.ops, func(x *modelMachine) int64 { return x.stop(true) })
	x.failures[-1] = len(x.ops)
	x.ops = append(x.ops, func(x *modelMachine) int64 { return x.stop(false) })
}

func (x *modelMachine) stop(succeeded bool) int64 {
	x.isDone, x.succeeded = true, succeeded
	return impl.OK
}

func (x *modelMachine) run() *modelMachine {
	for !x.isDone {
		op := x.ops[x.pc]
		x.pc++
		switch code := op(x); code {
		case impl.OK:
		case modelFails:
			x.stack = x.stack[:x.base]
			x.pc = x.failures[x.at]
		default:
			x.isDone, x.code = true, code
		}
	}
	return x
}

func (x *modelMachine) take(count int) []impl.Value {
	at := len(x.stack) - count
	taken := slices.Clone(x.stack[at:])
	x.stack = x.stack[:at]
	return taken
}

func (x *modelMachine) put(v impl.Value) int64 {
	x.stack = append(x.stack, v)
	return impl.OK
}

// putResult puts a value that a function returned, if it succeeded without an error.
func (x *modelMachine) putResult(v impl.Value, succeeded bool, code int64) int64 {
	switch {
	case code != impl.OK:
		return code
	case !succeeded:
		return modelFails
	}
	return x.put(v)
}

// keep does the same for a result with a memory.
func (x *modelMachine) keep(r evalResult) int64 {
	if r.code == impl.OK {
		x.m = r.m
	}
	return x.putResult(r.v, r.succeeds, r.code)
}

func (x *modelMachine) write(name string, v impl.Value) int64 {
	r := modelWriteVariable(x.m, name, v)
	if r.code == impl.OK {
		x.m = r.m
	}
	return r.code
}

func (x *modelMachine) setHeap(h impl.Heap, succeeded bool, code int64) int64 {
	switch {
	case code != impl.OK:
		return code
	case !succeeded:
		return modelFails
	}
	x.m.Heap = h
	return impl.OK
}

// modelCode returns the operations that put the value of an expression.
func modelCode(e impl.Expr) []modelOp {
	operands := e.Kids
	if e.Kind == impl.ExCond || e.Kind == impl.ExNow {
		operands = e.Kids[:1]
	}
	var list []modelOp
	for _, kid := range operands {
		list = append(list, modelCode(kid)...)
	}
	return append(list, func(x *modelMachine) int64 { return x.combine(e, x.take(len(operands))) })
}

// combine puts the value of an expression whose operands have some values.
func (x *modelMachine) combine(e impl.Expr, operands []impl.Value) int64 {
	done := func(v impl.Value, code int64) int64 { return x.putResult(v, true, code) }
	switch e.Kind {
	case impl.ExString:
		return x.put(stringOf(e.Text))
	case impl.ExInteger:
		return x.put(integerOf(e.Num))
	case impl.ExName:
		return x.keep(modelReadVariable(x.m, e.Text))
	case impl.ExCall:
		return x.call(e.Text, operands)
	case impl.ExIndex:
		return x.putResult(impl.GetElement(x.m.Heap, operands[0], operands[1]))
	case impl.ExCond:
		return done(modelPatterns(impl.Pattern{Kind: impl.PtCond, Text: e.Kids[1].Text}, operands...))
	case impl.ExNow:
		return done(modelPatterns(impl.Pattern{Kind: impl.PtNow, Text: e.Kids[1].Text}, operands...))
	case impl.ExNeg:
		return done(impl.Arithmetic(impl.ExSub, integerOf(0), operands[0]))
	case impl.ExIndirect:
		return x.named(operands[0], func(name string) int64 { return x.keep(modelReadVariable(x.m, name)) })
	case impl.ExNameOf:
		return x.put(nameOf(e.Text))
	case impl.ExDefer:
		return x.put(deferOf(e.Text))
	case impl.ExCursor:
		return x.put(patternOf("cursor(" + e.Text + ")"))
	}
	return done(modelOperator(e.Kind, operands[0], operands[1]))
}

func (x *modelMachine) named(v impl.Value, use func(name string) int64) int64 {
	name, ok := modelName(v)
	if !ok {
		return impl.ErrType
	}
	return use(name)
}

// modelPlace has the operations of a target: those that put what it consists of, and those that read and write it.
type modelPlace struct {
	prefix      []modelOp
	peek, store modelOp
	aim         func(list []impl.Value) impl.Target
	count       int
}

// peeking returns an operation that puts a value above those of the target.
func peeking(count int, read func(x *modelMachine, list []impl.Value) int64) modelOp {
	return func(x *modelMachine) int64 {
		list := x.take(count)
		x.stack = append(x.stack, list...)
		return read(x, list)
	}
}

// storing returns an operation that takes the values of the target and the one above them.
func storing(count int, write func(x *modelMachine, list []impl.Value, v impl.Value) int64) modelOp {
	return func(x *modelMachine) int64 {
		v := x.take(1)[0]
		return write(x, x.take(count), v)
	}
}

func faulting(code int64) modelOp {
	return func(x *modelMachine) int64 { return code }
}

// modelPlaceOf returns the operations of a target, all of which are errors if it is none.
func modelPlaceOf(e impl.Expr) modelPlace {
	switch {
	case e.Kind == impl.ExName:
		return modelPlace{
			peek:  peeking(0, func(x *modelMachine, _ []impl.Value) int64 { return x.keep(modelReadVariable(x.m, e.Text)) }),
			store: storing(0, func(x *modelMachine, _ []impl.Value, v impl.Value) int64 { return x.write(e.Text, v) }),
			aim:   func([]impl.Value) impl.Target { return impl.Target{Kind: 1, Name: e.Text} },
		}
	case e.Kind == impl.ExIndirect:
		check := func(x *modelMachine) int64 {
			return x.named(x.take(1)[0], func(name string) int64 { return x.put(nameOf(name)) })
		}
		return modelPlace{
			prefix: append(modelCode(e.Kids[0]), check),
			peek:   peeking(1, func(x *modelMachine, list []impl.Value) int64 { return x.keep(modelReadVariable(x.m, list[0].Text)) }),
			store:  storing(1, func(x *modelMachine, list []impl.Value, v impl.Value) int64 { return x.write(list[0].Text, v) }),
			aim:    func(list []impl.Value) impl.Target { return impl.Target{Kind: 1, Name: list[0].Text} },
			count:  1,
		}
	case e.Kind == impl.ExIndex:
		return modelPlace{
			prefix: append(modelCode(e.Kids[0]), modelCode(e.Kids[1])...),
			peek: peeking(2, func(x *modelMachine, list []impl.Value) int64 {
				return x.putResult(impl.GetElement(x.m.Heap, list[0], list[1]))
			}),
			store: storing(2, func(x *modelMachine, list []impl.Value, v impl.Value) int64 {
				return x.setHeap(impl.SetElement(x.m.Heap, list[0], list[1], v))
			}),
			aim:   func(list []impl.Value) impl.Target { return impl.Target{Kind: 2, Object: list[0], Index: list[1]} },
			count: 2,
		}
	case e.Kind == impl.ExCall && len(e.Kids) == 1:
		check := func(x *modelMachine) int64 {
			if _, isFunction := mapsOf(x.m.Scope).functions[e.Text]; isFunction || !modelHasField(x.m.Scope, e.Text) {
				return impl.ErrType
			}
			return impl.OK
		}
		return modelPlace{
			prefix: append([]modelOp{check}, modelCode(e.Kids[0])...),
			peek: peeking(1, func(x *modelMachine, list []impl.Value) int64 {
				v, code := impl.GetField(x.m.Heap, list[0], e.Text)
				return x.putResult(v, true, code)
			}),
			store: storing(1, func(x *modelMachine, list []impl.Value, v impl.Value) int64 {
				h, code := impl.SetField(x.m.Heap, list[0], e.Text, v)
				return x.setHeap(h, true, code)
			}),
			aim:   func(list []impl.Value) impl.Target { return impl.Target{Kind: 3, Name: e.Text, Object: list[0]} },
			count: 1,
		}
	}
	return modelPlace{prefix: []modelOp{faulting(impl.ErrType)}}
}

// modelBody returns what the parts of a statement do.
func modelBody(s impl.Statement) []modelOp {
	drop := func(x *modelMachine) int64 { x.take(1); return impl.OK }
	place := modelPlaceOf(s.Subject)
	switch {
	case !s.HasSubject:
		return nil
	case !s.HasPattern && !s.HasReplace:
		return append(modelCode(s.Subject), drop)
	case !s.HasReplace:
		match := func(x *modelMachine) int64 {
			_, _, code := x.match(x.take(2))
			return code
		}
		return append(append(modelCode(s.Subject), modelCode(s.Pattern)...), match)
	case !s.HasPattern:
		return append(append(place.prefix, modelCode(s.Replace)...), place.store)
	}
	list := append(place.prefix, place.peek)
	list = append(list, modelCode(s.Pattern)...)
	list = append(list, func(x *modelMachine) int64 {
		text, m, code := x.match(x.take(2))
		x.stack = append(x.stack, stringOf(text), integerOf(m.Start), integerOf(m.End))
		return code
	})
	list = append(list, modelCode(s.Replace)...)
	return append(list, func(x *modelMachine) int64 { return x.replace(x.take(4)) }, place.store)
}

// match matches a subject with a pattern, and assigns what the match captures.
func (x *modelMachine) match(values []impl.Value) (string, impl.Match, int64) {
	text, ok := impl.ToText(values[0])
	if !ok {
		return "", impl.Match{}, impl.ErrType
	}
	p, code := modelToPattern(values[1])
	if code != impl.OK {
		return "", impl.Match{}, code
	}
	isAnchored := mapsOf(x.m.Scope).value("ANCHOR") != stringOf("")
	m, found, _, code := impl.FirstMatch(modelPatternEnv(x.m.Scope), p, text, isAnchored, 20000)
	if code != impl.OK {
		return "", impl.Match{}, code
	}
	for _, conditional := range []bool{false, true} {
		for _, c := range m.Captures {
			if (c.Kind == impl.CaCond) != conditional || conditional && !found {
				continue
			}
			v := stringOf(c.Text)
			if c.Kind == impl.CaCursor {
				v = integerOf(c.Cursor)
			}
			if code := x.write(c.Name, v); code != impl.OK {
				return "", impl.Match{}, code
			}
		}
	}
	if !found {
		return "", impl.Match{}, modelFails
	}
	return text, m, impl.OK
}

func modelPatternEnv(s impl.Scope) []impl.Named {
	var env []impl.Named
	for _, b := range s.Vars {
		if p, code := modelToPattern(b.Value); code == impl.OK {
			env = append(env, impl.Named{Name: b.Name, Pattern: p})
		}
	}
	return env
}

func (x *modelMachine) replace(values []impl.Value) int64 {
	text, ok := impl.ToText(values[3])
	if !ok {
		return impl.ErrType
	}
	s := values[0].Text
	replaced := s[:values[1].Num] + text + s[values[2].Num:]
	if len(replaced) > 200 {
		return impl.ErrFull
	}
	return x.put(stringOf(replaced))
}

func (x *modelMachine) step(at int) int64 {
	x.at = at
	if x.steps >= x.fuel {
		return impl.ErrSteps
	}
	x.steps++
	return impl.OK
}

// modelContinuation returns where a statement continues.
func modelContinuation(list []impl.Statement, g impl.Goto, succeeded bool, at int) (int64, int64) {
	labels := map[bool]string{true: g.Success, false: g.Failure}
	label := g.Always + labels[succeeded]
	jumps := map[string]int64{"END": -1, "RETURN": -2, "FRETURN": -3}
	if label == "" && at+1 < len(list) && list[at+1].Label != "END" {
		return int64(at + 1), impl.OK
	}
	if label == "" {
		return -1, impl.OK
	}
	if jump, isJump := jumps[label]; isJump {
		return jump, impl.OK
	}
	for i, s := range list {
		if s.Label == label {
			return int64(i), impl.OK
		}
	}
	return 0, impl.ErrUndefined
}

// leave continues behind a statement.
func (x *modelMachine) leave(at int, succeeded bool) int64 {
	next, code := modelContinuation(x.statements, x.statements[at].Goto, succeeded, at)
	if code != impl.OK {
		return code
	}
	if len(x.frames) == 0 {
		x.executed++
		if x.every > 0 && x.executed%x.every == 0 {
			x.collect()
		}
		if x.isSingle {
			x.next = next
			return x.stop(succeeded)
		}
	}
	switch {
	case next == -1 && len(x.frames) == 0:
		return x.stop(succeeded)
	case next == -1 || next < -1 && len(x.frames) == 0:
		return impl.ErrState
	case next < -1:
		return x.comeBack(next == -2)
	}
	x.pc = x.entries[int(next)]
	return impl.OK
}

func (x *modelMachine) collect() {
	var roots []impl.Value
	for _, b := range x.m.Scope.Vars {
		roots = append(roots, b.Value)
	}
	h, moved, _ := impl.Collect(x.m.Heap, roots)
	x.m.Heap, x.m.Scope = h, modelWithRoots(x.m.Scope, moved).s
}

func (x *modelMachine) trace(word, name string) {
	isWanted := mapsOf(x.m.Scope).value("TRACE") != stringOf("")
	if !isWanted || x.at < 0 || len(x.m.Console.Trace) == 200 {
		return
	}
	line := fmt.Sprintf("%d: %s %s", x.at+1, word, name)
	if word == "return" {
		line += ` = ""`
	}
	x.m.Console.Trace = append(slices.Clone(x.m.Console.Trace), line)
}

// call calls a function, whoever defines it.
func (x *modelMachine) call(name string, args []impl.Value) int64 {
	f, isFunction := mapsOf(x.m.Scope).functions[name]
	switch {
	case !isFunction || x.isAlone:
		return x.keep(modelApply(x.m, name, args))
	case len(args) > len(f.Params):
		return impl.ErrRange
	case len(x.frames) == 12:
		return impl.ErrStack
	}
	x.trace("call", name)
	names := slices.Concat([]string{name}, f.Params, f.Locals)
	saved := modelSaved(x.m.Scope, names)
	for i, v := range slices.Concat([]impl.Value{stringOf("")}, args, slices.Repeat([]impl.Value{stringOf("")}, len(names)-1-len(args))) {
		r := modelAssign(x.m.Scope, binding(names[i], v))
		if r.code != impl.OK {
			return r.code
		}
		x.m.Scope = r.s
	}
	at := slices.IndexFunc(x.statements, func(s impl.Statement) bool { return s.Label == f.Label })
	switch {
	case at < 0:
		return impl.ErrUndefined
	case f.Label == "END":
		return impl.ErrState
	}
	x.frames = append(x.frames, modelCallFrame{name, saved, x.pc, x.base, x.at})
	x.base, x.pc = len(x.stack), x.entries[at]
	return impl.OK
}

// comeBack returns from a call.
func (x *modelMachine) comeBack(succeeded bool) int64 {
	last := len(x.frames) - 1
	f := x.frames[last]
	result := mapsOf(x.m.Scope).value(f.name)
	r := modelAssign(x.m.Scope, f.saved...)
	if r.code != impl.OK {
		return r.code
	}
	x.m.Scope = r.s
	x.stack, x.frames = x.stack[:x.base], x.frames[:last]
	x.pc, x.base, x.at = f.pc, f.base, f.at
	if !succeeded {
		x.trace("fail", f.name)
		return modelFails
	}
	x.trace("return", f.name)
	return x.put(result)
}

// runResult is what a function of chapter 20 returns: each of them returns some of this.
type runResult struct {
	m        impl.Memory
	v        impl.Value
	next     int64
	succeeds bool
	steps    int64
	code     int64
}

func equalRuns(a, b runResult) bool {
	return equalMemories(a.m, b.m) && a.v == b.v && a.next == b.next && a.succeeds == b.succeeds && a.steps == b.steps && a.code == b.code
}

func checkRun(t *testing.T, what string, got, want runResult) {
	t.Helper()
	if !equalRuns(got, want) {
		t.Errorf("%.600s: got %.1500q, want %.1500q", what, fmt.Sprint(got), fmt.Sprint(want))
	}
}

// evaluatedRun, statementRun and programRun take the results of the functions. The index of an outcome is its next.
func evaluatedRun(m impl.Memory, v impl.Value, succeeds bool, steps, code int64) runResult {
	return runResult{m: m, v: v, succeeds: succeeds, steps: steps, code: code}
}

func statementRun(m impl.Memory, next int64, succeeds bool, steps, code int64) runResult {
	return runResult{m: m, next: next, succeeds: succeeds, steps: steps, code: code}
}

func programRun(x impl.Outcome) runResult {
	return runResult{m: x.Memory, next: x.At, steps: x.Steps, code: x.Code}
}

// evaluated returns the result of operations outside of statements.
func (x *modelMachine) evaluated() runResult {
	switch {
	case x.code != impl.OK:
		return runResult{code: x.code}
	case !x.succeeded:
		return runResult{m: x.m, steps: x.steps}
	}
	return evaluatedRun(x.m, x.stack[0], true, x.steps, impl.OK)
}

// modelEvaluateIn, modelCallProgram, modelRunStatement and modelRun are for valid arguments.
func modelEvaluateIn(p impl.Program, m impl.Memory, e impl.Expr, fuel int64) runResult {
	x := newModelMachine(p, m, fuel)
	x.append(modelCode(e)...)
	return x.run().evaluated()
}

func modelCallProgram(p impl.Program, m impl.Memory, name string, args []impl.Value, fuel int64) runResult {
	if _, isFunction := mapsOf(m.Scope).functions[name]; !isFunction {
		return runResult{code: impl.ErrUndefined}
	}
	x := newModelMachine(p, m, fuel)
	x.append(func(x *modelMachine) int64 { return x.call(name, args) })
	return x.run().evaluated()
}

func modelRunStatement(p impl.Program, m impl.Memory, at int, fuel int64) runResult {
	x := newModelMachine(p, m, fuel)
	x.isSingle, x.pc = true, x.entries[at]
	x.run()
	if x.code != impl.OK {
		return runResult{code: x.code}
	}
	return statementRun(x.m, x.next, x.succeeded, x.steps, impl.OK)
}

// modelRun runs a program, and collects its memory at intervals unless every is 0.
func modelRun(p impl.Program, m impl.Memory, fuel, every int64) runResult {
	x := newModelMachine(p, m, fuel)
	x.every = every
	if len(p.Statements) > 0 && p.Statements[0].Label != "END" {
		x.run()
	}
	return runResult{m: x.m, next: int64(x.at), steps: x.steps, code: x.code}
}

// modelEvaluate and modelTarget evaluate an expression without a program.
func modelEvaluate(m impl.Memory, e impl.Expr) evalResult {
	x := newModelMachine(impl.Program{}, m, 0)
	x.isAlone = true
	x.append(modelCode(e)...)
	r := x.run().evaluated()
	return evalResult{m: r.m, v: r.v, succeeds: r.succeeds, code: r.code}
}

func modelTarget(m impl.Memory, e impl.Expr) evalResult {
	x := newModelMachine(impl.Program{}, m, 0)
	x.isAlone = true
	place := modelPlaceOf(e)
	x.append(append(place.prefix, func(x *modelMachine) int64 {
		x.target = place.aim(x.take(place.count))
		return x.put(stringOf(""))
	})...)
	r := x.run().evaluated()
	return evalResult{m: r.m, target: x.target, succeeds: r.succeeds, code: r.code}
}
