package tests

import (
	"fmt"
	"math"
	"slices"
	"strings"
	"testing"

	"loop.example/g00873/impl"
)

// The tests of this file are promise 1 for the functions of chapters 19 and 20.

// runCase has arguments of these functions. The number is a kind, an index, fuel, an interval or the number of a statement.
type runCase struct {
	p      impl.Program
	m      impl.Memory
	e      impl.Expr
	name   string
	v      impl.Value
	args   []impl.Value
	target impl.Target
	g      impl.Goto
	n      int64
	source string
	input  []string
}

// pureResult is all that a function returns.
type pureResult struct {
	m      impl.Memory
	env    []impl.Named
	output []string
	target impl.Target
	rest   string
}

func pure(m impl.Memory, rest ...any) pureResult {
	return pureResult{m: m, rest: fmt.Sprint(rest...)}
}

func pureMemory(m impl.Memory, code int64) pureResult {
	return pure(m, code)
}

func pureValue(m impl.Memory, v impl.Value, succeeds bool, code int64) pureResult {
	return pure(m, v, succeeds, code)
}

func pureRun(m impl.Memory, v impl.Value, succeeds bool, steps, code int64) pureResult {
	return pure(m, v, succeeds, steps, code)
}

func pureOutcome(x impl.Outcome) pureResult {
	return pure(x.Memory, x.At, x.Steps, x.Code)
}

// evaluationFunctions are all functions of chapter 19.
func evaluationFunctions() map[string]func(c runCase) pureResult {
	return map[string]func(c runCase) pureResult{
		"ValidMemory": func(c runCase) pureResult { return pure(impl.Memory{}, impl.ValidMemory(c.m)) },
		"SameMemory": func(c runCase) pureResult {
			other := c.m
			other.Scope.Types = c.m.Scope.Types[len(c.m.Scope.Types)/2:]
			return pure(impl.Memory{}, impl.SameMemory(c.m, c.m), impl.SameMemory(c.m, other), impl.SameMemory(exampleMemory(), c.m))
		},
		"ReadVariable": func(c runCase) pureResult { return pureValue(impl.ReadVariable(c.m, c.name)) },
		"WriteVariable": func(c runCase) pureResult {
			return pureMemory(impl.WriteVariable(c.m, c.name, c.v))
		},
		"PatternEnv": func(c runCase) pureResult { return pureResult{env: impl.PatternEnv(c.m.Scope)} },
		"NameOfValue": func(c runCase) pureResult {
			name, ok := impl.NameOfValue(c.v)
			return pure(impl.Memory{}, name, ok)
		},
		"ApplyBinary": func(c runCase) pureResult {
			v, code := impl.ApplyBinary(c.n, c.v, slices.Concat(c.args, []impl.Value{c.v})[0])
			return pure(impl.Memory{}, v, code)
		},
		"ApplyNamed": func(c runCase) pureResult { return pureValue(impl.ApplyNamed(c.m, c.name, c.args)) },
		"Evaluate":   func(c runCase) pureResult { return pureValue(impl.Evaluate(c.m, c.e)) },
		"EvalTarget": func(c runCase) pureResult {
			m, target, succeeds, code := impl.EvalTarget(c.m, c.e)
			r := pure(m, succeeds, code)
			r.target = target
			return r
		},
		"ReadTarget": func(c runCase) pureResult { return pureValue(impl.ReadTarget(c.m, c.target)) },
		"WriteTarget": func(c runCase) pureResult {
			m, succeeds, code := impl.WriteTarget(c.m, c.target, c.v)
			return pure(m, succeeds, code)
		},
	}
}

// executionFunctions are all functions of chapter 20.
func executionFunctions() map[string]func(c runCase) pureResult {
	return map[string]func(c runCase) pureResult{
		"NewMemory": func(c runCase) pureResult {
			m, ok := impl.NewMemory(c.input)
			return pure(m, ok)
		},
		"NextStatement": func(c runCase) pureResult {
			next, code := impl.NextStatement(c.p, c.g, len(c.args)%2 == 0, c.n)
			return pure(impl.Memory{}, next, code)
		},
		"EvaluateIn":  func(c runCase) pureResult { return pureRun(impl.EvaluateIn(c.p, c.m, c.e, 100)) },
		"CallProgram": func(c runCase) pureResult { return pureRun(impl.CallProgram(c.p, c.m, c.name, c.args, 100)) },
		"RunStatement": func(c runCase) pureResult {
			m, next, succeeds, steps, code := impl.RunStatement(c.p, c.m, c.n, 100)
			return pure(m, next, succeeds, steps, code)
		},
		"RunProgram":            func(c runCase) pureResult { return pureOutcome(impl.RunProgram(c.p, c.m, 100)) },
		"RunProgram, some fuel": func(c runCase) pureResult { return pureOutcome(impl.RunProgram(c.p, c.m, c.n)) },
		"CollectMemory":         func(c runCase) pureResult { return pureMemory(impl.CollectMemory(c.m)) },
		"RunCollecting":         func(c runCase) pureResult { return pureOutcome(impl.RunCollecting(c.p, c.m, 100, c.n)) },
		"AlikeMemory": func(c runCase) pureResult {
			collected, _ := impl.CollectMemory(c.m)
			return pure(impl.Memory{}, impl.AlikeMemory(c.m, c.m), impl.AlikeMemory(collected, c.m), impl.AlikeMemory(c.m, exampleMemory()))
		},
		"OutputOf": func(c runCase) pureResult {
			output, code := impl.OutputOf(c.source, c.input, 100)
			return pureResult{output: output, rest: fmt.Sprint(code)}
		},
	}
}

func equalNamed(a, b impl.Named) bool {
	return a.Name == b.Name && equalPatterns(a.Pattern, b.Pattern)
}

func equalPureResults(a, b pureResult) bool {
	return equalMemories(a.m, b.m) && slices.EqualFunc(a.env, b.env, equalNamed) && slices.Equal(a.output, b.output) && a.target == b.target && a.rest == b.rest
}

// sharedMemory returns a memory whose lists share memory with each other.
func sharedMemory() impl.Memory {
	values := []impl.Value{arrayRef(1), arrayRef(2), arrayRef(1)}
	names, lines := []string{"X", "Y", "Z"}, []string{"a", "b", "c"}
	return impl.Memory{
		Heap:    heapWith(3, impl.Object{Id: 1, Kind: impl.ObArray, Vals: values}, impl.Object{Id: 2, Kind: impl.ObArray, Vals: values}, impl.Object{Id: 3, Kind: impl.ObTable, Keys: values[:2], Vals: values[1:], Default: stringOf("")}),
		Scope:   impl.Scope{Vars: []impl.Binding{binding("L", arrayRef(1)), binding("P", patternOf("alt(rem,arbno(alt(arb,\"x\")))")), binding("Q", patternOf("cond(arb,X)")), binding("T", tableRef(3))}, Functions: []impl.Function{function("F", "F", names[:1], names[1:]), function("G", "F", names, nil)}, Types: []impl.RecordType{recordType("NODE", names...), recordType("S", names[1:]...)}},
		Console: impl.Console{Input: lines, At: 1, Output: lines, Trace: lines, Files: []impl.File{{Name: "A", Lines: lines, Mode: impl.FmRead, At: 2}, {Name: "B", Lines: lines[1:]}}},
	}
}

// runCases returns arguments, valid and invalid ones, and some that share memory with each other.
func runCases(t *testing.T) []runCase {
	t.Helper()
	p, m := called(t)
	kids := []impl.Expr{variable("X"), number(1)}
	sum := node(impl.ExAdd, kids...)
	shared := node(impl.ExAlt, node(impl.ExAlt, kids...), node(impl.ExAlt, kids...))
	sources := []string{factorial, " OUTPUT = INPUT; L = ARRAY(2); L<1> = 3; OUTPUT = L<1> :(END);END\n", "F F = X :(RETURN);L Y = F(1) L<1>\n", " T<L> = 'x'; S = TABLE(); DATA('R(A,B)'); L<1> = R(L); DEFINE('H(X)','F'); OUTPUT = H(5);END\n", " A =B\n", "", " 'abc' ARB . OUTPUT LEN(1) $ X @Y; TRACE = 1; F(1);F F = 'x' P :(FRETURN)\n", " OPEN('Q','W'); PUT('Q',INPUT); CLOSE('Q'); OPEN('Q','R'); OUTPUT = GET('Q')\n"}
	programs := []impl.Program{p, program(labelled("F", subject(sum)), withReplace(subject(variable("A")), shared), subject(shared), withPattern(subject(number(1)), sum)), {}, program(impl.Statement{})}
	for _, source := range append(sources[:4:4], sources[7], " PUT('a',GET('A')); REWIND('A') CLOSE('a') OPEN('B','A'); ERASE('a') PUT('B','x')\n", " S = GET('A') GET('A'); OUTPUT = OPEN('B','R') GET('B')\n") {
		programs = append(programs, parsedProgram(t, source))
	}
	memories := []impl.Memory{m, exampleMemory(), sharedMemory(), {}, fullMemory(), sharedMemory(), {Heap: impl.Heap{Objects: []impl.Object{}}, Scope: impl.Scope{Vars: []impl.Binding{}, Functions: []impl.Function{}}, Console: impl.Console{Input: []string{}}}, invalidMemories()[0].m, {Heap: exampleHeap(), Scope: varsOf(binding("A", arrayRef(3)))}}
	exprs := []impl.Expr{shared, sum, call("F", kids...), call("F", kids[1]), {}, call("1")}
	for _, s := range []string{"INPUT", "L<1>", "T<L>", "ARRAY(3,L)", "TABLE(T)", "NODE(L,T,1)", "X(NODE(1))", "F(1)", "G(1,2)", "SIZE('x')", "DEFINE('H(A,B)C')", "DATA('R(A,B)')", "1 / 0", "EQ(1,2)", "$'L'", "A . X", "P | Q", "P Q . X", "COPY(L)", "LEN(1)", "F(F(1))", "$X", "X(L)", "KEY(T,2)", "GET('A')", "OPEN('B','A')", "OPEN('NEW','W')", "PUT('a','x')", "CLOSE('A')", "REWIND('A') GET('A')", "ERASE('B')"} {
		exprs = append(exprs, parsedExpr(t, s))
	}
	names := []string{"L", "INPUT", "OUTPUT", "F", "G", "NODE", "X", "A", "SIZE", "DEFINE", "DATA", "TABLE", "REM", "1", "N000", "COPY", "B"}
	names = append(names, sortedBuiltins(ofFiles)...)
	values := valuesOf("", "x", 3, arrayRef(1), "H(A,B)C", patternOf("alt(rem,arb)"), nameOf("L"), deferOf("P"), impl.Value{}, recordRef(4))
	targets := []impl.Target{{Kind: 1, Name: "L"}, {Kind: 1, Name: "OUTPUT"}, {Kind: 2, Object: arrayRef(1), Index: integerOf(1)}, {Kind: 2, Object: arrayRef(1), Index: integerOf(9)}, {Kind: 3, Name: "A", Object: recordRef(4)}, {Kind: 1, Name: "INPUT"}, {}, {Kind: 2, Object: tableRef(3), Index: arrayRef(1)}}
	gotos := []impl.Goto{{}, {Always: "F"}, {Success: "END", Failure: "RETURN"}, {Always: "NONE"}, {Always: "A", Success: "A"}}
	inputs := [][]string{{"a", "7", ""}, nil, {}, {strings.Repeat("x", 201)}}
	var cases []runCase
	for i := range 23 * 24 {
		c := runCase{programs[i%11], memories[i%9], exprs[i%37], names[i%23], values[i%10], values[i%7 : i%7+i%3 : i%7+i%3], targets[i/2%8], gotos[i%5], int64(i%14) - 1, sources[i/2%8], inputs[i%4]}
		if builtinRows[c.name].table == ofFiles && i%4 > 0 {
			c.args = goodArguments(c.name)
		}
		cases = append(cases, c)
	}
	return cases
}

func copyRunCase(c runCase) runCase {
	c.p, c.m, c.e = copyProgram(c.p), copyMemory(c.m), copyExpr(c.e)
	c.name, c.source, c.v.Text = strings.Clone(c.name), strings.Clone(c.source), strings.Clone(c.v.Text)
	c.args, c.input = slices.Clone(c.args), slices.Clone(c.input)
	return c
}

// roomyRunCase returns an equal case, each of whose lists has unused elements behind it.
func roomyRunCase(c runCase) runCase {
	b := roomyBuiltinCase(builtinCase{h: c.m.Heap, c: c.m.Console})
	c.m = impl.Memory{Heap: b.h, Scope: roomyScopeCase(scopeCase{s: c.m.Scope}).s, Console: b.c}
	c.p, c.e = roomyProgram(c.p), roomy(c.e)
	c.args, _ = backing(c.args, integerOf(77))
	c.input, _ = backing(c.input, "unused")
	return c
}

// otherEmptyExpr returns an equal expression with nil for each empty list, and an empty list for each nil.
func otherEmptyExpr(e impl.Expr) impl.Expr {
	e.Kids = otherEmpty(e.Kids)
	for i, kid := range e.Kids {
		e.Kids[i] = otherEmptyExpr(kid)
	}
	return e
}

// turnedRunCase does the same with all lists of a case.
func turnedRunCase(c runCase) runCase {
	b := turnedBuiltinCase(builtinCase{h: c.m.Heap, c: c.m.Console})
	c.m = impl.Memory{Heap: b.h, Scope: turnedScopeCase(scopeCase{s: c.m.Scope}).s, Console: b.c}
	c.e, c.args, c.input = otherEmptyExpr(c.e), otherEmpty(c.args), otherEmpty(c.input)
	c.p.Statements = otherEmpty(c.p.Statements)
	for i, s := range c.p.Statements {
		c.p.Statements[i].Subject, c.p.Statements[i].Pattern, c.p.Statements[i].Replace = otherEmptyExpr(s.Subject), otherEmptyExpr(s.Pattern), otherEmptyExpr(s.Replace)
	}
	return c
}

func (w *watcher) watchExpr(e impl.Expr) {
	watch(w, e.Kids, sameMemory)
	for _, kid := range e.Kids {
		w.watchExpr(kid)
	}
}

func watchRunCase(w *watcher, c runCase) {
	watchBuiltinCase(w, builtinCase{h: c.m.Heap, c: c.m.Console})
	watchScopeCase(w, scopeCase{s: c.m.Scope})
	w.watchExpr(c.e)
	watch(w, c.p.Statements, func(a, b impl.Statement) bool {
		return a.Label == b.Label && a.Goto == b.Goto && a.HasSubject == b.HasSubject && a.HasPattern == b.HasPattern && a.HasReplace == b.HasReplace &&
			sameMemory(a.Subject, b.Subject) && sameMemory(a.Pattern, b.Pattern) && sameMemory(a.Replace, b.Replace)
	})
	for _, s := range c.p.Statements {
		for _, e := range []impl.Expr{s.Subject, s.Pattern, s.Replace} {
			w.watchExpr(e)
		}
	}
	watch(w, c.args, sameElement)
	watch(w, c.input, sameElement)
}

// addMemory, addPureResult and addRunCase add the memory of lists, and report whether none of it was there before.
func (m patternMemory) addMemory(x impl.Memory) bool {
	fresh := m.addHeap(x.Heap)
	fresh = m.addConsole(x.Console) && fresh
	return m.addScope(x.Scope) && fresh
}

func (m patternMemory) addPureResult(r pureResult) bool {
	fresh := m.addMemory(r.m)
	fresh = isNew(m, r.env) && fresh
	for _, x := range r.env {
		fresh = m.addPattern(x.Pattern) && fresh
	}
	return isNew(m, r.output) && fresh
}

func (m patternMemory) addRunCase(c runCase) {
	m.addMemory(c.m)
	isNew(m, c.args)
	isNew(m, c.input)
}

func overwritePureResult(r pureResult) {
	b := builtinResult{callResult: callResult{heap: r.m.Heap, console: r.m.Console}, names: r.output}
	for _, x := range r.env {
		b.patterns = append(b.patterns, x.Pattern)
	}
	overwriteBuiltinResult(b)
	overwriteScopeResult(scopeResult{s: r.m.Scope})
	overwriteAll(r.env, impl.Named{Name: "changed"})
}

func runPurity(t *testing.T, functions map[string]func(c runCase) pureResult) purity[runCase, pureResult] {
	return purity[runCase, pureResult]{
		functions: functions, cases: runCases(t), equal: equalPureResults,
		copied: copyRunCase, roomy: roomyRunCase, turned: turnedRunCase, watch: watchRunCase,
		addCase: patternMemory.addRunCase, addResult: patternMemory.addPureResult, overwrite: overwritePureResult,
	}
}

func TestEvaluationFunctionsArePure(t *testing.T) {
	runPurity(t, evaluationFunctions()).checkAll(t, map[string]int{"ReadVariable": 5000, "WriteVariable": 5000, "PatternEnv": 100, "ApplyNamed": 1000, "Evaluate": 5000, "EvalTarget": 1000, "ReadTarget": 1000, "WriteTarget": 1000})
}

func TestExecutionFunctionsArePure(t *testing.T) {
	runPurity(t, executionFunctions()).checkAll(t, map[string]int{"NewMemory": 500, "EvaluateIn": 5000, "CallProgram": 100, "RunStatement": 1000, "RunProgram": 5000, "RunProgram, some fuel": 5000, "CollectMemory": 5000, "RunCollecting": 5000, "OutputOf": 20})
}

// TestFailuresOfExecution checks that nothing but the code is left of a call with an error, and no value of one that fails.
func TestFailuresOfExecution(t *testing.T) {
	codes := map[int64]int{}
	changed := 0
	for i, c := range runCases(t) {
		if r := valued(impl.ApplyNamed(c.m, c.name, c.args)); r.code == impl.OK && !slices.EqualFunc(r.m.Console.Files, c.m.Console.Files, equalFiles) {
			changed++
		}
		for what, r := range map[string]evalResult{
			"ReadVariable":  valued(impl.ReadVariable(c.m, c.name)),
			"WriteVariable": written(impl.WriteVariable(c.m, c.name, c.v)),
			"ApplyNamed":    valued(impl.ApplyNamed(c.m, c.name, c.args)),
			"Evaluate":      valued(impl.Evaluate(c.m, c.e)),
			"EvalTarget":    aimed(impl.EvalTarget(c.m, c.e)),
			"ReadTarget":    valued(impl.ReadTarget(c.m, c.target)),
			"WriteTarget":   stored(impl.WriteTarget(c.m, c.target, c.v)),
		} {
			codes[r.code]++
			if r.code != impl.OK {
				checkEval(t, fmt.Sprintf("%s, case %d", what, i), r, ended(r.code))
			}
			if !r.succeeds {
				checkEqual(t, fmt.Sprintf("%s, case %d: a value", what, i), r.v == impl.Value{} && r.target == impl.Target{}, true)
			}
		}
		for what, r := range map[string]runResult{
			"EvaluateIn":   evaluatedRun(impl.EvaluateIn(c.p, c.m, c.e, 100)),
			"CallProgram":  evaluatedRun(impl.CallProgram(c.p, c.m, c.name, c.args, 100)),
			"RunStatement": statementRun(impl.RunStatement(c.p, c.m, c.n, 100)),
		} {
			codes[r.code]++
			if r.code != impl.OK {
				checkRun(t, fmt.Sprintf("%s, case %d", what, i), r, runResult{code: r.code})
			}
			if !r.succeeds {
				checkEqual(t, fmt.Sprintf("%s, case %d: a value", what, i), r.v, impl.Value{})
			}
		}
	}
	if changed < 15 {
		t.Errorf("files were changed only %d times", changed)
	}
	for _, code := range []int64{impl.OK, impl.ErrInvalid, impl.ErrRange, impl.ErrType, impl.ErrUndefined, impl.ErrState, impl.ErrNotFound} {
		if codes[code] < 10 {
			t.Errorf("the code %d was returned only %d times", code, codes[code])
		}
	}
}

// TestExecutionWithVeryLargeArguments has lists and texts far beyond all limits, expressions without end, and the least and the greatest numbers.
func TestExecutionWithVeryLargeArguments(t *testing.T) {
	long := strings.Repeat("x", 1000000)
	lines := slices.Repeat([]string{long}, 300000)
	p, m := called(t)
	programs := []impl.Program{p, program(slices.Repeat([]impl.Statement{subject(variable("A"))}, 100000)...), program(subject(endlessKids(3))), program(subject(sharedKids(200))), program(labelled(long, subject(variable(long))))}
	memories := []impl.Memory{m, {Heap: heapWith(math.MaxInt64, arraysTo(300000)...)}, {Scope: varsOf(slices.Repeat([]impl.Binding{binding(long, stringOf(long))}, 100000)...)}, {Scope: functionsOf(function("F", "F", lines, lines))}, {Console: impl.Console{Input: lines, Output: lines, Trace: lines, At: math.MinInt64}}}
	exprs := []impl.Expr{endlessKids(1), sharedKids(200), nested(impl.ExNeg, 1000000, variable("A")), call("F", make([]impl.Expr, 300000)...), literal(long), call("F", number(1))}
	values := []impl.Value{stringOf(long), patternOf(long), integerOf(math.MinInt64), {Kind: math.MaxInt64, Ref: math.MinInt64}, integerOf(1)}
	numbers := []int64{math.MinInt64, -1, 1, 4001, math.MaxInt64}
	for i := range 150 {
		v := values[i%5]
		c := runCase{programs[i/5%5], memories[i/3%5], exprs[i%6], []string{"F", long, "INPUT", ""}[i%4], v, [][]impl.Value{nil, {v}, slices.Repeat([]impl.Value{v}, 300000)}[i%3], impl.Target{Kind: int64(i % 4), Name: long, Object: v, Index: v}, impl.Goto{Always: long, Success: long}, numbers[i/2%5], []string{long, strings.Repeat(" A\n", 300000), " OUTPUT = 1\n"}[i%3], [][]string{lines, nil}[i%2]}
		for _, functions := range []map[string]func(c runCase) pureResult{evaluationFunctions(), executionFunctions()} {
			for what, call := range functions {
				if !equalPureResults(call(c), call(c)) {
					t.Errorf("%s: another result for the case %d", what, i)
				}
			}
		}
	}
}
