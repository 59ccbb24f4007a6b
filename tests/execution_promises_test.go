package tests

import (
	"fmt"
	"math/rand"
	"slices"
	"strings"
	"testing"

	"loop.example/g00873/impl"
)

// The tests of this file are the promises 26, 27 and 28.

// programSource makes random programs.
type programSource struct {
	*rand.Rand
}

func newProgramSource(seed int64) programSource {
	return programSource{rand.New(rand.NewSource(seed))}
}

func (s programSource) oneOf(list ...string) string {
	return list[s.Intn(len(list))]
}

// numeral returns an expression whose value is a number in most cases.
func (s programSource) numeral(depth int) string {
	if depth == 0 || s.Intn(3) == 0 {
		return s.oneOf("I", "J", "N", "0", "1", "2", "7", "'3'", "L<1>", "L<I>", "T<'k'>", "SIZE(S)")
	}
	a, b := s.numeral(depth-1), s.numeral(depth-1)
	return s.oneOf("("+a+" + "+b+")", "("+a+" - "+b+")", "("+a+" * "+b+")", "("+a+" / "+b+")", "F("+a+")", "G("+a+","+b+")", "-"+a, "(LT("+a+","+b+") "+a+")", "H()", "LENGTH(L)")
}

// text returns an expression whose value is a string in most cases.
func (s programSource) text(depth int) string {
	if depth == 0 || s.Intn(3) == 0 {
		return s.oneOf("S", "W", "V", "'ab'", "'cab'", "''", "INPUT", "I", "T<I>", "T<S>", "$'S'", "$.W", "DUPL('ab',I)", "GET('IN')")
	}
	a, b := s.text(depth-1), s.text(depth-1)
	return s.oneOf("("+a+" "+b+")", "REVERSE("+a+")", "F("+a+")", "G("+a+")", "("+a+" "+s.numeral(depth-1)+")", "TRIM("+a+")", "HEAD(R)", "K("+a+")", "(IDENT("+a+","+b+") "+a+")")
}

// pattern returns an expression whose value is a pattern in most cases.
func (s programSource) pattern(depth int) string {
	if depth == 0 || s.Intn(3) == 0 {
		return s.oneOf("P", "'a'", "'b'", "SPAN('ab')", "LEN(1)", "ARB", "REM", "BAL", "*P", "*S", "@I", "BREAK('b')", "ANY(S)", "POS(0)", "RPOS(0)", "FENCE", "TAB(N)", "FAIL", "S", "I")
	}
	a, b := s.pattern(depth-1), s.pattern(depth-1)
	return s.oneOf("("+a+" "+b+")", "("+a+" | "+b+")", "("+a+" . W)", "("+a+" $ V)", "("+a+" . OUTPUT)", "ARBNO("+a+")", "("+a+" @N)", "("+a+" $ OUTPUT "+b+")")
}

// target returns an expression to which a value can be assigned in most cases.
func (s programSource) target() string {
	return s.oneOf("S", "S", "W", "I", "I", "J", "N", "V", "P", "OUTPUT", "OUTPUT", "T<I>", "T<S>", "L<1>", "L<I>", "L<F(I)>", "HEAD(R)", "TAIL(R)", "$'S'", "$V", "$('S' 'S')", "TRACE", "ANCHOR", "T<INPUT>", "R", "SS")
}

// object returns an expression that creates or finds an object.
func (s programSource) object() string {
	return s.oneOf("ARRAY(3,I)", "ARRAY(4,L)", "TABLE()", "TABLE(T)", "NODE(S,R)", "NODE(L,T)", "COPY(L)", "COPY(R)", "TAIL(R)", "HEAD(R)", "L", "T", "R", "L<2>", "T<S>", "ITEM(T,1)", "KEY(T,2)", "K(R)")
}

func (s programSource) goTo() string {
	label := s.oneOf("L1", "L2", "L3", "L4", "L5", "L6")
	return s.oneOf("", "", "", "", "", "", ":("+label+")", ":S("+label+")", ":F("+label+")", ":S("+label+")F(L6)", ":F(END)")
}

// files returns an expression that changes files without an error in most cases.
func (s programSource) files() string {
	return s.oneOf("PUT('LOG',S)", "PUT('LOG',"+s.text(1)+")", "PUT('LOG',GET('IN'))", "GET('IN')", "REWIND('IN')", "REWIND('IN') GET('IN')", "CLOSE('LOG') OPEN('LOG','A') PUT('LOG',I)", "CLOSE('LOG') OPEN('LOG','R') GET('LOG') CLOSE('LOG') OPEN('LOG','A')", "CLOSE('LOG') OPEN('LOG','W')", "OPEN('A' I,'A') PUT('A' I,S) CLOSE('A' I)", "CLOSE('IN') ERASE('IN') OPEN('IN','A') PUT('IN',W) CLOSE('IN') OPEN('IN','R')", "OPEN('A' N,'W')", "OPEN(S,'A')", "OPEN(W,'A')", "PUT('IN',S)", "ERASE('A' I)")
}

// statement returns a statement with parts of all sorts.
func (s programSource) statement() string {
	var body string
	switch s.Intn(13) {
	case 0:
		body = "(" + s.text(2) + ")"
	case 1, 2:
		body = s.target() + " = " + s.text(2)
	case 3, 4:
		body = s.oneOf("I", "J", "N", "OUTPUT", "L<I>", "T<I>", s.target()) + " = " + s.numeral(2)
	case 5, 6:
		body = "(" + s.text(1) + ") " + s.pattern(2)
	case 7, 8:
		body = s.target() + " " + s.pattern(2) + " = " + s.text(1)
	case 9:
		body = "P = " + s.pattern(2)
	case 10:
		body = s.oneOf("L", "T", "R", "L<2>", "T<S>", "TAIL(R)", "V", "T<R>") + " = " + s.object()
	case 11:
		body = s.oneOf("", "", "S = ", "W = ", "OUTPUT = ", "T<I> = ") + s.files()
	default:
		body = s.oneOf("", "S = INPUT", "DEFINE('F(I)J')", "DEFINE('G(N,S)','F')", "DEFINE('K(S)','K2')", "DATA('NODE(HEAD,TAIL)')", "OUTPUT = I", "OUTPUT = S", "TRACE = 1", "TRACE =", "ANCHOR = 1", "ANCHOR =")
		if body == "" {
			return " :(" + s.oneOf("L1", "L2", "L3", "L4", "L5", "L6", "END", "NONE", "RETURN") + ")"
		}
	}
	return " " + body + " " + s.goTo()
}

// source returns a source text with functions that call each other, objects, files, and statements of all sorts.
func (s programSource) source() string {
	lines := []string{
		" DEFINE('F(I)J')", " DEFINE('G(N,S)W','G1')", " DEFINE('H()I')", " DEFINE('K(K)','K1')", " DATA('NODE(HEAD,TAIL)')",
		" L = ARRAY(3,1)", " T = TABLE()", " R = NODE('ab',L)", " S = 'cabab'", " I = 2",
		" OPEN('IN','W') PUT('IN','ab') PUT('IN',7) PUT('IN','cab') CLOSE('IN') OPEN('IN','R') OPEN('LOG','A')",
	}
	for i := range 12 {
		label := ""
		if i%2 == 0 {
			label = fmt.Sprint("L", i/2+1)
		}
		lines = append(lines, label+s.statement())
	}
	lines = append(lines, " :(END)")
	bodies := [][]string{
		{"F F = LT(I,3) I + 1 :S(RETURN)", " I = I - 1", " J = F(I) :F(FRETURN)", " F = J :(RETURN)"},
		{"G1 W = S :F(FRETURN)", " S 'b' = :F(RETURN)", " G = G(N) N :(RETURN)"},
		{"H I = LT(I,5) I + 1 :S(H)", " H = I :(RETURN)"},
		{"K1 K = K :(RETURN)"},
		{"K2 S LEN(1) . K :S(RETURN)F(FRETURN)"},
	}
	for _, body := range bodies {
		if s.Intn(3) == 0 {
			body[s.Intn(len(body))] += ";" + s.statement()
		}
		lines = append(lines, body...)
	}
	return strings.Join(append(lines, "END"), "\n") + "\n"
}

// program returns a random program and the memory in which it begins.
func (s programSource) program(t *testing.T) (impl.Program, impl.Memory) {
	t.Helper()
	var input []string
	for range s.Intn(5) {
		input = append(input, s.oneOf("", "ab", "cab", "7", "S", "k", "bab ba"))
	}
	m, _ := impl.NewMemory(input)
	for {
		if p, _, code := impl.ParseProgram(s.source()); code == impl.OK {
			return p, m
		}
	}
}

// eachProgramRun calls visit with random programs, the memories in which they begin, and the outcomes of their runs.
func eachProgramRun(t *testing.T, seed int64, count int, visit func(s programSource, what string, p impl.Program, m impl.Memory, x impl.Outcome)) {
	t.Helper()
	s := newProgramSource(seed)
	for range count {
		p, m := s.program(t)
		visit(s, impl.PrintProgram(p), p, m, impl.RunProgram(p, m, runFuel))
		if t.Failed() {
			return
		}
	}
}

// runFuel is the fuel of the runs of random programs.
const runFuel = 300

// TestRandomProgramsAgainstModel compares runs, also with little fuel and with collections, with those of the model.
func TestRandomProgramsAgainstModel(t *testing.T) {
	t.Parallel()
	codes := map[int64]int{}
	traces, read, appended := 0, 0, 0
	eachProgramRun(t, 201, 240, func(s programSource, what string, p impl.Program, m impl.Memory, x impl.Outcome) {
		checkRun(t, what, programRun(x), modelRun(p, m, runFuel, 0))
		codes[x.Code]++
		traces += len(x.Memory.Console.Trace)
		files := filesOf(x.Memory.Console)
		read += int(files["IN"].At)
		appended += len(files["LOG"].Lines)
		fuel, every := s.Int63n(60), 1+s.Int63n(7)
		checkRun(t, fmt.Sprintf("fuel %d: %s", fuel, what), programRun(impl.RunProgram(p, m, fuel)), modelRun(p, m, fuel, 0))
		checkRun(t, fmt.Sprintf("every %d: %s", every, what), programRun(impl.RunCollecting(p, m, runFuel, every)), modelRun(p, m, runFuel, every))
		checkEqual(t, what+": a valid memory", impl.ValidMemory(x.Memory) && modelMemory(x.Memory), true)
	})
	for _, code := range []int64{impl.OK, impl.ErrInvalid, impl.ErrRange, impl.ErrType, impl.ErrUndefined, impl.ErrFull, impl.ErrSteps, impl.ErrStack, impl.ErrState, impl.ErrNotFound} {
		if codes[code] < 1 {
			t.Errorf("the code %d was not returned", code)
		}
	}
	if traces < 50 || read < 50 || appended < 50 {
		t.Errorf("only %d trace lines, and %d lines of files that were read and %d that were written", traces, read, appended)
	}
}

// TestStatementsAgainstModel compares what single statements, expressions and calls do in the memories that programs leave.
func TestStatementsAgainstModel(t *testing.T) {
	t.Parallel()
	results := map[string]int{}
	count := func(what string, succeeds bool, code int64) { results[fmt.Sprint(what, succeeds, code == impl.OK)]++ }
	eachProgramRun(t, 202, 180, func(s programSource, what string, p impl.Program, m impl.Memory, x impl.Outcome) {
		m = x.Memory
		for range 4 {
			at, fuel := s.Intn(len(p.Statements)), []int64{100, s.Int63n(12)}[s.Intn(2)]
			got := statementRun(impl.RunStatement(p, m, int64(at), fuel))
			checkRun(t, fmt.Sprintf("the statement %d with fuel %d: %s", at, fuel, what), got, modelRunStatement(p, m, at, fuel))
			count("statement", got.succeeds, got.code)
			e := parsedExpr(t, s.oneOf(s.numeral(3), s.text(3), s.pattern(3), s.object()))
			got = evaluatedRun(impl.EvaluateIn(p, m, e, fuel))
			checkRun(t, fmt.Sprintf("%s with fuel %d: %s", impl.PrintExpr(e), fuel, what), got, modelEvaluateIn(p, m, e, fuel))
			count("expression", got.succeeds, got.code)
			args := valuesOf("", "ab", s.Intn(5), nameOf("S"))[s.Intn(4):]
			args = args[:s.Intn(min(len(args), 3)+1)]
			name := s.oneOf("F", "G", "H", "K", "NODE", "SIZE")
			got = evaluatedRun(impl.CallProgram(p, m, name, args, fuel))
			checkRun(t, fmt.Sprintf("%s of %v with fuel %d: %s", name, args, fuel, what), got, modelCallProgram(p, m, name, args, fuel))
			count("call", got.succeeds, got.code)
		}
	})
	for _, what := range []string{"statement", "expression", "call"} {
		for _, kind := range []string{"true true", "false true", "false false"} {
			if results[what+kind] < 3 {
				t.Errorf("only %d results: %s %s", results[what+kind], what, kind)
			}
		}
	}
}

// TestSteppingIsRunning is the first part of promise 26.
func TestSteppingIsRunning(t *testing.T) {
	t.Parallel()
	codes := map[int64]int{}
	eachProgramRun(t, 203, 150, func(s programSource, what string, p impl.Program, m impl.Memory, x impl.Outcome) {
		at, next, steps, code := int64(-1), int64(0), int64(0), int64(impl.OK)
		for next >= 0 && code == impl.OK {
			at = next
			changed, to, _, used, got := impl.RunStatement(p, m, at, runFuel-steps)
			if got == impl.OK {
				m, steps = changed, steps+used
				continuation, _ := modelContinuation(p.Statements, p.Statements[at].Goto, true, int(at))
				other, _ := modelContinuation(p.Statements, p.Statements[at].Goto, false, int(at))
				checkEqual(t, what+": the next statement", to == continuation || to == other, true)
			}
			next, code = to, got
		}
		codes[x.Code]++
		if code != impl.OK {
			checkEqual(t, what+": code", code, x.Code)
			return
		}
		if next != impl.JumpEnd {
			code = impl.ErrState
		}
		checkRun(t, what, runResult{m: m, next: at, steps: steps, code: code}, programRun(x))
	})
	if codes[impl.OK] < 20 || codes[impl.ErrState] < 1 || codes[impl.ErrSteps] < 20 {
		t.Errorf("%v codes", codes)
	}
}

func isPrefix(part, whole []string) bool {
	return len(part) <= len(whole) && slices.Equal(part, whole[:len(part)])
}

// TestMoreFuelContinues is the second part of promise 26.
func TestMoreFuelContinues(t *testing.T) {
	t.Parallel()
	exact := 0
	eachProgramRun(t, 204, 80, func(s programSource, what string, p impl.Program, m impl.Memory, x impl.Outcome) {
		last := impl.Outcome{At: -1, Memory: m, Code: impl.ErrSteps}
		for fuel := int64(0); fuel <= x.Steps+2; fuel += 1 + fuel/12 {
			y := impl.RunProgram(p, m, fuel)
			at := fmt.Sprintf("fuel %d: %s", fuel, what)
			if fuel >= x.Steps && x.Steps < runFuel {
				checkRun(t, at, programRun(y), programRun(x))
				continue
			}
			if fuel < x.Steps {
				checkList(t, at+": steps and code", []int64{y.Steps, y.Code}, []int64{fuel, impl.ErrSteps})
			}
			before, after := last.Memory.Console, y.Memory.Console
			checkEqual(t, at+": output goes on", isPrefix(before.Output, after.Output) && isPrefix(after.Output, x.Memory.Console.Output), true)
			checkEqual(t, at+": the trace goes on", isPrefix(before.Trace, after.Trace), true)
			checkEqual(t, at+": input is read on", before.At <= after.At && len(last.Memory.Heap.Objects) <= len(y.Memory.Heap.Objects), true)
			last = y
		}
		if x.Steps > 0 && x.Steps < runFuel {
			exact++
			checkRun(t, "exactly enough: "+what, programRun(impl.RunProgram(p, m, x.Steps)), programRun(x))
			y := impl.RunProgram(p, m, x.Steps-1)
			checkList(t, "one less: "+what, []int64{y.Steps, y.Code}, []int64{x.Steps - 1, impl.ErrSteps})
		}
	})
	if exact < 30 {
		t.Errorf("only %d runs that end", exact)
	}
}

// TestCallsLeaveVariables is the third part of promise 26.
func TestCallsLeaveVariables(t *testing.T) {
	t.Parallel()
	calls := 0
	eachProgramRun(t, 205, 250, func(s programSource, what string, p impl.Program, m impl.Memory, x impl.Outcome) {
		m = x.Memory
		for _, f := range m.Scope.Functions {
			args := valuesOf("ab", s.Intn(4), "cab")[:s.Intn(len(f.Params)+1)]
			after, _, _, _, code := impl.CallProgram(p, m, f.Name, args, 200)
			if code != impl.OK {
				continue
			}
			calls++
			for _, name := range slices.Concat([]string{f.Name}, f.Params, f.Locals) {
				v, _ := impl.Lookup(m.Scope, name)
				w, _ := impl.Lookup(after.Scope, name)
				checkEqual(t, fmt.Sprintf("%s after a call of %s: %s", name, f.Name, what), w, v)
			}
		}
	})
	if calls < 150 {
		t.Errorf("only %d calls", calls)
	}
}

// TestCollectingChangesNumbersOnly is promise 27.
func TestCollectingChangesNumbersOnly(t *testing.T) {
	t.Parallel()
	compared, renumbered := 0, 0
	eachProgramRun(t, 206, 180, func(s programSource, what string, p impl.Program, m impl.Memory, x impl.Outcome) {
		if x.Code == impl.ErrFull {
			return
		}
		for _, every := range []int64{1, 2, 3, 5, 11, 1 + s.Int63n(50)} {
			y := impl.RunCollecting(p, m, runFuel, every)
			at := fmt.Sprintf("every %d: %s", every, what)
			checkList(t, at, []int64{y.At, y.Steps, y.Code}, []int64{x.At, x.Steps, x.Code})
			checkEqual(t, at+": alike", impl.AlikeMemory(x.Memory, y.Memory), true)
			checkEqual(t, at+": consoles", equalConsoles(x.Memory.Console, y.Memory.Console), true)
			checkEqual(t, at+": the shape of the heap", impl.SameShape(x.Memory.Heap, impl.ScopeRoots(x.Memory.Scope), y.Memory.Heap, impl.ScopeRoots(y.Memory.Scope)), true)
			compared++
			if !equalHeaps(x.Memory.Heap, y.Memory.Heap) {
				renumbered++
			}
		}
		collected, code := impl.CollectMemory(x.Memory)
		checkEqual(t, what+": collected at the end", code == impl.OK && impl.AlikeMemory(x.Memory, collected), true)
	})
	if compared < 700 || renumbered < 250 {
		t.Errorf("only %d runs, and %d with other numbers", compared, renumbered)
	}
}

// TestOutputIsThatOfTheProgram is the first part of promise 28.
func TestOutputIsThatOfTheProgram(t *testing.T) {
	t.Parallel()
	lines := 0
	eachProgramRun(t, 207, 150, func(s programSource, what string, p impl.Program, m impl.Memory, x impl.Outcome) {
		output, code := impl.OutputOf(what, m.Console.Input, runFuel)
		checkList(t, what, output, x.Memory.Console.Output)
		checkEqual(t, what, code, x.Code)
		lines += len(output)
	})
	if lines < 250 {
		t.Errorf("only %d lines", lines)
	}
}

// TestNumbersAreCountedAndSummed is the second part of promise 28.
func TestNumbersAreCountedAndSummed(t *testing.T) {
	s := newProgramSource(208)
	reading := "LOOP N = INPUT :F(DONE)\n SUM = SUM + N\n COUNT = COUNT + 1 :(LOOP)\nDONE OUTPUT = COUNT + 0\n OUTPUT = SUM + 0\nEND\n"
	scanning := "LOOP S = INPUT :F(DONE)\nNEXT S SPAN('0123456789') . N = :F(LOOP)\n SUM = SUM + N; COUNT = COUNT + 1 :(NEXT)\nDONE OUTPUT = COUNT + 0; OUTPUT = SUM + 0\nEND\n"
	calling := " DEFINE('SUM(N)'); DEFINE('COUNT(N)') :(LOOP)\nSUM SUM = LE(N,0) 0 :S(RETURN); SUM = N + SUM(N - 1) :(RETURN)\nCOUNT T = TABLE(); COUNT = 0\nAGAIN T<COUNT> = LT(COUNT,N) COUNT :F(SIZE); COUNT = COUNT + 1 :(AGAIN)\nSIZE COUNT = LENGTH(T) :(RETURN)\nLOOP N = INPUT :F(END); OUTPUT = COUNT(N); OUTPUT = SUM(N) :(LOOP)\nEND\n"
	for range 60 {
		var input []string
		total := int64(0)
		for range s.Intn(40) {
			n := s.Int63n(1000)
			total += n
			input = append(input, fmt.Sprint(n))
		}
		want := []string{fmt.Sprint(len(input)), fmt.Sprint(total)}
		for _, source := range []string{reading, scanning} {
			output, code := impl.OutputOf(source, input, 4000)
			checkList(t, fmt.Sprint("the numbers ", input), output, want)
			checkEqual(t, fmt.Sprint("the numbers ", input), code, impl.OK)
		}
		output, code := impl.OutputOf(scanning, []string{strings.Join(input, ", ")[:min(200, len(strings.Join(input, ", ")))]}, 4000)
		checkEqual(t, "numbers in a line", len(output) == 2 && code == impl.OK, true)
		n := s.Int63n(12)
		output, code = impl.OutputOf(calling, []string{fmt.Sprint(n), fmt.Sprint(11 - n)}, 4000)
		checkList(t, fmt.Sprint("numbers up to ", n), output, []string{fmt.Sprint(n), fmt.Sprint(n * (n + 1) / 2), fmt.Sprint(11 - n), fmt.Sprint((11 - n) * (12 - n) / 2)})
		checkEqual(t, fmt.Sprint("numbers up to ", n), code, impl.OK)
	}
}
