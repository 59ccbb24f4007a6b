package tests

import (
	"fmt"
	"math"
	"slices"
	"strings"
	"testing"

	"loop.example/g00873/impl"
)

// The tests of this file are promise 1 for the functions of chapter 21.

// consoleCase has arguments of these functions. The number is a mode or a kind.
type consoleCase struct {
	c, other  impl.Console
	name      string
	line      string
	n         int64
	statement int64
	v         impl.Value
}

// consoleResult is all that a function returns.
type consoleResult struct {
	fileResult
	rest string
}

// consoleFunctions are all functions of chapter 21.
func consoleFunctions() map[string]func(c consoleCase) consoleResult {
	functions := map[string]func(c consoleCase) consoleResult{
		"ValidConsole": func(c consoleCase) consoleResult {
			return consoleResult{rest: fmt.Sprint(impl.ValidConsole(c.c))}
		},
		"SameConsole": func(c consoleCase) consoleResult {
			return consoleResult{rest: fmt.Sprint(impl.SameConsole(c.c, c.c), impl.SameConsole(c.c, c.other))}
		},
		"ReadLine": func(c consoleCase) consoleResult {
			console, line, ok := impl.ReadLine(c.c)
			return consoleResult{fileResult: fileResult{c: console, line: line, found: ok}}
		},
		"WriteLine": func(c consoleCase) consoleResult {
			return consoleResult{fileResult: changedFiles(impl.WriteLine(c.c, c.line))}
		},
		"TraceText": func(c consoleCase) consoleResult {
			return consoleResult{rest: impl.TraceText(c.n, c.statement, c.name, c.v)}
		},
		"AddTrace": func(c consoleCase) consoleResult {
			return consoleResult{fileResult: changedFiles(impl.AddTrace(c.c, c.n, c.statement, c.name, c.v))}
		},
	}
	for _, function := range fileFunctions {
		functions[function] = func(c consoleCase) consoleResult {
			return consoleResult{fileResult: fileCall{function, c.name, c.n, c.line}.callOn(c.c)}
		}
	}
	return functions
}

func equalConsoleResults(a, b consoleResult) bool {
	return equalFileResults(a.fileResult, b.fileResult) && a.rest == b.rest
}

// sharedConsole returns a console whose lists share memory with each other, also behind their ends.
func sharedConsole() impl.Console {
	lines := []string{"a", "b", "c", "d"}
	return impl.Console{Input: lines, At: 1, Output: lines[:2], Trace: lines[1:3], Files: []impl.File{
		{Name: "A", Lines: lines[:3], Mode: impl.FmRead, At: 2}, {Name: "B", Lines: lines[1:2]}, {Name: "a", Lines: lines[:1], Mode: impl.FmWrite}, {Name: "b_1", Lines: lines[:0], Mode: impl.FmAppend}, {Name: "c", Lines: lines, Mode: impl.FmRead, At: 4},
	}}
}

// consoleCases returns arguments, valid and invalid ones, and some that share memory with each other.
func consoleCases() []consoleCase {
	consoles := []impl.Console{exampleConsole(), sharedConsole(), fullConsole(), {}, {Files: []impl.File{{Name: "a", Lines: []string{}, Mode: 2}, {Name: "b_1", Lines: []string{}, Mode: 1}}, Input: []string{}}, {At: 1, Files: exampleConsole().Files}, sharedConsole()}
	consoles[5].Files[0].At = 3
	names := []string{"A", "B", "a", "b_1", "NEW", "ABCDEFGHIJKL", "c", "abcdefghijkl", "BA", "", "1", "B B"}
	lines := []string{"", "line", strings.Repeat("x", 200), strings.Repeat("x", 201), "\x00\xff"}
	values := valuesOf("", "x", 3, arrayRef(1), patternOf("rem"), nameOf("L"), impl.Value{})
	var cases []consoleCase
	for i, c := range consoles {
		for k, name := range names {
			for n := range int64(7) {
				j := i + k + int(n)
				cases = append(cases, consoleCase{c, consoles[j%7], name, lines[j%5], n, []int64{1, 7, 1000, 0, 1001}[j/2%5], values[j%7]})
			}
		}
	}
	return cases
}

func copyConsoleCase(c consoleCase) consoleCase {
	c.c, c.other = copyConsole(c.c), copyConsole(c.other)
	c.name, c.line, c.v.Text = strings.Clone(c.name), strings.Clone(c.line), strings.Clone(c.v.Text)
	return c
}

// roomyConsoleCase returns an equal case, each of whose lists has unused elements behind it.
func roomyConsoleCase(c consoleCase) consoleCase {
	c.c, c.other = roomyBuiltinCase(builtinCase{c: c.c}).c, roomyBuiltinCase(builtinCase{c: c.other}).c
	return c
}

// turnedConsoleCase returns an equal case with nil for each empty list, and an empty list for each nil.
func turnedConsoleCase(c consoleCase) consoleCase {
	c.c, c.other = turnedBuiltinCase(builtinCase{c: c.c}).c, turnedBuiltinCase(builtinCase{c: c.other}).c
	return c
}

func watchConsoleCase(w *watcher, c consoleCase) {
	w.watchConsole(c.c)
	w.watchConsole(c.other)
}

func (m patternMemory) addConsoleCase(c consoleCase) {
	m.addConsole(c.c)
	m.addConsole(c.other)
}

func (m patternMemory) addConsoleResult(r consoleResult) bool {
	return m.addConsole(r.c)
}

func overwriteConsoleResult(r consoleResult) {
	overwriteBuiltinResult(builtinResult{callResult: callResult{console: r.c}})
}

func TestConsoleFunctionsArePure(t *testing.T) {
	p := purity[consoleCase, consoleResult]{
		functions: consoleFunctions(), cases: consoleCases(), equal: equalConsoleResults,
		copied: copyConsoleCase, roomy: roomyConsoleCase, turned: turnedConsoleCase, watch: watchConsoleCase,
		addCase: patternMemory.addConsoleCase, addResult: patternMemory.addConsoleResult, overwrite: overwriteConsoleResult,
	}
	p.checkAll(t, map[string]int{"ReadLine": 50000, "WriteLine": 1000, "AddTrace": 500, "OpenFile": 1000, "ReadFile": 1000, "WriteFile": 1000, "RewindFile": 1000, "CloseFile": 5000, "DeleteFile": 1000})
}

// TestFailuresOfConsoleFunctions checks that nothing but the code is left of a call with an error, and no line of one that finds none.
func TestFailuresOfConsoleFunctions(t *testing.T) {
	codes := map[string]int{}
	for what, call := range consoleFunctions() {
		for i, c := range consoleCases() {
			r := call(c).fileResult
			codes[fmt.Sprint(what, r.code)]++
			if r.code != impl.OK {
				checkFiles(t, fmt.Sprintf("%s: case %d", what, i), r, fileFault(r.code))
			}
			if !r.found && r.line != "" {
				t.Errorf("%s: case %d: the line %q was not found", what, i, r.line)
			}
		}
	}
	for _, function := range fileFunctions {
		for _, code := range []int64{impl.OK, impl.ErrInvalid, impl.ErrNotFound, impl.ErrState} {
			if codes[fmt.Sprint(function, code)] < 5 {
				t.Errorf("%s returned the code %d only %d times", function, code, codes[fmt.Sprint(function, code)])
			}
		}
	}
}

// TestConsoleFunctionsWithVeryLargeArguments has lists and texts far beyond all limits, and the least and the greatest numbers.
func TestConsoleFunctionsWithVeryLargeArguments(t *testing.T) {
	long := strings.Repeat("x", 1000000)
	lines := slices.Repeat([]string{long}, 300000)
	file := impl.File{Name: long, Lines: lines, Mode: math.MinInt64, At: math.MaxInt64}
	files := slices.Repeat([]impl.File{{Name: long, Mode: math.MinInt64, At: math.MaxInt64}}, 100000)
	consoles := []impl.Console{{}, {Input: lines, Output: lines, Trace: lines, Files: files, At: math.MinInt64}, {Files: []impl.File{file, file}}, {Files: []impl.File{{Name: "F", Lines: lines}}}, {Trace: lines}, {Input: lines[:1], At: math.MaxInt64}, exampleConsole()}
	values := []impl.Value{stringOf(long), patternOf(long), {Kind: math.MaxInt64, Ref: math.MinInt64}, integerOf(math.MinInt64), stringOf("")}
	for what, call := range consoleFunctions() {
		for i, c := range consoles {
			for k, n := range []int64{math.MinInt64, -1, 0, 1, 2, 4, math.MaxInt64} {
				x := consoleCase{c, consoles[(i+k)%7], []string{"F", long, "A", ""}[(i+k)%4], []string{long, ""}[k%2], n, []int64{math.MinInt64, 1, math.MaxInt64}[k%3], values[(i+k)%5]}
				if !equalConsoleResults(call(x), call(x)) {
					t.Errorf("%s: another result for the console %d and the number %d", what, i, n)
				}
			}
		}
	}
}
