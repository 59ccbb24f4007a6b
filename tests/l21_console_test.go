package tests

import (
	"fmt"
	"math"
	"slices"
	"strings"
	"testing"

	"loop.example/g00873/impl"
)

// The tests of this file are for consoles as a whole, their lines of input and output, and traces (chapter 21).

func TestConsoleConstants(t *testing.T) {
	checkList(t, "limits", []int64{impl.MaxInput, impl.MaxOutput, impl.MaxTrace, impl.MaxFiles, impl.MaxFileLines, impl.MaxTraceText}, []int64{100, 100, 200, 6, 40, 1300})
	checkList(t, "modes", []int64{impl.FmClosed, impl.FmRead, impl.FmWrite, impl.FmAppend}, []int64{0, 1, 2, 3})
	checkList(t, "kinds of trace lines", []int64{impl.TrAssign, impl.TrCall, impl.TrReturn, impl.TrFail, impl.TrGoto}, []int64{1, 2, 3, 4, 5})
}

// checkConsole compares the console that a function returns, with all other results.
func checkConsole(t *testing.T, what string, got, want impl.Console, results ...any) {
	t.Helper()
	if !equalConsoles(got, want) {
		t.Errorf("%.200s: got %.1000q, want %.1000q", what, fmt.Sprint(got), fmt.Sprint(want))
	}
	for i := 0; i < len(results); i += 2 {
		if fmt.Sprint(results[i]) != fmt.Sprint(results[i+1]) {
			t.Errorf("%.200s: got %.200q, want %.200q", what, fmt.Sprint(results[i]), fmt.Sprint(results[i+1]))
		}
	}
}

func TestValidConsole(t *testing.T) {
	for _, c := range validConsoles() {
		checkEqual(t, c.what, impl.ValidConsole(c.c) && modelConsole(c.c), true)
	}
	for _, c := range invalidConsoles() {
		checkEqual(t, c.what, impl.ValidConsole(c.c), false)
		console, line, ok := impl.ReadLine(c.c)
		checkConsole(t, c.what+": ReadLine", console, impl.Console{}, line, "", ok, false)
		for _, s := range []string{"", "x", strings.Repeat("x", 201)} {
			console, code := impl.WriteLine(c.c, s)
			checkConsole(t, c.what+": WriteLine", console, impl.Console{}, code, impl.ErrInvalid)
		}
		for _, kind := range []int64{impl.TrCall, 0} {
			console, code := impl.AddTrace(c.c, kind, 1, "F", stringOf(""))
			checkConsole(t, c.what+": AddTrace", console, impl.Console{}, code, impl.ErrInvalid)
		}
	}
}

func TestSameConsole(t *testing.T) {
	file := impl.File{Name: "F", Lines: []string{"a"}}
	list := []impl.Console{
		{}, {Input: []string{""}}, {Input: []string{"a"}}, {Input: []string{"a", "b"}}, {Input: []string{"a"}, At: 1}, {At: 1}, {At: -1}, {Output: []string{"a"}}, {Output: []string{"b"}}, {Trace: []string{"a"}}, {Trace: []string{"b"}}, {Trace: []string{"b", "b"}},
		consoleWith(file), consoleWith(impl.File{}), {Files: []impl.File{file, file}}, consoleWith(impl.File{Name: "G", Lines: []string{"a"}}), consoleWith(impl.File{Name: "F", Lines: []string{"b"}}), consoleWith(impl.File{Name: "F", Lines: []string{"a", "b"}}), consoleWith(impl.File{Name: "F", Lines: []string{"a"}, Mode: 1}), consoleWith(impl.File{Name: "F", Lines: []string{"a"}, At: 1}),
		exampleConsole(), fullConsole(),
	}
	for i, a := range list {
		for k, b := range list {
			checkEqual(t, fmt.Sprintf("the consoles %d and %d", i, k), impl.SameConsole(a, copyConsole(b)), i == k)
		}
	}
	for _, c := range invalidConsoles() {
		checkEqual(t, c.what, impl.SameConsole(c.c, copyConsole(c.c)), true)
	}
	empty := impl.Console{Input: []string{}, Output: []string{}, Files: []impl.File{}, Trace: []string{}}
	checkEqual(t, "nil and empty lists", impl.SameConsole(empty, impl.Console{}), true)
	checkEqual(t, "files without lines", impl.SameConsole(consoleWith(impl.File{Lines: []string{}}), consoleWith(impl.File{})), true)
}

func TestReadLine(t *testing.T) {
	for _, c := range validConsoles() {
		console := copyConsole(c.c)
		for _, line := range c.c.Input[c.c.At:] {
			want := copyConsole(console)
			want.At++
			next, got, ok := impl.ReadLine(console)
			checkConsole(t, c.what, next, want, got, line, ok, true)
			console = next
		}
		next, line, ok := impl.ReadLine(console)
		checkConsole(t, c.what+": no line", next, console, line, "", ok, false)
	}
}

func TestWriteLine(t *testing.T) {
	long := strings.Repeat("x", 200)
	for _, c := range validConsoles() {
		for _, s := range []string{"", "x", "\x00\xff\n", long} {
			next, code := impl.WriteLine(c.c, s)
			if len(c.c.Output) == 100 {
				checkConsole(t, c.what+": full", next, impl.Console{}, code, impl.ErrFull)
				continue
			}
			want := copyConsole(c.c)
			want.Output = append(want.Output, s)
			checkConsole(t, c.what, next, want, code, impl.OK)
		}
		next, code := impl.WriteLine(c.c, long+"x")
		checkConsole(t, c.what+": no line", next, impl.Console{}, code, impl.ErrInvalid)
	}
	var console impl.Console
	for i := range 101 {
		next, code := impl.WriteLine(console, fmt.Sprint(i))
		if i == 100 {
			checkConsole(t, "a line more", next, impl.Console{}, code, impl.ErrFull)
			break
		}
		console = next
	}
	checkEqual(t, "lines in order", len(console.Output) == 100 && console.Output[0] == "0" && console.Output[99] == "99", true)
}

func TestTraceText(t *testing.T) {
	quotes := stringOf(strings.Repeat(`"`, 200))
	for _, c := range []struct {
		kind, statement int64
		name            string
		v               impl.Value
		want            string
	}{
		{impl.TrAssign, 3, "X", stringOf("a"), `3: X = "a"`}, {impl.TrCall, 1, "F", stringOf(""), "1: call F"}, {impl.TrReturn, 1000, "F", integerOf(-5), "1000: return F = -5"}, {impl.TrFail, 20, "abcdefghijkl", arrayRef(7), "20: fail abcdefghijkl"}, {impl.TrGoto, 80, "L", nameOf("X"), "80: goto L"},
		{impl.TrAssign, 1, "X", stringOf(`a"b`), `1: X = "a""b"`}, {impl.TrReturn, 1, "X", recordRef(4), "1: return X = record#4"}, {impl.TrAssign, 1, "X", quotes, `1: X = "` + strings.Repeat(`"`, 400) + `"`}, {impl.TrReturn, 2, "X", patternOf("rem"), "2: return X = <rem>"}, {impl.TrAssign, 2, "X", deferOf("Y"), "2: X = *Y"},
		{impl.TrReturn, 1000, "ABCDEFGHIJKL", patternOf(strings.Repeat("x", 1200)), "1000: return ABCDEFGHIJKL = <" + strings.Repeat("x", 1200) + ">"},
	} {
		checkEqual(t, c.want, impl.TraceText(c.kind, c.statement, c.name, c.v), c.want)
		console, code := impl.AddTrace(exampleConsole(), c.kind, c.statement, c.name, c.v)
		want := exampleConsole()
		want.Trace = append(want.Trace, c.want)
		checkConsole(t, c.want, console, want, code, impl.OK)
	}
	for _, kind := range []int64{math.MinInt64, -1, 0, 1, 2, 3, 4, 5, 6, 257, 1<<32 + 1, math.MaxInt64} {
		for _, statement := range []int64{math.MinInt64, -1, 0, 1, 1000, 1001, 1<<32 + 1, math.MaxInt64} {
			for _, name := range append(noNames(), "F") {
				for _, v := range append(invalidValues(), stringOf("x")) {
					isText := kind >= 1 && kind <= 5 && (statement == 1 || statement == 1000) && name == "F" && v == stringOf("x")
					if got := impl.TraceText(kind, statement, name, v); (got != "") != isText {
						t.Errorf("%d, %d, %.20q, %.40q: %q", kind, statement, name, fmt.Sprint(v), got)
					}
					if isText {
						continue
					}
					console, code := impl.AddTrace(impl.Console{}, kind, statement, name, v)
					checkConsole(t, "no trace line", console, impl.Console{}, code, impl.ErrInvalid)
				}
			}
		}
	}
}

func TestAddTrace(t *testing.T) {
	var console impl.Console
	for i := range 200 {
		next, code := impl.AddTrace(console, impl.TrGoto, int64(i+1), "L", stringOf(""))
		checkEqual(t, "a line", code, impl.OK)
		console = next
	}
	checkEqual(t, "lines in order", len(console.Trace) == 200 && console.Trace[0] == "1: goto L" && console.Trace[199] == "200: goto L", true)
	next, code := impl.AddTrace(console, impl.TrGoto, 1, "L", stringOf(""))
	checkConsole(t, "a line more", next, impl.Console{}, code, impl.ErrFull)
	next, code = impl.AddTrace(console, 0, 1, "L", stringOf(""))
	checkConsole(t, "no line more", next, impl.Console{}, code, impl.ErrInvalid)
	for _, c := range validConsoles() {
		next, code := impl.AddTrace(c.c, impl.TrReturn, 9, "F", integerOf(3))
		if len(c.c.Trace) == 200 {
			checkConsole(t, c.what+": full", next, impl.Console{}, code, impl.ErrFull)
			continue
		}
		want := copyConsole(c.c)
		want.Trace = append(slices.Clone(want.Trace), "9: return F = 3")
		checkConsole(t, c.what, next, want, code, impl.OK)
	}
}
