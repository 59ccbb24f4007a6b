package tests

import (
	"fmt"
	"math/rand"
	"slices"
	"strings"
	"testing"

	"loop.example/g00873/impl"
)

// The tests of this file are promise 29. They compare what is read with what
// was written, without a model of consoles.

// fileWays are the ways in which a call can be made in the console of a memory.
func fileWays(t *testing.T) map[string]func(m impl.Memory, x fileCall) fileResult {
	console := func(m impl.Memory, v impl.Value, succeeds bool, code int64) fileResult {
		return fileResult{m.Console, v.Text, succeeds, code}
	}
	return map[string]func(m impl.Memory, x fileCall) fileResult{
		"the function": func(m impl.Memory, x fileCall) fileResult { return x.callOn(m.Console) },
		"CallFile": func(m impl.Memory, x fileCall) fileResult {
			name, args := x.asArguments()
			c, v, succeeds, code := impl.CallFile(m.Console, name, args)
			return fileResult{c, v.Text, succeeds, code}
		},
		"CallBuiltin": func(m impl.Memory, x fileCall) fileResult {
			name, args := x.asArguments()
			_, c, v, succeeds, code := impl.CallBuiltin(m.Heap, m.Console, name, args)
			return fileResult{c, v.Text, succeeds, code}
		},
		"ApplyNamed": func(m impl.Memory, x fileCall) fileResult {
			name, args := x.asArguments()
			return console(impl.ApplyNamed(m, name, args))
		},
		"Evaluate": func(m impl.Memory, x fileCall) fileResult { return console(impl.Evaluate(x.expression(m))) },
		"EvaluateIn": func(m impl.Memory, x fileCall) fileResult {
			m, e := x.expression(m)
			after, v, succeeds, _, code := impl.EvaluateIn(impl.Program{}, m, e, 0)
			return fileResult{after.Console, v.Text, succeeds, code}
		},
		"RunProgram": func(m impl.Memory, x fileCall) fileResult {
			m, e := x.expression(m)
			y := impl.RunProgram(program(withReplace(subject(variable("LINE")), e)), m, 10)
			_, v, _, _ := impl.ReadVariable(y.Memory, "LINE")
			if v == integerOf(7) {
				v = impl.Value{}
			}
			return fileResult{y.Memory.Console, v.Text, v.Kind == impl.VkString, y.Code}
		},
	}
}

// expression returns the call of the built-in function that does what a call
// does. Its arguments are variables of the memory, so that there can be any lines.
func (x fileCall) expression(m impl.Memory) (impl.Memory, impl.Expr) {
	name, args := x.asArguments()
	var operands []impl.Expr
	for i, v := range args {
		m.Scope = modelAssign(m.Scope, binding(fmt.Sprint("ARG", i), v)).s
		operands = append(operands, variable(fmt.Sprint("ARG", i)))
	}
	return m, call(name, operands...)
}

// fileRun has a console with files, in which all calls are made in one way.
type fileRun struct {
	*rand.Rand
	t    *testing.T
	call func(m impl.Memory, x fileCall) fileResult
	m    impl.Memory
}

// do makes a call without an error.
func (r *fileRun) do(function, name string, mode int64, line string) fileResult {
	r.t.Helper()
	got := r.call(r.m, fileCall{function, name, mode, line})
	if got.code != impl.OK || !impl.ValidConsole(got.c) {
		r.t.Fatalf("%s of %s, mode %d: code %d, %.500q", function, name, mode, got.code, fmt.Sprint(got.c))
	}
	r.m.Console = got.c
	return got
}

// lineFor returns a line, the same one again in some cases.
func (r *fileRun) lineFor(i int) string {
	return []string{"", "same", fmt.Sprint("line ", i), "\x00\xff", strings.Repeat("x", r.Intn(201)), fmt.Sprint(-i)}[r.Intn(6)]
}

// write writes lines to several files in turn, and closes and opens some of
// them in between. It returns the lines of each file.
func (r *fileRun) write(names []string) map[string][]string {
	r.t.Helper()
	written := map[string][]string{}
	for _, name := range names {
		r.do("OpenFile", name, 2+r.Int63n(2), "")
	}
	for i := range 60 {
		name := names[r.Intn(len(names))]
		if len(written[name]) == 40 {
			continue
		}
		line := r.lineFor(i)
		if r.Intn(8) == 0 {
			r.do("CloseFile", name, 0, "")
			if r.Intn(6) == 0 {
				r.do("OpenFile", name, impl.FmWrite, "")
				written[name] = nil
			} else {
				r.do("OpenFile", name, impl.FmAppend, "")
			}
		}
		r.do("WriteFile", name, 0, line)
		written[name] = append(written[name], line)
	}
	return written
}

// linesOf returns what is written in the console.
func (r *fileRun) linesOf() string {
	c := r.m.Console
	text := fmt.Sprintf("%q %q %q", c.Input, c.Output, c.Trace)
	for _, f := range c.Files {
		text += fmt.Sprintf(" %s%q", f.Name, f.Lines)
	}
	return text
}

// read reads the files in turn, each of them up to its end and beyond, and some of them again.
func (r *fileRun) read(names []string, written map[string][]string) int {
	r.t.Helper()
	rest := map[string][]string{}
	for _, name := range names {
		r.do("CloseFile", name, 0, "")
		r.do("OpenFile", name, impl.FmRead, "")
		rest[name] = written[name]
	}
	before, count := r.linesOf(), 0
	for range 120 {
		name := names[r.Intn(len(names))]
		switch r.Intn(25) {
		case 0:
			r.do("RewindFile", name, 0, "")
			rest[name] = written[name]
		case 1:
			r.do("CloseFile", name, 0, "")
			r.do("OpenFile", name, impl.FmRead, "")
			rest[name] = written[name]
		}
		got := r.do("ReadFile", name, 0, "")
		if len(rest[name]) == 0 {
			checkEqual(r.t, "no line at the end of "+name, got.found || got.line != "", false)
		} else {
			checkEqual(r.t, "a line of "+name, got.found, true)
			checkEqual(r.t, "a line of "+name, got.line, rest[name][0])
			rest[name] = rest[name][1:]
			count++
		}
		checkEqual(r.t, "all lines after reading "+name, r.linesOf(), before)
	}
	return count
}

// TestLinesAreReadInOrder is promise 29 for files, with each way of making calls.
func TestLinesAreReadInOrder(t *testing.T) {
	t.Parallel()
	for way, call := range fileWays(t) {
		total := 0
		for i := range 12 {
			r := fileRun{Rand: rand.New(rand.NewSource(int64(311 + i))), t: t, call: call}
			r.m = impl.Memory{Heap: exampleHeap(), Console: impl.Console{Input: []string{"a", "b"}, Output: []string{"o"}, Trace: []string{"t"}}}
			r.m.Scope = varsOf(binding("LINE", integerOf(7)))
			names := [][]string{{"F"}, {"B", "A"}, {"C", "b", "a", "A1"}, {"F", "E", "D", "C", "B", "A"}}[i%4]
			written := r.write(names)
			total += r.read(names, written)
			for _, name := range names {
				checkList(t, "the lines of "+name, filesOf(r.m.Console)[name].Lines, written[name])
			}
		}
		if total < 500 {
			t.Errorf("%s: only %d lines were read", way, total)
		}
	}
}

// TestInputIsReadInOrder is promise 29 for the lines of input and output.
func TestInputIsReadInOrder(t *testing.T) {
	r := rand.New(rand.NewSource(312))
	for _, count := range []int{0, 1, 2, 50, 99, 100} {
		var lines, read []string
		for i := range count {
			lines = append(lines, []string{fmt.Sprint(i), "", strings.Repeat("x", r.Intn(201))}[r.Intn(3)])
		}
		c := impl.Console{Input: slices.Clone(lines)}
		for range count + 1 {
			next, line, ok := impl.ReadLine(c)
			checkList(t, "input that was read", next.Input, lines)
			checkList(t, "the place", []int64{next.At, int64(len(next.Output))}, []int64{c.At + map[bool]int64{true: 1}[ok], int64(len(read))})
			c = next
			if !ok {
				break
			}
			read = append(read, line)
			written, code := impl.WriteLine(c, line)
			checkEqual(t, "a line of output", code, impl.OK)
			c = written
		}
		checkList(t, "lines that were read", read, lines)
		checkList(t, "lines that were written", c.Output, lines)
		next, line, ok := impl.ReadLine(c)
		checkConsole(t, "at the end", next, c, line, "", ok, false)
	}
}

// TestProgramsReadWhatTheyWrite is promise 29 for programs that write their input to a file and read it.
func TestProgramsReadWhatTheyWrite(t *testing.T) {
	copying := " OPEN('F','W')\nL LINE = INPUT :F(M)\n PUT('F',LINE) :(L)\nM CLOSE('F'); OPEN('F','R')\nN OUTPUT = GET('F') :S(N)\n REWIND('F')\nO OUTPUT = GET('F') :S(O)\nEND\n"
	parting := " OPEN('ODD','W'); OPEN('EVEN','W')\nL PUT('ODD',INPUT) :F(M)\n PUT('EVEN',INPUT) :S(L)\nM CLOSE('ODD'); OPEN('ODD','R'); CLOSE('EVEN'); OPEN('EVEN','R')\nN OUTPUT = GET('ODD') :S(N)\nO OUTPUT = GET('EVEN') :S(O)\nEND\n"
	r := rand.New(rand.NewSource(313))
	for count := range 41 {
		var input, odd, even []string
		for i := range count {
			line := []string{fmt.Sprint(i), "", "'\"", "x y"}[r.Intn(4)]
			input = append(input, line)
			if i%2 == 0 {
				odd = append(odd, line)
			} else {
				even = append(even, line)
			}
		}
		output, code := impl.OutputOf(copying, input, impl.MaxSteps)
		checkEqual(t, fmt.Sprint(count, " lines: code"), code, impl.OK)
		checkList(t, fmt.Sprint(count, " lines"), output, slices.Concat(input, input))
		output, code = impl.OutputOf(parting, input, impl.MaxSteps)
		checkEqual(t, fmt.Sprint(count, " lines in two files: code"), code, impl.OK)
		checkList(t, fmt.Sprint(count, " lines in two files"), output, slices.Concat(odd, even))
	}
}
