package tests

import (
	"fmt"
	"math/rand"
	"slices"
	"strings"
	"testing"

	"loop.example/g00873/impl"
)

// The tests of this file are for CallFile, and for CallBuiltin with the functions on files.

// checkFileFunction checks what CallFile returns, and what CallBuiltin returns for it with a heap.
func checkFileFunction(t *testing.T, c impl.Console, name string, args []impl.Value, want callResult) {
	t.Helper()
	checkCallWith(t, name, args, calledFile(impl.CallFile(c, name, args)), want)
	checkCallWith(t, "CallBuiltin: "+name, args, calledAny(impl.CallBuiltin(exampleHeap(), c, name, args)), asBuiltin(exampleHeap(), c, ofFiles, want))
}

// changes is the result of a function that succeeds with the null value.
func changes(c impl.Console) callResult {
	return callResult{console: c, v: stringOf(""), succeeds: true}
}

// delivers is the result of a function that succeeds with a line.
func delivers(c impl.Console, line string) callResult {
	return callResult{console: c, v: stringOf(line), succeeds: true}
}

// TestFunctionsOnFiles has each function for the files of the example: A is
// read, B is closed, a is written, and b_1 is appended to.
func TestFunctionsOnFiles(t *testing.T) {
	c := exampleConsole()
	with := func(f impl.File) impl.Console { return withFiles(c, changedFile(c, f)) }
	without := filesOf(c)
	delete(without, "B")
	absent, state, invalid, letter := faulted(impl.ErrNotFound), faulted(impl.ErrState), faulted(impl.ErrInvalid), faulted(impl.ErrRange)
	for _, row := range []struct {
		name string
		args []impl.Value
		want callResult
	}{
		{"OPEN", valuesOf("B", "R"), changes(with(fileIn("B", 1, 0, "closed")))}, {"OPEN", valuesOf("B", "W"), changes(with(fileIn("B", 2, 0)))}, {"OPEN", valuesOf("B", "A"), changes(with(fileIn("B", 3, 0, "closed")))},
		{"OPEN", valuesOf("C", "W"), changes(with(fileIn("C", 2, 0)))}, {"OPEN", valuesOf("C", "A"), changes(with(fileIn("C", 3, 0)))}, {"OPEN", valuesOf("C", "R"), absent},
		{"OPEN", valuesOf("A", "R"), state}, {"OPEN", valuesOf("A", "W"), state}, {"OPEN", valuesOf("A", "A"), state}, {"OPEN", valuesOf("a", "R"), state}, {"OPEN", valuesOf("a", "W"), state}, {"OPEN", valuesOf("a", "A"), state}, {"OPEN", valuesOf("b_1", "R"), state}, {"OPEN", valuesOf("b_1", "W"), state}, {"OPEN", valuesOf("b_1", "A"), state},
		{"OPEN", valuesOf("B"), letter}, {"OPEN", valuesOf("B", ""), letter}, {"OPEN", valuesOf("B", "r"), letter}, {"OPEN", valuesOf("B", "w"), letter}, {"OPEN", valuesOf("B", "a"), letter}, {"OPEN", valuesOf("B", "RW"), letter}, {"OPEN", valuesOf("B", "WA"), letter}, {"OPEN", valuesOf("B", "RWA"), letter}, {"OPEN", valuesOf("B", " R"), letter}, {"OPEN", valuesOf("B", "R "), letter}, {"OPEN", valuesOf("B", "X"), letter}, {"OPEN", valuesOf("B", 1), letter}, {"OPEN", valuesOf("B", "1"), letter}, {"OPEN", valuesOf("B", "\x00"), letter}, {"OPEN", valuesOf("B", strings.Repeat("R", 200)), letter},
		{"OPEN", nil, letter}, {"OPEN", valuesOf(""), letter}, {"OPEN", valuesOf("1", "X"), letter}, {"OPEN", valuesOf("C", "X"), letter}, {"OPEN", valuesOf("A", "X"), letter}, {"OPEN", valuesOf("", "R"), invalid}, {"OPEN", valuesOf("1", "W"), invalid}, {"OPEN", valuesOf(1, "A"), invalid}, {"OPEN", valuesOf("A B", "R"), invalid}, {"OPEN", valuesOf("abcdefghijklm", "W"), invalid},
		{"GET", valuesOf("A"), delivers(with(fileIn("A", 1, 2, "a", "b")), "b")}, {"GET", valuesOf("B"), state}, {"GET", valuesOf("a"), state}, {"GET", valuesOf("b_1"), state}, {"GET", valuesOf("C"), absent}, {"GET", valuesOf(""), invalid}, {"GET", nil, invalid}, {"GET", valuesOf(7), invalid},
		{"PUT", valuesOf("a", "x"), changes(with(fileIn("a", 2, 0, "", "", "", "x")))}, {"PUT", valuesOf("a", -7), changes(with(fileIn("a", 2, 0, "", "", "", "-7")))}, {"PUT", valuesOf("a"), changes(with(fileIn("a", 2, 0, "", "", "", "")))}, {"PUT", valuesOf("a", ""), changes(with(fileIn("a", 2, 0, "", "", "", "")))}, {"PUT", valuesOf("b_1", strings.Repeat("x", 200)), changes(with(fileIn("b_1", 3, 0, strings.Repeat("x", 200))))}, {"PUT", valuesOf("b_1", "\x00\n"), changes(with(fileIn("b_1", 3, 0, "\x00\n")))},
		{"PUT", valuesOf("A", "x"), state}, {"PUT", valuesOf("B", "x"), state}, {"PUT", valuesOf("C", "x"), absent}, {"PUT", valuesOf("", "x"), invalid}, {"PUT", nil, invalid}, {"PUT", valuesOf("x y", ""), invalid},
		{"CLOSE", valuesOf("A"), changes(with(fileIn("A", 0, 0, "a", "b")))}, {"CLOSE", valuesOf("a"), changes(with(fileIn("a", 0, 0, "", "", "")))}, {"CLOSE", valuesOf("b_1"), changes(with(fileIn("b_1", 0, 0)))}, {"CLOSE", valuesOf("B"), state}, {"CLOSE", valuesOf("C"), absent}, {"CLOSE", nil, invalid}, {"CLOSE", valuesOf("1"), invalid},
		{"REWIND", valuesOf("A"), changes(with(fileIn("A", 1, 0, "a", "b")))}, {"REWIND", valuesOf("B"), state}, {"REWIND", valuesOf("a"), state}, {"REWIND", valuesOf("b_1"), state}, {"REWIND", valuesOf("C"), absent}, {"REWIND", nil, invalid}, {"REWIND", valuesOf("A "), invalid},
		{"ERASE", valuesOf("B"), changes(withFiles(c, without))}, {"ERASE", valuesOf("A"), state}, {"ERASE", valuesOf("a"), state}, {"ERASE", valuesOf("b_1"), state}, {"ERASE", valuesOf("C"), absent}, {"ERASE", nil, invalid}, {"ERASE", valuesOf(0), invalid},
	} {
		checkFileFunction(t, c, row.name, row.args, row.want)
	}
}

// TestGetAtTheEnd reads files up to their ends and beyond.
func TestGetAtTheEnd(t *testing.T) {
	c := consoleWith(fileIn("F", 1, 0, "x", "", "7"))
	for at, line := range []string{"x", "", "7"} {
		next := consoleWith(fileIn("F", 1, int64(at+1), "x", "", "7"))
		checkFileFunction(t, c, "GET", valuesOf("F"), delivers(next, line))
		c = next
	}
	checkFileFunction(t, c, "GET", valuesOf("F"), callResult{console: c})
	checkFileFunction(t, c, "GET", valuesOf("F", ""), faulted(impl.ErrRange))
	empty := consoleAround(fileIn("F", 1, 0))
	checkFileFunction(t, empty, "GET", valuesOf("F"), callResult{console: empty})
	checkFileFunction(t, c, "REWIND", valuesOf("F"), changes(consoleWith(fileIn("F", 1, 0, "x", "", "7"))))
}

// TestFileFunctionsAtLimits has as many files and lines as possible.
func TestFileFunctionsAtLimits(t *testing.T) {
	full := slices.Repeat([]string{"x"}, 40)
	five := []impl.File{fileIn("A", 2, 0, full...), fileIn("B", 3, 0, full...), fileIn("C", 2, 0, full[1:]...), fileIn("D", 0, 0), fileIn("E", 0, 0)}
	c := impl.Console{Files: append(slices.Clone(five), fileIn("G", 0, 0))}
	for _, letter := range []string{"W", "A"} {
		for _, name := range []string{"F", "H", "a"} {
			checkFileFunction(t, c, "OPEN", valuesOf(name, letter), faulted(impl.ErrFull))
		}
		made := impl.Console{Files: append(slices.Clone(five), fileIn("F", int64(strings.Index("WA", letter)+2), 0))}
		checkFileFunction(t, impl.Console{Files: five}, "OPEN", valuesOf("F", letter), changes(made))
	}
	checkFileFunction(t, c, "OPEN", valuesOf("F", "R"), faulted(impl.ErrNotFound))
	for _, name := range []string{"A", "B"} {
		checkFileFunction(t, c, "PUT", valuesOf(name, "y"), faulted(impl.ErrFull))
	}
	want := withFiles(c, changedFile(c, fileIn("C", 2, 0, append(slices.Clone(full[1:]), "y")...)))
	checkFileFunction(t, c, "PUT", valuesOf("C", "y"), changes(want))
	checkFileFunction(t, want, "PUT", valuesOf("C", "y"), faulted(impl.ErrFull))
}

// TestFileFunctionsInOrder has several errors at once.
func TestFileFunctionsInOrder(t *testing.T) {
	c := exampleConsole()
	invalid := impl.Console{At: 1}
	for _, name := range append(sortedBuiltins(ofFiles), "NONE", "SIZE", "open", "") {
		row, isFunction := builtinRows[name]
		isFunction = isFunction && row.table == ofFiles
		count := len(row.params)
		for _, bad := range invalidValues() {
			for _, args := range [][]impl.Value{{bad}, {arrayRef(1), bad}, {stringOf("B"), stringOf("X"), bad}} {
				checkCallWith(t, name, args, calledFile(impl.CallFile(c, name, args)), faulted(impl.ErrInvalid))
			}
		}
		for _, args := range [][]impl.Value{nil, valuesOf("B"), valuesOf(arrayRef(1), arrayRef(1), arrayRef(1))} {
			checkCallWith(t, name, args, calledFile(impl.CallFile(invalid, name, args)), faulted(impl.ErrInvalid))
			if !isFunction {
				checkCallWith(t, name, args, calledFile(impl.CallFile(c, name, args)), faulted(impl.ErrUndefined))
			}
		}
		if !isFunction {
			continue
		}
		for _, v := range valuesOf(patternOf("rem"), patternOf("none"), arrayRef(1), tableRef(2), recordRef(4), nameOf("B"), deferOf("B")) {
			many := slices.Repeat([]impl.Value{v}, count+1)
			checkFileFunction(t, c, name, many, faulted(impl.ErrRange))
			for at := range count {
				args := append(valuesOf("1 2", "X", "")[:at:at], v)
				checkFileFunction(t, c, name, args, faulted(impl.ErrType))
				checkFileFunction(t, c, name, append(args, slices.Repeat([]impl.Value{v}, count-at-1)...), faulted(impl.ErrType))
			}
		}
	}
	// A heap is only looked at by CallBuiltin.
	for _, v := range strayReferences() {
		checkCall(t, "CallFile with a stray reference", calledFile(impl.CallFile(c, "GET", valuesOf(v))), faulted(impl.ErrType))
		checkCall(t, "CallBuiltin with a stray reference", calledAny(impl.CallBuiltin(exampleHeap(), c, "GET", valuesOf(v))), faulted(impl.ErrInvalid))
	}
}

// fileArguments are values that are names, modes and lines, or none of them.
func fileArguments() []impl.Value {
	full := strings.Repeat("x", 200)
	return valuesOf(
		"", "A", "B", "F", "a", "b_1", "R", "W", "A0", "NEW", "r", "RW", "1", "A B", "abcdefghijkl", "abcdefghijklm", "\xff", full, full+"x",
		0, 1, 2, 3, -1, 1000000000000, 1000000000001, patternOf("rem"), patternOf("x"), arrayRef(1), tableRef(2), recordRef(4), arrayRef(8), arrayRef(77), nameOf("B"), deferOf("B"), impl.Value{}, impl.Value{Kind: impl.VkString, Text: "B", Num: 1},
	)
}

// TestFileFunctionsAgainstModel calls each function with all lists of up to two values, and some that are longer, for all valid consoles.
func TestFileFunctionsAgainstModel(t *testing.T) {
	t.Parallel()
	values := fileArguments()
	lists := [][]impl.Value{nil}
	for i, v := range values {
		lists = append(lists, valuesOf(v), valuesOf("B", "W", v), valuesOf(v, "x", v, "A"))
		for k, w := range values {
			if i < 12 || (i+k)%5 == 0 {
				lists = append(lists, valuesOf(v, w))
			}
		}
	}
	h := exampleHeap()
	outcomes := map[string]int{}
	for _, c := range validConsoles() {
		for _, name := range append(sortedBuiltins(ofFiles), "NONE", "SIZE") {
			for i, args := range lists {
				want := modelCall(ofFiles, h, c.c, name, args)
				checkCallWith(t, c.what+": "+name, args, calledFile(impl.CallFile(c.c, name, args)), want)
				outcomes[fmt.Sprint(name, want.code, want.succeeds)]++
				if i%4 == 0 {
					checkCallWith(t, c.what+": CallBuiltin: "+name, args, calledAny(impl.CallBuiltin(h, c.c, name, args)), modelBuiltin(h, c.c, name, args))
				}
			}
		}
	}
	if len(outcomes) < 38 {
		t.Errorf("only %d different outcomes: %v", len(outcomes), outcomes)
	}
}

// letters are the mode texts of OPEN.
var letters = []string{"", "R", "W", "A"}

// asArguments returns the built-in function that does what a call does, with its arguments.
func (x fileCall) asArguments() (string, []impl.Value) {
	switch x.function {
	case "OpenFile":
		return "OPEN", valuesOf(x.name, letters[x.mode])
	case "WriteFile":
		return "PUT", valuesOf(x.name, x.line)
	}
	return map[string]string{"ReadFile": "GET", "RewindFile": "REWIND", "CloseFile": "CLOSE", "DeleteFile": "ERASE"}[x.function], valuesOf(x.name)
}

// TestFunctionsDoWhatTheirTableSays compares the functions with those of chapter 21 in series of calls.
func TestFunctionsDoWhatTheirTableSays(t *testing.T) {
	t.Parallel()
	for i, start := range validConsoles() {
		s := fileSource{rand.New(rand.NewSource(int64(331 + i)))}
		c := start.c
		for range 300 {
			x := s.call(c)
			name, args := x.asArguments()
			r := x.callOn(c)
			want := faulted(r.code)
			switch {
			case r.code == impl.OK && x.function != "ReadFile":
				want = changes(r.c)
			case r.code == impl.OK && r.found:
				want = delivers(r.c, r.line)
			case r.code == impl.OK:
				want = callResult{console: r.c}
			}
			checkFileFunction(t, c, name, args, want)
			if r.code == impl.OK {
				c = r.c
			}
		}
	}
}
