package tests

import (
	"fmt"
	"maps"
	"slices"
	"testing"

	"loop.example/g00873/impl"
)

// fileCall is a call of one of the functions on files of chapter 21. Only
// OpenFile has a mode, and only WriteFile a line.
type fileCall struct {
	function, name string
	mode           int64
	line           string
}

// fileResult is what such a function returns: each of them returns some of this.
type fileResult struct {
	c     impl.Console
	line  string
	found bool
	code  int64
}

// changedFiles and readFile take the results of the functions.
func changedFiles(c impl.Console, code int64) fileResult {
	return fileResult{c: c, code: code}
}

func readFile(c impl.Console, line string, found bool, code int64) fileResult {
	return fileResult{c, line, found, code}
}

// fileFault is the result of a function that returns an error.
func fileFault(code int64) fileResult {
	return fileResult{code: code}
}

// fileFunctions are the functions, in an order that does not change.
var fileFunctions = []string{"OpenFile", "ReadFile", "WriteFile", "RewindFile", "CloseFile", "DeleteFile"}

// callOn calls the function for a console.
func (x fileCall) callOn(c impl.Console) fileResult {
	switch x.function {
	case "OpenFile":
		return changedFiles(impl.OpenFile(c, x.name, x.mode))
	case "ReadFile":
		return readFile(impl.ReadFile(c, x.name))
	case "WriteFile":
		return changedFiles(impl.WriteFile(c, x.name, x.line))
	case "RewindFile":
		return changedFiles(impl.RewindFile(c, x.name))
	case "CloseFile":
		return changedFiles(impl.CloseFile(c, x.name))
	}
	return changedFiles(impl.DeleteFile(c, x.name))
}

// fileCodes has the code of each function for a file that does not exist, for
// one that is closed, and for one that is open with FmRead, FmWrite and FmAppend.
var fileCodes = map[string][5]int64{
	"OpenFile 1": {impl.ErrNotFound, impl.OK, impl.ErrState, impl.ErrState, impl.ErrState},
	"OpenFile 2": {impl.OK, impl.OK, impl.ErrState, impl.ErrState, impl.ErrState},
	"OpenFile 3": {impl.OK, impl.OK, impl.ErrState, impl.ErrState, impl.ErrState},
	"ReadFile":   {impl.ErrNotFound, impl.ErrState, impl.OK, impl.ErrState, impl.ErrState},
	"WriteFile":  {impl.ErrNotFound, impl.ErrState, impl.ErrState, impl.OK, impl.OK},
	"RewindFile": {impl.ErrNotFound, impl.ErrState, impl.OK, impl.ErrState, impl.ErrState},
	"CloseFile":  {impl.ErrNotFound, impl.ErrState, impl.OK, impl.OK, impl.OK},
	"DeleteFile": {impl.ErrNotFound, impl.OK, impl.ErrState, impl.ErrState, impl.ErrState},
}

// code returns the code of the function, for a file of a valid console.
func (x fileCall) code(files map[string]impl.File) int64 {
	row := x.function
	if row == "OpenFile" {
		row += fmt.Sprint(" ", x.mode)
	}
	codes, isRow := fileCodes[row]
	f, exists := files[x.name]
	state := 0
	if exists {
		state = 1 + int(f.Mode)
	}
	isFull := row == "WriteFile" && len(f.Lines) == 40 || x.function == "OpenFile" && !exists && len(files) == 6
	switch {
	case !isRow:
		return impl.ErrRange
	case codes[state] == impl.OK && isFull:
		return impl.ErrFull
	}
	return codes[state]
}

// filesOf returns the files of a console by their names, and withFiles a console with such files in order.
func filesOf(c impl.Console) map[string]impl.File {
	files := map[string]impl.File{}
	for _, f := range copyConsole(c).Files {
		files[f.Name] = f
	}
	return files
}

func withFiles(c impl.Console, files map[string]impl.File) impl.Console {
	c.Files = nil
	for _, name := range slices.Sorted(maps.Keys(files)) {
		c.Files = append(c.Files, files[name])
	}
	return c
}

// modelFileCall returns what the function returns.
func modelFileCall(c impl.Console, x fileCall) fileResult {
	if !modelConsole(c) || !nameSyntax.MatchString(x.name) || x.function == "WriteFile" && len(x.line) > 200 {
		return fileFault(impl.ErrInvalid)
	}
	files := filesOf(c)
	if code := x.code(files); code != impl.OK {
		return fileFault(code)
	}
	var r fileResult
	f := files[x.name]
	lines, at, mode := f.Lines, f.At, f.Mode
	switch x.function {
	case "OpenFile":
		at, mode = 0, x.mode
		if mode == 2 {
			lines = nil
		}
	case "ReadFile":
		for _, line := range lines[at:min(int(at)+1, len(lines))] {
			r.line, r.found = line, true
			at++
		}
	case "WriteFile":
		lines = append(lines, x.line)
	case "RewindFile":
		at = 0
	case "CloseFile":
		at, mode = 0, 0
	}
	files[x.name] = impl.File{Name: x.name, Lines: lines, Mode: mode, At: at}
	if x.function == "DeleteFile" {
		delete(files, x.name)
	}
	r.c = withFiles(c, files)
	return r
}

func equalFileResults(a, b fileResult) bool {
	return equalConsoles(a.c, b.c) && a.line == b.line && a.found == b.found && a.code == b.code
}

func checkFiles(t *testing.T, what string, got, want fileResult) {
	t.Helper()
	if !equalFileResults(got, want) {
		t.Errorf("%.300s: got %.1000q, want %.1000q", what, fmt.Sprint(got), fmt.Sprint(want))
	}
}

// checkFileCall compares a call with the model, and returns its result.
func checkFileCall(t *testing.T, what string, c impl.Console, x fileCall) fileResult {
	t.Helper()
	got, want := x.callOn(c), modelFileCall(c, x)
	if !equalFileResults(got, want) {
		checkFiles(t, fmt.Sprintf("%s: %s of %.20q, mode %d, a line of %d bytes", what, x.function, x.name, x.mode, len(x.line)), got, want)
	}
	return got
}

// modelFileFunction returns what CallFile returns for arguments that have been converted.
func modelFileFunction(name string, c impl.Console, a modelArgs) callResult {
	x := fileCall{
		function: map[string]string{"OPEN": "OpenFile", "GET": "ReadFile", "PUT": "WriteFile", "CLOSE": "CloseFile", "REWIND": "RewindFile", "ERASE": "DeleteFile"}[name],
		name:     a.texts[0],
		line:     a.texts[1],
	}
	if name == "OPEN" {
		x.mode = int64(slices.Index([]string{"R", "W", "A"}, a.texts[1]) + 1)
		if x.mode == 0 {
			return faulted(impl.ErrRange)
		}
	}
	r := modelFileCall(c, x)
	switch {
	case r.code != impl.OK:
		return faulted(r.code)
	case name != "GET":
		return callResult{console: r.c, v: stringOf(""), succeeds: true}
	case !r.found:
		return callResult{console: r.c}
	}
	return callResult{console: r.c, v: stringOf(r.line), succeeds: true}
}
