package tests

import (
	"fmt"
	"math"
	"math/rand"
	"slices"
	"strings"
	"testing"

	"loop.example/g00873/impl"
)

// The tests of this file are for the functions of chapter 21 on files.

// fileIn returns a file, and consoleAround a console with some files and other lines.
func fileIn(name string, mode, at int64, lines ...string) impl.File {
	return impl.File{Name: name, Lines: lines, Mode: mode, At: at}
}

func consoleAround(files ...impl.File) impl.Console {
	c := exampleConsole()
	c.Files = files
	return c
}

// namesOf returns the names of the files of a console in order.
func namesOf(c impl.Console) string {
	var names []string
	for _, f := range c.Files {
		names = append(names, f.Name)
	}
	return strings.Join(names, " ")
}

func TestOpenNewFile(t *testing.T) {
	b, d, e := fileIn("B", 0, 0, "b"), fileIn("D", 1, 1, "d", "d"), fileIn("b_", 3, 0)
	for name, order := range map[string]string{
		"A": "A B D b_", "BB": "B BB D b_", "B0": "B B0 D b_", "B_": "B B_ D b_", "C": "B C D b_", "Ba": "B Ba D b_", "E": "B D E b_", "Z_9": "B D Z_9 b_", "a": "B D a b_", "b": "B D b b_", "b0": "B D b0 b_", "b_1": "B D b_ b_1", "c": "B D b_ c", "abcdefghijkl": "B D abcdefghijkl b_",
	} {
		for _, mode := range []int64{impl.FmWrite, impl.FmAppend} {
			want := consoleAround(b, d, e, fileIn(name, mode, 0))
			slices.SortFunc(want.Files, func(x, y impl.File) int { return strings.Compare(x.Name, y.Name) })
			got := changedFiles(impl.OpenFile(consoleAround(b, d, e), name, mode))
			checkFiles(t, "opening "+name, got, fileResult{c: want})
			checkEqual(t, "the order with "+name, namesOf(got.c), order)
			checkFiles(t, "opening "+name+" alone", changedFiles(impl.OpenFile(impl.Console{}, name, mode)), fileResult{c: consoleWith(fileIn(name, mode, 0))})
		}
		checkFiles(t, "reading "+name, changedFiles(impl.OpenFile(consoleAround(b, d, e), name, impl.FmRead)), fileFault(impl.ErrNotFound))
		checkFiles(t, "reading "+name+" alone", changedFiles(impl.OpenFile(impl.Console{}, name, impl.FmRead)), fileFault(impl.ErrNotFound))
	}
}

func TestOpenClosedFile(t *testing.T) {
	a, z := fileIn("A", 2, 0, "a"), fileIn("z", 0, 0, "z")
	for _, lines := range [][]string{nil, {""}, {"x", "", "y"}, slices.Repeat([]string{strings.Repeat("x", 200)}, 40)} {
		before := consoleAround(a, fileIn("F", 0, 0, lines...), z)
		for mode, kept := range map[int64][]string{impl.FmRead: lines, impl.FmWrite: nil, impl.FmAppend: lines} {
			got := changedFiles(impl.OpenFile(before, "F", mode))
			checkFiles(t, fmt.Sprint("opening with the mode ", mode), got, fileResult{c: consoleAround(a, fileIn("F", mode, 0, kept...), z)})
		}
		checkEqual(t, "the console that was given", equalConsoles(before, consoleAround(a, fileIn("F", 0, 0, lines...), z)), true)
	}
}

// TestOpenFileThatIsOpen opens a file that is already open in each mode, again in each mode.
func TestOpenFileThatIsOpen(t *testing.T) {
	for _, mode := range []int64{impl.FmRead, impl.FmWrite, impl.FmAppend} {
		for _, lines := range [][]string{nil, {"x"}, {"x", "y"}} {
			f := fileIn("F", mode, 0, lines...)
			if mode == impl.FmRead {
				f.At = int64(len(lines) / 2)
			}
			full := append(fullConsole().Files[:5:5], f)
			slices.SortFunc(full, func(x, y impl.File) int { return strings.Compare(x.Name, y.Name) })
			for _, c := range []impl.Console{consoleWith(f), consoleAround(fileIn("A", 0, 0), f, fileIn("G", 0, 0)), consoleAround(full...)} {
				for _, again := range []int64{impl.FmRead, impl.FmWrite, impl.FmAppend} {
					kept := copyConsole(c)
					what := fmt.Sprintf("mode %d, again with %d", mode, again)
					checkFiles(t, what, changedFiles(impl.OpenFile(c, "F", again)), fileFault(impl.ErrState))
					checkEqual(t, what+": the console that was given", equalConsoles(c, kept), true)
				}
				closed := changedFiles(impl.CloseFile(c, "F"))
				checkFiles(t, "closed", closed, fileResult{c: withFiles(c, changedFile(c, fileIn("F", 0, 0, lines...)))})
				for _, again := range []int64{impl.FmRead, impl.FmAppend} {
					checkFiles(t, "opened again", changedFiles(impl.OpenFile(closed.c, "F", again)), fileResult{c: withFiles(c, changedFile(c, fileIn("F", again, 0, lines...)))})
				}
				checkFiles(t, "opened again", changedFiles(impl.OpenFile(closed.c, "F", impl.FmWrite)), fileResult{c: withFiles(c, changedFile(c, fileIn("F", 2, 0)))})
			}
		}
	}
}

// changedFile returns the files of a console, one of which is another one.
func changedFile(c impl.Console, f impl.File) map[string]impl.File {
	files := filesOf(c)
	files[f.Name] = f
	return files
}

func TestReadFile(t *testing.T) {
	lines := []string{"first", "", "\x00\xff", "first", strings.Repeat("x", 200)}
	a, z := fileIn("A", 1, 1, "a", "b"), fileIn("z", 2, 0, "z")
	c := consoleAround(a, fileIn("F", 1, 0, lines...), z)
	for pass := range 3 {
		for i, line := range lines {
			want := consoleAround(a, fileIn("F", 1, int64(i+1), lines...), z)
			got := readFile(impl.ReadFile(c, "F"))
			checkFiles(t, fmt.Sprintf("pass %d, line %d", pass, i), got, fileResult{c: want, line: line, found: true})
			c = got.c
		}
		for range 3 {
			checkFiles(t, "behind the last line", readFile(impl.ReadFile(c, "F")), fileResult{c: c})
		}
		if pass == 1 {
			c, _ = impl.CloseFile(c, "F")
			checkEqual(t, "closed", equalConsoles(c, consoleAround(a, fileIn("F", 0, 0, lines...), z)), true)
			c, _ = impl.OpenFile(c, "F", impl.FmRead)
			continue
		}
		got := changedFiles(impl.RewindFile(c, "F"))
		checkFiles(t, "rewound", got, fileResult{c: consoleAround(a, fileIn("F", 1, 0, lines...), z)})
		c = got.c
	}
	for at := range int64(3) {
		got := changedFiles(impl.RewindFile(consoleWith(fileIn("F", 1, at, "x", "y")), "F"))
		checkFiles(t, fmt.Sprint("rewound from ", at), got, fileResult{c: consoleWith(fileIn("F", 1, 0, "x", "y"))})
	}
	empty := consoleWith(fileIn("F", 1, 0))
	checkFiles(t, "an empty file", readFile(impl.ReadFile(empty, "F")), fileResult{c: empty})
	checkFiles(t, "an empty file, rewound", changedFiles(impl.RewindFile(empty, "F")), fileResult{c: empty})
}

func TestWriteFile(t *testing.T) {
	long := strings.Repeat("x", 200)
	a, z := fileIn("A", 3, 0, "a"), fileIn("z", 2, 0, "z")
	for _, mode := range []int64{impl.FmWrite, impl.FmAppend} {
		lines := []string{"old", ""}
		c := consoleAround(a, fileIn("F", mode, 0, lines...), z)
		for _, line := range []string{"", "x", "", "\x00\n\xff", "x", long} {
			lines = append(slices.Clone(lines), line)
			got := changedFiles(impl.WriteFile(c, "F", line))
			checkFiles(t, "writing "+line, got, fileResult{c: consoleAround(a, fileIn("F", mode, 0, lines...), z)})
			c = got.c
		}
		checkFiles(t, "a line that is too long", changedFiles(impl.WriteFile(c, "F", long+"x")), fileFault(impl.ErrInvalid))
	}
}

func TestDeleteFile(t *testing.T) {
	a, b, z := fileIn("A", 0, 0, "a"), fileIn("B", 0, 0), fileIn("z", 0, 0, "z", "z")
	for name, rest := range map[string]impl.Console{"A": consoleAround(b, z), "B": consoleAround(a, z), "z": consoleAround(a, b)} {
		c := consoleAround(a, b, z)
		got := changedFiles(impl.DeleteFile(c, name))
		checkFiles(t, "without "+name, got, fileResult{c: rest})
		checkFiles(t, name+" is not there", changedFiles(impl.DeleteFile(got.c, name)), fileFault(impl.ErrNotFound))
		made := changedFiles(impl.OpenFile(got.c, name, impl.FmAppend))
		checkFiles(t, name+" is a new file", made, fileResult{c: withFiles(c, changedFile(c, fileIn(name, 3, 0)))})
	}
	checkFiles(t, "the only file", changedFiles(impl.DeleteFile(consoleWith(a), "A")), fileResult{})
}

// TestFilesInEachState calls each function for a file in each state, and
// compares only the code with what the chapter says.
func TestFilesInEachState(t *testing.T) {
	ok, absent, state := int64(impl.OK), int64(impl.ErrNotFound), int64(impl.ErrState)
	for _, row := range []struct {
		x fileCall
		// codes are for a file that does not exist, one that is closed, and one that is open with FmRead, FmWrite and FmAppend.
		codes []int64
	}{
		{fileCall{function: "OpenFile", mode: 1}, []int64{absent, ok, state, state, state}},
		{fileCall{function: "OpenFile", mode: 2}, []int64{ok, ok, state, state, state}},
		{fileCall{function: "OpenFile", mode: 3}, []int64{ok, ok, state, state, state}},
		{fileCall{function: "ReadFile"}, []int64{absent, state, ok, state, state}},
		{fileCall{function: "WriteFile"}, []int64{absent, state, state, ok, ok}},
		{fileCall{function: "RewindFile"}, []int64{absent, state, ok, state, state}},
		{fileCall{function: "CloseFile"}, []int64{absent, state, ok, ok, ok}},
		{fileCall{function: "DeleteFile"}, []int64{absent, ok, state, state, state}},
	} {
		for i, code := range row.codes {
			for _, lines := range [][]string{nil, {"x"}, {"x", "y"}} {
				c := consoleAround(fileIn("A", 1, 0, "a"), fileIn("z", 2, 0, "z"))
				if i > 0 {
					c = consoleAround(fileIn("A", 1, 0, "a"), fileIn("F", int64(i-1), 0, lines...), fileIn("z", 2, 0, "z"))
				}
				x := row.x
				x.name = "F"
				checkEqual(t, fmt.Sprintf("%s, mode %d, in the state %d", x.function, x.mode, i), checkFileCall(t, "a file", c, x).code, code)
			}
		}
	}
}

// TestErrorsOfFilesInOrder has several errors at once.
func TestErrorsOfFilesInOrder(t *testing.T) {
	long, full := strings.Repeat("x", 201), slices.Repeat([]string{"x"}, 40)
	invalid := impl.Console{At: 1, Files: []impl.File{{Name: "F", Mode: 2}}}
	six := impl.Console{Files: []impl.File{{Name: "A"}, {Name: "B", Mode: 1}, {Name: "C", Mode: 2, Lines: full}, {Name: "D", Lines: full}, {Name: "E", Mode: 3, Lines: full}, {Name: "F", Mode: 1, Lines: full}}}
	for _, row := range []struct {
		what string
		c    impl.Console
		x    fileCall
		code int64
	}{
		{"an invalid console, no mode and no file", invalid, fileCall{"OpenFile", "G", 0, ""}, impl.ErrInvalid},
		{"an invalid console with an open file", invalid, fileCall{"OpenFile", "F", 1, ""}, impl.ErrInvalid},
		{"no name and no mode", six, fileCall{"OpenFile", "", 4, ""}, impl.ErrInvalid},
		{"no name, which would be a file more", six, fileCall{"OpenFile", "1", 2, ""}, impl.ErrInvalid},
		{"no mode and no file", six, fileCall{"OpenFile", "G", 0, ""}, impl.ErrRange},
		{"no mode and an open file", six, fileCall{"OpenFile", "B", 4, ""}, impl.ErrRange},
		{"the mode of a closed file", six, fileCall{"OpenFile", "A", 0, ""}, impl.ErrRange},
		{"no file to read, and six others", six, fileCall{"OpenFile", "G", 1, ""}, impl.ErrNotFound},
		{"an open file among six", six, fileCall{"OpenFile", "C", 2, ""}, impl.ErrState},
		{"a file more to write", six, fileCall{"OpenFile", "G", 2, ""}, impl.ErrFull},
		{"a file more to append to", six, fileCall{"OpenFile", "G", 3, ""}, impl.ErrFull},
		{"a full file to append to", six, fileCall{"OpenFile", "D", 3, ""}, impl.OK},
		{"a full file to write", six, fileCall{"OpenFile", "D", 2, ""}, impl.OK},
		{"an invalid console, no name and no line", invalid, fileCall{"WriteFile", "", 0, long}, impl.ErrInvalid},
		{"no name and no line", six, fileCall{"WriteFile", "", 0, long}, impl.ErrInvalid},
		{"no file and no line", six, fileCall{"WriteFile", "G", 0, long}, impl.ErrInvalid},
		{"no line for a file that is read", six, fileCall{"WriteFile", "B", 0, long}, impl.ErrInvalid},
		{"no line for a full file", six, fileCall{"WriteFile", "C", 0, long}, impl.ErrInvalid},
		{"a line for no file", six, fileCall{"WriteFile", "G", 0, ""}, impl.ErrNotFound},
		{"a line for a closed and full file", six, fileCall{"WriteFile", "D", 0, ""}, impl.ErrState},
		{"a line for a full file that is read", six, fileCall{"WriteFile", "F", 0, ""}, impl.ErrState},
		{"a line more", six, fileCall{"WriteFile", "C", 0, ""}, impl.ErrFull},
		{"a line more", six, fileCall{"WriteFile", "E", 0, ""}, impl.ErrFull},
	} {
		got := row.x.callOn(row.c)
		checkEqual(t, row.what, got.code, row.code)
		if row.code != impl.OK {
			checkFiles(t, row.what, got, fileFault(row.code))
		}
	}
	for _, function := range fileFunctions[1:] {
		for _, name := range append(noNames(), "G", "B") {
			got := fileCall{function: function, name: name}.callOn(invalid)
			checkFiles(t, fmt.Sprintf("%s of %.20q in an invalid console", function, name), got, fileFault(impl.ErrInvalid))
		}
		for _, name := range noNames() {
			got := fileCall{function: function, name: name}.callOn(six)
			checkFiles(t, fmt.Sprintf("%s of %.20q", function, name), got, fileFault(impl.ErrInvalid))
		}
	}
	for _, mode := range []int64{math.MinInt64, -1, 0, 4, 5, 256, 257, 258, 1<<32 + 1, 1<<32 + 2, math.MaxInt64} {
		for _, name := range []string{"A", "B", "G"} {
			checkFiles(t, fmt.Sprint("the mode ", mode), changedFiles(impl.OpenFile(six, name, mode)), fileFault(impl.ErrRange))
		}
		for _, name := range noNames() {
			checkFiles(t, fmt.Sprint("no name, and the mode ", mode), changedFiles(impl.OpenFile(six, name, mode)), fileFault(impl.ErrInvalid))
		}
	}
}

// TestLimitsOfFiles reaches each limit, and exceeds it by one.
func TestLimitsOfFiles(t *testing.T) {
	var c impl.Console
	for i, name := range []string{"D", "B", "F", "A", "E", "C"} {
		got := changedFiles(impl.OpenFile(c, name, int64(2+i%2)))
		checkEqual(t, "a new file", got.code, impl.OK)
		c = got.c
	}
	checkEqual(t, "files in order", namesOf(c), "A B C D E F")
	for _, mode := range []int64{impl.FmWrite, impl.FmAppend} {
		checkFiles(t, "a file more", changedFiles(impl.OpenFile(c, "G", mode)), fileFault(impl.ErrFull))
	}
	for range 2 {
		for i := range 41 {
			got := changedFiles(impl.WriteFile(c, "C", fmt.Sprint(i)))
			if i == 40 {
				checkFiles(t, "a line more", got, fileFault(impl.ErrFull))
				break
			}
			checkEqual(t, "a line", got.code, impl.OK)
			c = got.c
		}
		lines := c.Files[2].Lines
		checkEqual(t, "lines in order", len(lines) == 40 && lines[0] == "0" && lines[39] == "39", true)
		c, _ = impl.CloseFile(c, "C")
		c, _ = impl.OpenFile(c, "C", impl.FmAppend)
		checkFiles(t, "a line more, appended", changedFiles(impl.WriteFile(c, "C", "x")), fileFault(impl.ErrFull))
		c, _ = impl.CloseFile(c, "C")
		c, _ = impl.OpenFile(c, "C", impl.FmWrite)
		checkEqual(t, "no line is left", len(c.Files[2].Lines), 0)
	}
	for _, name := range []string{"A", "C", "F"} {
		c, _ = impl.CloseFile(c, name)
		c, _ = impl.DeleteFile(c, name)
		for _, other := range []string{"G", name} {
			got := changedFiles(impl.OpenFile(c, other, impl.FmWrite))
			checkEqual(t, "a file in place of "+name, got.code == impl.OK && len(got.c.Files) == 6, true)
		}
		c, _ = impl.OpenFile(c, name, impl.FmWrite)
	}
}

// TestFilesAgainstModel calls each function for all consoles, valid and invalid ones, with names, modes and lines of all sorts.
func TestFilesAgainstModel(t *testing.T) {
	t.Parallel()
	names := append(noNames(), "A", "B", "F", "a", "b_1", "abcdefghijkl", "ABCDEFGHIJKL", "BA", "AA", "Z", "f")
	modes := []int64{math.MinInt64, -1, 0, 1, 2, 3, 4, math.MaxInt64}
	lines := []string{"", "x", strings.Repeat("x", 200), strings.Repeat("x", 201), strings.Repeat("x", 1300)}
	codes := map[int64]int{}
	for i, c := range append(validConsoles(), invalidConsoles()...) {
		for k, name := range names {
			for _, function := range fileFunctions {
				calls := []fileCall{{function, name, 0, ""}}
				for _, mode := range modes {
					if function == "OpenFile" {
						calls = append(calls, fileCall{function, name, mode, ""})
					}
				}
				if function == "WriteFile" {
					calls = append(calls, fileCall{function, name, 0, lines[(i+k)%5]}, fileCall{function, name, 0, lines[(i+k+2)%5]})
				}
				for _, x := range calls {
					codes[checkFileCall(t, c.what, c.c, x).code]++
				}
			}
		}
	}
	for _, code := range []int64{impl.OK, impl.ErrInvalid, impl.ErrRange, impl.ErrNotFound, impl.ErrState, impl.ErrFull} {
		if codes[code] < 5 {
			t.Errorf("the code %d was returned only %d times", code, codes[code])
		}
	}
}

// fileSource makes random calls of functions on files.
type fileSource struct {
	*rand.Rand
}

// call returns a call that has no error for a console in most cases.
func (s fileSource) call(c impl.Console) fileCall {
	x := fileCall{name: []string{"A", "B", "C", "DD", "D_", "d", "e", "AB"}[s.Intn(8)], function: fileFunctions[s.Intn(6)]}
	if s.Intn(4) > 0 {
		state := -1
		if f, exists := filesOf(c)[x.name]; exists {
			state = int(f.Mode)
		}
		x.function = map[int][]string{
			-1: {"OpenFile"}, 0: {"OpenFile", "OpenFile", "OpenFile", "DeleteFile"},
			1: {"ReadFile", "ReadFile", "ReadFile", "RewindFile", "CloseFile"}, 2: {"WriteFile", "WriteFile", "WriteFile", "CloseFile"}, 3: {"WriteFile", "WriteFile", "CloseFile"},
		}[state][s.Intn(12)%map[int]int{-1: 1, 0: 4, 1: 5, 2: 4, 3: 3}[state]]
	}
	switch x.function {
	case "OpenFile":
		x.mode = int64(s.Intn(3) + 1)
	case "WriteFile":
		x.line = []string{"", "a", "line", "\xff", strings.Repeat("x", s.Intn(201))}[s.Intn(5)]
	}
	return x
}

// TestSeriesOfFileCalls compares consoles with the model after each of many calls.
func TestSeriesOfFileCalls(t *testing.T) {
	t.Parallel()
	counts := map[string]int{}
	for i, start := range append(validConsoles(), validConsoles()...) {
		s := fileSource{rand.New(rand.NewSource(int64(301 + i)))}
		c := start.c
		for range 400 {
			x := s.call(c)
			r := checkFileCall(t, start.what, c, x)
			counts[fmt.Sprint(x.function, r.code)]++
			if r.code != impl.OK {
				continue
			}
			if !impl.ValidConsole(r.c) || !modelConsole(r.c) {
				t.Errorf("%s of %s: an invalid console: %.500q", x.function, x.name, fmt.Sprint(r.c))
			}
			c = r.c
		}
		if t.Failed() {
			return
		}
	}
	for _, function := range fileFunctions {
		for _, code := range []int64{impl.OK, impl.ErrNotFound, impl.ErrState} {
			if count := counts[fmt.Sprint(function, code)]; count < 50 {
				t.Errorf("%s returned the code %d only %d times", function, code, count)
			}
		}
	}
	if counts[fmt.Sprint("OpenFile", impl.ErrFull)] < 50 {
		t.Errorf("only %d times there were too many files", counts[fmt.Sprint("OpenFile", impl.ErrFull)])
	}
}
