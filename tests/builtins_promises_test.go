package tests

import (
	"fmt"
	"math/rand"
	"slices"
	"strings"
	"testing"

	"loop.example/g00873/impl"
)

// The tests of this file, with those of missing and of too many arguments, are promise 23.

// modelConsole reports whether a console is valid.
func modelConsole(c impl.Console) bool {
	isLine := func(s string) bool { return len(s) <= 200 }
	isValid := len(c.Input) <= 100 && c.At >= 0 && c.At <= int64(len(c.Input)) && len(c.Output) <= 100 && len(c.Files) <= 6 && len(c.Trace) <= 200
	for _, s := range slices.Concat(c.Input, c.Output) {
		isValid = isValid && isLine(s)
	}
	for _, s := range c.Trace {
		isValid = isValid && len(s) <= 1300
	}
	names := map[string]bool{}
	var order []string
	for _, f := range c.Files {
		isValid = isValid && nameSyntax.MatchString(f.Name) && !names[f.Name] && len(f.Lines) <= 40
		for _, s := range f.Lines {
			isValid = isValid && isLine(s)
		}
		switch f.Mode {
		case 1:
			isValid = isValid && f.At >= 0 && f.At <= int64(len(f.Lines))
		case 0, 2, 3:
			isValid = isValid && f.At == 0
		default:
			isValid = false
		}
		names[f.Name] = true
		order = append(order, f.Name)
	}
	return isValid && slices.IsSorted(order)
}

func copyConsole(c impl.Console) impl.Console {
	c.Input, c.Output, c.Files, c.Trace = slices.Clone(c.Input), slices.Clone(c.Output), slices.Clone(c.Files), slices.Clone(c.Trace)
	for i, f := range c.Files {
		c.Files[i].Lines = slices.Clone(f.Lines)
	}
	return c
}

// changedConsole returns a console that differs in one place, and is invalid in many cases.
func changedConsole(r *rand.Rand, c impl.Console) impl.Console {
	c = copyConsole(c)
	lines := []string{"", "x", strings.Repeat("x", 200), strings.Repeat("x", 201), strings.Repeat("x", 1300), strings.Repeat("x", 1301)}
	s := lines[r.Intn(len(lines))]
	f := &impl.File{}
	if len(c.Files) > 0 {
		f = &c.Files[r.Intn(len(c.Files))]
	}
	switch r.Intn(10) {
	case 0:
		c.Input = append(c.Input, s)
	case 1:
		c.Output = append(c.Output, s)
	case 2:
		c.Trace = append(c.Trace, s)
	case 3:
		c.At += int64(r.Intn(7) - 3)
	case 4:
		f.Name = []string{"", "A", "B", "AB", "a", "zz", "1"}[r.Intn(7)]
	case 5:
		f.Mode = int64(r.Intn(6) - 1)
	case 6:
		f.At += int64(r.Intn(5) - 2)
	case 7:
		f.Lines = append(f.Lines, s)
	case 8:
		c.Files = append(c.Files, impl.File{Name: []string{"A", "c", "z", ""}[r.Intn(4)], Mode: int64(r.Intn(4))})
	case 9:
		c.Input = c.Input[:len(c.Input)/2]
	}
	return c
}

// TestConsolesAgainstModel checks that exactly the valid consoles are accepted and returned.
func TestConsolesAgainstModel(t *testing.T) {
	r := rand.New(rand.NewSource(173))
	counts := map[bool]int{}
	check := func(what string, c impl.Console) {
		isValid := modelConsole(c)
		counts[isValid]++
		want := faulted(impl.ErrInvalid)
		if isValid {
			want = callResult{console: c, v: integerOf(2), succeeds: true}
		}
		checkCall(t, what, calledAny(impl.CallBuiltin(impl.Heap{}, c, "SIZE", valuesOf("ab"))), want)
	}
	starts := validConsoles()
	for _, x := range append(starts, invalidConsoles()...) {
		check(x.what, x.c)
	}
	for i := range 30000 {
		x := starts[i%len(starts)]
		c := x.c
		for range 1 + r.Intn(3) {
			c = changedConsole(r, c)
		}
		check(x.what+", changed", c)
	}
	if counts[true] < 5000 || counts[false] < 5000 {
		t.Errorf("%v valid and invalid consoles", counts)
	}
}

// checkConsoleLeft checks the console that a call left: a valid one, which a
// function on files can change only in the file with the name that it was given.
func checkConsoleLeft(t *testing.T, what string, c impl.Console, name string, args []impl.Value, left impl.Console) {
	t.Helper()
	if !modelConsole(left) || !impl.ValidConsole(left) {
		t.Errorf("%s: the console is invalid: %.500q", what, fmt.Sprint(left))
	}
	before, after := filesOf(c), filesOf(left)
	if builtinRows[name].table == ofFiles && len(args) > 0 {
		delete(before, args[0].Text)
		delete(after, args[0].Text)
	}
	if !equalConsoles(withFiles(left, after), withFiles(c, before)) {
		t.Errorf("%s: another console: %.500q", what, fmt.Sprint(left))
	}
}

// checkLeft checks what a call left: a valid heap with all objects that were
// there, at most one new object, the console, and a value that fits.
func checkLeft(t *testing.T, h impl.Heap, c impl.Console, name string, args []impl.Value, r callResult) {
	t.Helper()
	what := fmt.Sprintf("%s with %.200q", name, fmt.Sprint(args))
	if r.code != impl.OK {
		checkCall(t, what, r, faulted(r.code))
		return
	}
	if !modelHeap(r.heap) || !impl.ValidHeap(r.heap) {
		t.Errorf("%s: the heap is invalid: %.500q", what, fmt.Sprint(r.heap))
	}
	checkConsoleLeft(t, what, c, name, args, r.console)
	if count := len(h.Objects); len(r.heap.Objects) < count || len(r.heap.Objects) > count+1 || !equalHeaps(impl.Heap{Next: h.Next, Objects: r.heap.Objects[:count]}, h) {
		t.Errorf("%s: other objects: %.500q", what, fmt.Sprint(r.heap))
	}
	if r.succeeds && (!modelFits(r.heap.Objects, r.v) || !impl.FitsHeap(r.heap, r.v)) || !r.succeeds && r.v != (impl.Value{}) {
		t.Errorf("%s: the value %.200q", what, fmt.Sprint(r.v))
	}
	checkCall(t, what, callResult{heap: r.heap, console: r.console, v: r.v, succeeds: r.succeeds}, r)
}

// callSeries makes calls, each with values that earlier ones returned.
type callSeries struct {
	*rand.Rand
	usual, references, others []impl.Value
}

func (s *callSeries) value() impl.Value {
	list := [][]impl.Value{s.usual, s.references, s.others}[s.Intn(3)]
	if len(list) == 0 {
		list = s.usual
	}
	return list[s.Intn(len(list))]
}

// call returns a function and arguments for it, which are too few or too many in some cases.
func (s *callSeries) call() (string, []impl.Value) {
	names := [][]string{sortedBuiltins(), sortedBuiltins(ofHeap), sortedBuiltins(ofFiles)}[s.Intn(3)]
	name := names[s.Intn(len(names))]
	row := builtinRows[name]
	count := []int{len(row.params), len(row.params), s.Intn(len(row.params) + 2)}[s.Intn(3)]
	var args []impl.Value
	for range count {
		args = append(args, s.value())
	}
	if row.table == ofFiles && count > 0 && s.Intn(6) > 0 {
		args[0] = stringOf([]string{"A", "B", "F", "a", "A", "B", "F", "Z", "b_1", "AA", "A0"}[s.Intn(11)])
	}
	if name == "OPEN" && count > 1 && s.Intn(6) > 0 {
		args[1] = stringOf([]string{"R", "R", "R", "W", "A"}[s.Intn(5)])
	}
	return name, args
}

// keep makes later calls use a value.
func (s *callSeries) keep(v impl.Value) {
	if v.Ref > 0 {
		s.references = append(s.references, v)
	} else {
		s.others = append(s.others, v)
	}
}

// TestCallsLeaveValidHeapsAndConsoles is the first part of promise 23.
func TestCallsLeaveValidHeapsAndConsoles(t *testing.T) {
	codes, given, onFiles := map[int64]int{}, map[int64]int{}, map[string]int{}
	consoles := validConsoles()
	for i := range 100 {
		h, c := impl.Heap{}, consoles[i%len(consoles)].c
		s := callSeries{Rand: rand.New(rand.NewSource(int64(174 + i))), usual: valuesOf("", "a", "ab ", 1, 2, "3", patternOf("rem"), nameOf("X"), deferOf("X"))}
		for range 400 {
			name, args := s.call()
			r := calledAny(impl.CallBuiltin(h, c, name, args))
			checkLeft(t, h, c, name, args, r)
			codes[r.code]++
			if r.code == impl.OK {
				h, c = r.heap, r.console
				given[r.v.Kind]++
			}
			if builtinRows[name].table == ofFiles {
				onFiles[fmt.Sprint(name, r.code)]++
			}
			if r.succeeds {
				s.keep(r.v)
			}
		}
		if len(h.Objects) < 10 {
			t.Errorf("only %d objects after a series of calls", len(h.Objects))
		}
	}
	for _, code := range []int64{impl.OK, impl.ErrRange, impl.ErrType, impl.ErrFull, impl.ErrInvalid, impl.ErrNotFound, impl.ErrState} {
		if codes[code] < 100 {
			t.Errorf("the code %d was returned only %d times", code, codes[code])
		}
	}
	for _, name := range sortedBuiltins(ofFiles) {
		for _, code := range []int64{impl.OK, impl.ErrInvalid, impl.ErrRange, impl.ErrType, impl.ErrNotFound, impl.ErrState} {
			if count := onFiles[fmt.Sprint(name, code)]; count < 50 && (name != "OPEN" || code != impl.ErrInvalid) {
				t.Errorf("%s returned the code %d only %d times", name, code, count)
			}
		}
	}
	for _, kind := range []int64{0, impl.VkString, impl.VkInteger, impl.VkPattern, impl.VkArray, impl.VkTable} {
		if given[kind] < 100 {
			t.Errorf("a value of the kind %d was returned only %d times", kind, given[kind])
		}
	}
}

// TestCallsOfTablesAgree checks that CallBuiltin does what the function of the table does, for random heaps.
func TestCallsOfTablesAgree(t *testing.T) {
	r := rand.New(rand.NewSource(175))
	m := heapMaker{r}
	names, c := sortedBuiltins(), exampleConsole()
	for range 20000 {
		h := m.heap(5)
		name := names[r.Intn(len(names))]
		table := builtinRows[name].table
		var args []impl.Value
		for range r.Intn(4) {
			args = append(args, append(valuesOf(r.Intn(5), "abc", patternOf("arb")), m.value(h.Objects))[r.Intn(4)])
		}
		if table == ofFiles && len(args) > 0 {
			args[0] = stringOf([]string{"A", "B", "a", "b_1", "NEW"}[r.Intn(5)])
		}
		want := asBuiltin(h, c, table, callTable(table, h, c, name, args))
		checkCallWith(t, name, args, calledAny(impl.CallBuiltin(h, c, name, args)), want)
	}
}

// TestPatternsOfCallsMatch checks that the patterns of the functions have the
// matches of their kinds, also when they were converted to values and back.
func TestPatternsOfCallsMatch(t *testing.T) {
	for _, c := range []struct {
		name    string
		arg     impl.Value
		subject string
		want    []int64
	}{
		{"ANY", stringOf("ab"), "bxa", []int64{1}},
		{"NOTANY", stringOf("ab"), "xab", []int64{1}},
		{"SPAN", stringOf("ab"), "abax", []int64{3}},
		{"BREAK", stringOf("x"), "abax", []int64{3}},
		{"LEN", integerOf(2), "abc", []int64{2}},
		{"POS", stringOf("0"), "abc", []int64{0}},
		{"RPOS", stringOf("+03"), "abc", []int64{0}},
		{"TAB", integerOf(2), "abc", []int64{2}},
		{"RTAB", integerOf(1), "abc", []int64{2}},
		{"ARBNO", stringOf("ab"), "ababx", []int64{0, 2, 4}},
		{"ARBNO", integerOf(12), "12123", []int64{0, 2, 4}},
		{"ARBNO", patternOf("len(1)"), "ab", []int64{0, 1, 2}},
		{"ARBNO", deferOf("P"), "aab", []int64{0, 1, 2}},
	} {
		_, _, v, succeeds, code := impl.CallBuiltin(impl.Heap{}, impl.Console{}, c.name, []impl.Value{c.arg})
		checkEqual(t, c.name, judged{succeeds, code}, judged{true, impl.OK})
		p, code := impl.ToPattern(v)
		checkEqual(t, c.name+": code", code, impl.OK)
		env := []impl.Named{{Name: "P", Pattern: texted(impl.PtString, "a")}}
		ends, code := impl.EndsAt(env, p, c.subject, 0, 100)
		checkEqual(t, c.name+": code of the match", code, impl.OK)
		checkList(t, c.name+": end cursors", ends, c.want)
	}
}
