package tests

import (
	"fmt"
	"math"
	"slices"
	"strings"
	"testing"

	"loop.example/g00873/impl"
)

// callResult is what a function of chapter 17 returns: each of them returns some of this.
type callResult struct {
	heap     impl.Heap
	console  impl.Console
	v        impl.Value
	p        impl.Pattern
	succeeds bool
	code     int64
}

// gave is the result of a function that succeeds with a value.
func gave(v impl.Value) callResult {
	return callResult{v: v, succeeds: true}
}

// gavePattern is the result of a function that returns a pattern.
func gavePattern(p impl.Pattern) callResult {
	return callResult{p: p, succeeds: true}
}

// faulted is the result of a call with an error.
func faulted(code int64) callResult {
	return callResult{code: code}
}

// calledPredicate, calledString, calledPattern, calledHeap, calledFile and calledAny take the results of the functions.
func calledPredicate(succeeds bool, code int64) callResult {
	return callResult{succeeds: succeeds, code: code}
}

func calledString(v impl.Value, succeeds bool, code int64) callResult {
	return callResult{v: v, succeeds: succeeds, code: code}
}

func calledPattern(p impl.Pattern, code int64) callResult {
	return callResult{p: p, succeeds: code == impl.OK, code: code}
}

func calledHeap(h impl.Heap, v impl.Value, succeeds bool, code int64) callResult {
	return callResult{heap: h, v: v, succeeds: succeeds, code: code}
}

func calledFile(c impl.Console, v impl.Value, succeeds bool, code int64) callResult {
	return callResult{console: c, v: v, succeeds: succeeds, code: code}
}

func calledAny(h impl.Heap, c impl.Console, v impl.Value, succeeds bool, code int64) callResult {
	return callResult{heap: h, console: c, v: v, succeeds: succeeds, code: code}
}

func equalFiles(a, b impl.File) bool {
	return a.Name == b.Name && slices.Equal(a.Lines, b.Lines) && a.Mode == b.Mode && a.At == b.At
}

func equalConsoles(a, b impl.Console) bool {
	return slices.Equal(a.Input, b.Input) && a.At == b.At && slices.Equal(a.Output, b.Output) &&
		slices.EqualFunc(a.Files, b.Files, equalFiles) && slices.Equal(a.Trace, b.Trace)
}

func equalCalls(a, b callResult) bool {
	return equalHeaps(a.heap, b.heap) && equalConsoles(a.console, b.console) && a.v == b.v && equalPatterns(a.p, b.p) && a.succeeds == b.succeeds && a.code == b.code
}

func checkCall(t *testing.T, what string, got, want callResult) {
	t.Helper()
	if !equalCalls(got, want) {
		t.Errorf("%.300s: got %.1000q, want %.1000q", what, fmt.Sprint(got), fmt.Sprint(want))
	}
}

// checkCallWith checks the result of a call with some arguments, which are only printed if it is another one.
func checkCallWith(t *testing.T, name string, args []impl.Value, got, want callResult) {
	t.Helper()
	if !equalCalls(got, want) {
		checkCall(t, fmt.Sprintf("%.40s with %.200q", name, fmt.Sprint(args)), got, want)
	}
}

// The tables of chapter 17.
const (
	ofPredicates = "predicates"
	ofStrings    = "strings"
	ofPatterns   = "patterns"
	ofHeap       = "heap"
	ofFiles      = "files"
)

// builtinRow has the table of a function, and its parameters: T is a text, N a number, P a pattern and V any value.
type builtinRow struct {
	table, params string
}

var builtinRows = map[string]builtinRow{
	"EQ": {ofPredicates, "VV"}, "NE": {ofPredicates, "VV"}, "LT": {ofPredicates, "VV"}, "LE": {ofPredicates, "VV"}, "GT": {ofPredicates, "VV"}, "GE": {ofPredicates, "VV"},
	"IDENT": {ofPredicates, "VV"}, "DIFFER": {ofPredicates, "VV"}, "LGT": {ofPredicates, "VV"}, "INTEGER": {ofPredicates, "V"},
	"SIZE": {ofStrings, "T"}, "TRIM": {ofStrings, "T"}, "REVERSE": {ofStrings, "T"}, "REPLACE": {ofStrings, "TTT"}, "DUPL": {ofStrings, "TN"}, "LPAD": {ofStrings, "TNT"}, "RPAD": {ofStrings, "TNT"},
	"SUBSTR": {ofStrings, "TNN"}, "CHAR": {ofStrings, "N"}, "ORD": {ofStrings, "T"}, "DATATYPE": {ofStrings, "V"},
	"ANY": {ofPatterns, "T"}, "NOTANY": {ofPatterns, "T"}, "SPAN": {ofPatterns, "T"}, "BREAK": {ofPatterns, "T"},
	"LEN": {ofPatterns, "N"}, "POS": {ofPatterns, "N"}, "RPOS": {ofPatterns, "N"}, "TAB": {ofPatterns, "N"}, "RTAB": {ofPatterns, "N"}, "ARBNO": {ofPatterns, "P"},
	"ARRAY": {ofHeap, "NV"}, "TABLE": {ofHeap, "V"}, "LENGTH": {ofHeap, "V"}, "COPY": {ofHeap, "V"}, "KEY": {ofHeap, "VN"}, "ITEM": {ofHeap, "VN"},
	"OPEN": {ofFiles, "TT"}, "GET": {ofFiles, "T"}, "PUT": {ofFiles, "TT"}, "CLOSE": {ofFiles, "T"}, "REWIND": {ofFiles, "T"}, "ERASE": {ofFiles, "T"},
}

// sortedBuiltins returns the names of the functions of some tables, or of all of them, in order.
func sortedBuiltins(tables ...string) []string {
	var names []string
	for name, row := range builtinRows {
		if len(tables) == 0 || slices.Contains(tables, row.table) {
			names = append(names, name)
		}
	}
	slices.Sort(names)
	return names
}

// noBuiltins are names of no function.
func noBuiltins() []string {
	return []string{"", "eq", "Eq", "EQ ", " EQ", "EQUAL", "E", "NONE", "SIZ", "SIZES", "REM", "ARB", "FAIL", "INPUT", "OUTPUT", "DEFINE", "DATA", "Size", "ALT", "CAT", "COND", "READ", "WRITE", "DELETE", "APPEND", "len", "\x00", "SIZE\x00", "\xff", "LEN(3)", strings.Repeat("SIZE", 100000)}
}

// callTable calls the function of the table that a name belongs to.
func callTable(table string, h impl.Heap, c impl.Console, name string, args []impl.Value) callResult {
	switch table {
	case ofPredicates:
		return calledPredicate(impl.CallPredicate(name, args))
	case ofStrings:
		return calledString(impl.CallString(name, args))
	case ofPatterns:
		return calledPattern(impl.CallPattern(name, args))
	case ofHeap:
		return calledHeap(impl.CallHeap(h, name, args))
	}
	return calledFile(impl.CallFile(c, name, args))
}

// modelArgs are the arguments of a call for each parameter.
type modelArgs struct {
	heap     impl.Heap
	values   [3]impl.Value
	texts    [3]string
	numbers  [3]int64
	patterns [3]impl.Pattern
}

// modelToPattern returns the pattern to which a valid value is converted, and a code.
func modelToPattern(v impl.Value) (impl.Pattern, int64) {
	if text := modelToText(v); text != nil {
		return texted(impl.PtString, string(text)), impl.OK
	}
	switch v.Kind {
	case impl.VkDefer:
		return texted(impl.PtDefer, v.Text), impl.OK
	case impl.VkPattern:
		if p, ok := modelReadPattern(v.Text); ok {
			return p, impl.OK
		}
		return impl.Pattern{}, impl.ErrInvalid
	}
	return impl.Pattern{}, impl.ErrType
}

// modelArguments converts valid values from left to right, and returns the code of the first that cannot be converted.
func modelArguments(h impl.Heap, params string, args []impl.Value) (modelArgs, int64) {
	a := modelArgs{heap: h}
	for i, param := range params {
		v := stringOf("")
		if i < len(args) {
			v = args[i]
		}
		a.values[i] = v
		text, number := modelToText(v), modelToInteger(v)
		pattern, code := modelToPattern(v)
		switch {
		case param == 'T' && text == nil, param == 'N' && number == nil:
			return a, impl.ErrType
		case param == 'T':
			a.texts[i] = string(text)
		case param == 'N':
			a.numbers[i] = number.Int64()
		case param == 'P' && code != impl.OK:
			return a, code
		case param == 'P':
			a.patterns[i] = pattern
		}
	}
	return a, impl.OK
}

// modelCall returns what the function of a table returns. The heap and the
// console are valid; only the functions on the heap and on files look at them.
func modelCall(table string, h impl.Heap, c impl.Console, name string, args []impl.Value) callResult {
	for _, v := range args {
		if !modelValid(v) || table == ofHeap && !modelFits(h.Objects, v) {
			return faulted(impl.ErrInvalid)
		}
	}
	row := builtinRows[name]
	if row.table != table {
		return faulted(impl.ErrUndefined)
	}
	if len(args) > len(row.params) {
		return faulted(impl.ErrRange)
	}
	a, code := modelArguments(h, row.params, args)
	if code != impl.OK {
		return faulted(code)
	}
	switch table {
	case ofPredicates:
		return modelPredicate(name, a)
	case ofStrings:
		return modelString(name, a)
	case ofPatterns:
		return modelPatternCall(name, a)
	case ofHeap:
		return modelHeapCall(name, a)
	}
	return modelFileFunction(name, c, a)
}

func modelPredicate(name string, a modelArgs) callResult {
	if name == "INTEGER" {
		return calledPredicate(modelToInteger(a.values[0]) != nil, impl.OK)
	}
	op := int64(slices.Index([]string{"EQ", "NE", "LT", "LE", "GT", "GE", "IDENT", "DIFFER", "LGT"}, name) + 1)
	judgement := modelCompared(op, a.values[0], a.values[1])
	return calledPredicate(judgement.holds, judgement.code)
}

// modelString computes byte by byte.
func modelString(name string, a modelArgs) callResult {
	s, n, last := a.texts[0], a.numbers[1], a.numbers[2]
	result := ""
	switch name {
	case "SIZE":
		return gave(integerOf(int64(len(s))))
	case "DATATYPE":
		result, _ = modelValue(a.values[0])
	case "TRIM":
		result = s
		for strings.HasSuffix(result, " ") {
			result = result[:len(result)-1]
		}
	case "REVERSE":
		for i := range len(s) {
			result = s[i:i+1] + result
		}
	case "REPLACE":
		from, to := a.texts[1], a.texts[2]
		if from == "" || len(from) != len(to) {
			return faulted(impl.ErrRange)
		}
		for i := range len(s) {
			if at := strings.LastIndexByte(from, s[i]); at >= 0 {
				result += to[at : at+1]
			} else {
				result += s[i : i+1]
			}
		}
	case "DUPL":
		if n < 0 || n > 200 {
			return faulted(impl.ErrRange)
		}
		for range n {
			result += s
		}
	case "LPAD", "RPAD":
		return modelPadded(s, n, a.texts[2], name == "LPAD")
	case "SUBSTR":
		if n < 1 || last < 0 || n+last > int64(len(s))+1 {
			return callResult{}
		}
		for number := n; number < n+last; number++ {
			result += s[number-1 : number]
		}
	case "CHAR":
		if a.numbers[0] < 0 || a.numbers[0] > 255 {
			return faulted(impl.ErrRange)
		}
		result = allBytes()[a.numbers[0]]
	case "ORD":
		if s == "" {
			return callResult{}
		}
		return gave(integerOf(int64(slices.Index(allBytes(), s[:1]))))
	}
	if len(result) > 200 {
		return faulted(impl.ErrFull)
	}
	return gave(stringOf(result))
}

func modelPadded(s string, n int64, fill string, left bool) callResult {
	if fill == "" {
		fill = " "
	}
	if n < 0 || n > 200 || len(fill) > 1 {
		return faulted(impl.ErrRange)
	}
	for int64(len(s)) < n {
		if left {
			s = fill + s
		} else {
			s += fill
		}
	}
	return gave(stringOf(s))
}

func modelPatternCall(name string, a modelArgs) callResult {
	kind := map[string]int64{
		"ANY": impl.PtAny, "NOTANY": impl.PtNotAny, "SPAN": impl.PtSpan, "BREAK": impl.PtBreak,
		"LEN": impl.PtLen, "POS": impl.PtPos, "RPOS": impl.PtRPos, "TAB": impl.PtTab, "RTAB": impl.PtRTab,
	}[name]
	switch builtinRows[name].params {
	case "T":
		if a.texts[0] == "" {
			return faulted(impl.ErrRange)
		}
		return gavePattern(texted(kind, a.texts[0]))
	case "N":
		if a.numbers[0] < 0 || a.numbers[0] > 200 {
			return faulted(impl.ErrRange)
		}
		return gavePattern(numbered(kind, a.numbers[0]))
	}
	if nodes, _ := modelPattern(a.patterns[0]); nodes == 60 {
		return faulted(impl.ErrFull)
	}
	return gavePattern(tree(impl.PtArbno, a.patterns[0]))
}

func modelHeapCall(name string, a modelArgs) callResult {
	made := func(r aggregateResult) callResult {
		return callResult{heap: r.heap, v: r.v, succeeds: r.code == impl.OK, code: r.code}
	}
	size, pairs := modelSize(a.heap, a.values[0])
	switch {
	case name == "ARRAY":
		return made(modelNewArray(a.heap, 1, a.numbers[0], a.values[1]))
	case name == "TABLE":
		return made(modelNewTable(a.heap, a.values[0]))
	case name == "COPY":
		return made(modelCopy(a.heap, a.values[0]))
	case size.code != impl.OK:
		return faulted(size.code)
	case name == "LENGTH":
		return callResult{heap: a.heap, v: integerOf(size.size), succeeds: true}
	}
	for i, pair := range slices.Collect(slices.Chunk(pairs.list, 2)) {
		if int64(i+1) == a.numbers[1] {
			return callResult{heap: a.heap, v: pair[slices.Index([]string{"KEY", "ITEM"}, name)], succeeds: true}
		}
	}
	return callResult{heap: a.heap}
}

// modelBuiltin returns what CallBuiltin returns, if heap and console are valid.
func modelBuiltin(h impl.Heap, c impl.Console, name string, args []impl.Value) callResult {
	for _, v := range args {
		if !modelValid(v) || !modelFits(h.Objects, v) {
			return faulted(impl.ErrInvalid)
		}
	}
	row, found := builtinRows[name]
	if !found {
		return faulted(impl.ErrUndefined)
	}
	return asBuiltin(h, c, row.table, modelCall(row.table, h, c, name, args))
}

// asBuiltin returns what CallBuiltin returns, by what the function of a table returns.
func asBuiltin(h impl.Heap, c impl.Console, table string, r callResult) callResult {
	if table == ofPatterns && r.code == impl.OK {
		_, text := modelPattern(r.p)
		r.v, r.p = patternOf(text), impl.Pattern{}
		if len(text) > 1200 {
			r.code = impl.ErrFull
		}
	}
	if r.code != impl.OK {
		return faulted(r.code)
	}
	if table == ofPredicates && r.succeeds {
		r.v = stringOf("")
	}
	if table != ofHeap {
		r.heap = h
	}
	if table != ofFiles {
		r.console = c
	}
	return r
}

// checkBuiltin checks what a function returns, and what CallBuiltin returns for it.
func checkBuiltin(t *testing.T, h impl.Heap, name string, args []impl.Value, want callResult) {
	t.Helper()
	table, c := builtinRows[name].table, exampleConsole()
	checkCallWith(t, name, args, callTable(table, h, c, name, args), want)
	checkCallWith(t, "CallBuiltin: "+name, args, calledAny(impl.CallBuiltin(h, c, name, args)), asBuiltin(h, c, table, want))
}

// namedConsole is a console with a description.
type namedConsole struct {
	what string
	c    impl.Console
}

// exampleConsole returns a console with lines of all sorts, and a file in each mode.
func exampleConsole() impl.Console {
	return impl.Console{
		Input: []string{"first", "", "\xff\n"}, At: 2, Output: []string{"out", ""},
		Files: []impl.File{
			{Name: "A", Lines: []string{"a", "b"}, Mode: impl.FmRead, At: 1}, {Name: "B", Lines: []string{"closed"}},
			{Name: "a", Lines: []string{"", "", ""}, Mode: impl.FmWrite}, {Name: "b_1", Mode: impl.FmAppend},
		},
		Trace: []string{"1: call F", "", "\x00"},
	}
}

// fullConsole returns a console that is as large as possible.
func fullConsole() impl.Console {
	line := strings.Repeat("x", 200)
	lines := slices.Repeat([]string{line}, 40)
	c := impl.Console{Input: slices.Repeat([]string{line}, 100), At: 100, Output: slices.Repeat([]string{line}, 100), Trace: slices.Repeat([]string{strings.Repeat("t", 1300)}, 200)}
	for i, name := range []string{"ABCDEFGHIJKL", "B", "BA", "a", "a_", "abcdefghijkl"} {
		mode := int64(i % 4)
		c.Files = append(c.Files, impl.File{Name: name, Lines: lines, Mode: mode, At: map[int64]int64{impl.FmRead: 40}[mode]})
	}
	return c
}

// consoleWith returns a console with a single file.
func consoleWith(f impl.File) impl.Console {
	return impl.Console{Files: []impl.File{f}}
}

// validConsoles returns consoles that are just valid.
func validConsoles() []namedConsole {
	list := []namedConsole{
		{"the zero console", impl.Console{}},
		{"empty lists", impl.Console{Input: []string{}, Output: []string{}, Files: []impl.File{}, Trace: []string{}}},
		{"lines of all sorts", exampleConsole()},
		{"as much as possible", fullConsole()},
		{"input that was not read", impl.Console{Input: []string{"a", "b"}}},
		{"input that was read", impl.Console{Input: []string{"a", "b"}, At: 2}},
		{"a file that was read", consoleWith(impl.File{Name: "F", Lines: []string{"a"}, Mode: impl.FmRead, At: 1})},
		{"an empty file", consoleWith(impl.File{Name: "F", Lines: []string{}, Mode: impl.FmRead})},
		{"files with similar names", impl.Console{Files: []impl.File{{Name: "A"}, {Name: "A0"}, {Name: "AA"}, {Name: "A_"}, {Name: "Aa"}, {Name: "a"}}}},
	}
	for mode := range int64(4) {
		list = append(list, namedConsole{fmt.Sprint("a file in the mode ", mode), consoleWith(impl.File{Name: "F", Lines: []string{"a"}, Mode: mode})})
	}
	return list
}

// invalidConsoles returns consoles of which each is invalid for another reason.
func invalidConsoles() []namedConsole {
	long := strings.Repeat("x", 201)
	full := fullConsole()
	list := []namedConsole{
		{"an input line more", impl.Console{Input: make([]string, 101)}},
		{"very many input lines", impl.Console{Input: make([]string, 500000)}},
		{"a long input line", impl.Console{Input: []string{"", long, ""}}},
		{"a long line that was read", impl.Console{Input: []string{long, ""}, At: 1}},
		{"an output line more", impl.Console{Output: make([]string, 101)}},
		{"a long output line", impl.Console{Output: []string{"", long}}},
		{"a trace line more", impl.Console{Trace: make([]string, 201)}},
		{"a long trace line", impl.Console{Trace: []string{strings.Repeat("t", 1301)}}},
		{"a long trace line behind others", impl.Console{Trace: append(full.Trace[:199:199], strings.Repeat("t", 1301))}},
		{"a file more", impl.Console{Files: append(full.Files[:6:6], impl.File{Name: "b"})}},
		{"very many files", impl.Console{Files: make([]impl.File, 100000)}},
		{"the zero file", consoleWith(impl.File{})},
		{"a file with the same name", impl.Console{Files: []impl.File{{Name: "A"}, {Name: "A"}}}},
		{"a file with the same name behind others", impl.Console{Files: []impl.File{{Name: "A"}, {Name: "B"}, {Name: "C"}, {Name: "C"}}}},
		{"files in descending order", impl.Console{Files: []impl.File{{Name: "B"}, {Name: "A"}}}},
		{"files in another order", impl.Console{Files: []impl.File{{Name: "a"}, {Name: "B"}}}},
		{"a file line more", consoleWith(impl.File{Name: "F", Lines: make([]string, 41)})},
		{"very many file lines", consoleWith(impl.File{Name: "F", Lines: make([]string, 500000)})},
		{"a long file line", consoleWith(impl.File{Name: "F", Lines: []string{"", long}})},
		{"an invalid file at the end", impl.Console{Files: append(full.Files[:5:5], impl.File{Name: "abcdefghijklm"})}},
	}
	for _, name := range noNames() {
		list = append(list, namedConsole{fmt.Sprintf("a file with the name %.20q", name), consoleWith(impl.File{Name: name})})
	}
	for _, n := range []int64{math.MinInt64, -1, 3, 1 << 32, math.MaxInt64} {
		list = append(list,
			namedConsole{fmt.Sprint("the input at ", n), impl.Console{Input: make([]string, 2), At: n}},
			namedConsole{fmt.Sprint("a file at ", n), consoleWith(impl.File{Name: "F", Lines: make([]string, 2), Mode: impl.FmRead, At: n})})
	}
	list = append(list, namedConsole{"no input that was read", impl.Console{At: 1}}, namedConsole{"no lines that were read", consoleWith(impl.File{Name: "F", Mode: impl.FmRead, At: 1})})
	for _, mode := range []int64{impl.FmClosed, impl.FmWrite, impl.FmAppend} {
		for _, n := range []int64{-1, 1, 2} {
			list = append(list, namedConsole{fmt.Sprintf("a file of the mode %d at %d", mode, n), consoleWith(impl.File{Name: "F", Lines: make([]string, 2), Mode: mode, At: n})})
		}
	}
	for _, mode := range []int64{math.MinInt64, -1, 4, 257, 1<<32 + 1, math.MaxInt64} {
		list = append(list, namedConsole{fmt.Sprint("a file of the mode ", mode), consoleWith(impl.File{Name: "F", Lines: make([]string, 2), Mode: mode})})
	}
	return list
}
