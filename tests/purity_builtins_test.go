package tests

import (
	"fmt"
	"math"
	"slices"
	"strings"
	"testing"

	"loop.example/g00873/impl"
)

// The tests of this file are promise 1 for the functions of chapter 17.

// builtinCase has arguments of the functions of chapter 17.
type builtinCase struct {
	h    impl.Heap
	c    impl.Console
	p    impl.Pattern
	name string
	args []impl.Value
}

// builtinResult is all that a function returns.
type builtinResult struct {
	callResult
	names    []string
	patterns []impl.Pattern
	rest     string
}

// builtinFunctions are all functions of chapter 17.
func builtinFunctions() map[string]func(c builtinCase) builtinResult {
	return map[string]func(c builtinCase) builtinResult{
		"BuiltinNames": func(c builtinCase) builtinResult {
			return builtinResult{names: impl.BuiltinNames()}
		},
		"BuiltinArity": func(c builtinCase) builtinResult {
			return builtinResult{rest: fmt.Sprint(impl.BuiltinArity(c.name))}
		},
		"PatternConstant": func(c builtinCase) builtinResult {
			p, found := impl.PatternConstant(c.name)
			return builtinResult{patterns: []impl.Pattern{p}, rest: fmt.Sprint(found)}
		},
		"ToPattern": func(c builtinCase) builtinResult {
			var r builtinResult
			for _, v := range c.args[:min(len(c.args), 30)] {
				p, code := impl.ToPattern(v)
				r.patterns = append(r.patterns, p)
				r.rest += fmt.Sprint(code)
			}
			return r
		},
		"PatternValue": func(c builtinCase) builtinResult {
			v, code := impl.PatternValue(c.p)
			return builtinResult{callResult: callResult{v: v, code: code}}
		},
		"CallPredicate": func(c builtinCase) builtinResult {
			return builtinResult{callResult: calledPredicate(impl.CallPredicate(c.name, c.args))}
		},
		"CallString": func(c builtinCase) builtinResult {
			return builtinResult{callResult: calledString(impl.CallString(c.name, c.args))}
		},
		"CallPattern": func(c builtinCase) builtinResult {
			return builtinResult{callResult: calledPattern(impl.CallPattern(c.name, c.args))}
		},
		"CallHeap": func(c builtinCase) builtinResult {
			return builtinResult{callResult: calledHeap(impl.CallHeap(c.h, c.name, c.args))}
		},
		"CallFile": func(c builtinCase) builtinResult {
			return builtinResult{callResult: calledFile(impl.CallFile(c.c, c.name, c.args))}
		},
		"CallBuiltin": func(c builtinCase) builtinResult {
			return builtinResult{callResult: calledAny(impl.CallBuiltin(c.h, c.c, c.name, c.args))}
		},
	}
}

func equalBuiltinResults(a, b builtinResult) bool {
	return equalCalls(a.callResult, b.callResult) && slices.Equal(a.names, b.names) && slices.EqualFunc(a.patterns, b.patterns, equalPatterns) && a.rest == b.rest
}

// builtinCases returns arguments, valid and invalid ones, and some that share memory with each other.
func builtinCases() []builtinCase {
	values := []impl.Value{arrayRef(1), arrayRef(2), arrayRef(1)}
	shared := heapWith(3, impl.Object{Id: 1, Kind: impl.ObArray, Vals: values}, impl.Object{Id: 2, Kind: impl.ObArray, Vals: values}, impl.Object{Id: 3, Kind: impl.ObTable, Keys: values[:2], Vals: values[1:], Default: stringOf("")})
	lines := []string{"a", "b", "c"}
	same := impl.Console{Input: lines, At: 1, Output: lines, Trace: lines, Files: []impl.File{{Name: "A", Lines: lines, Mode: impl.FmRead, At: 2}, {Name: "B", Lines: lines[1:]}}}
	heaps := []impl.Heap{exampleHeap(), shared, {}, {Objects: []impl.Object{}}, fullHeap(), heapWith(2, arrayWith(2, values...), arrayWith(1)), exampleHeap(), shared}
	consoles := []impl.Console{exampleConsole(), same, {}, {Input: []string{}, Output: []string{}, Files: []impl.File{}, Trace: []string{}}, fullConsole(), {Input: lines, At: 4, Files: []impl.File{{Lines: lines}}}, same}
	kids := []impl.Pattern{texted(impl.PtString, "a"), bare(impl.PtRem)}
	patterns := []impl.Pattern{tree(impl.PtAlt, kids...), tree(impl.PtCat, tree(impl.PtAlt, kids...), tree(impl.PtAlt, kids...)), {Kind: impl.PtRem, Kids: []impl.Pattern{}}, bare(impl.PtArb), {}, tree(impl.PtAlt, kids[0]), patternOfLength(1201)}
	var cases []builtinCase
	add := func(name string, args ...impl.Value) {
		i := len(cases)
		cases = append(cases, builtinCase{heaps[i%8], consoles[i%7], patterns[i/2%7], name, args})
	}
	for i, name := range append(sortedBuiltins(), "REM", "SUCCEED", "NONE", "") {
		good := goodArguments(name)
		for range 8 {
			add(name, good...)
			add(name, values[:1+i%3]...)
		}
		for count := range 5 {
			add(name, slices.Repeat(valuesOf("2"), count)...)
			add(name, []impl.Value{arrayRef(1), patternOf("alt(rem,cat(\"a\",arb))"), integerOf(1), deferOf("X")}[:max(count-1, 0)]...)
		}
		add(name, patternOf("alt(rem,cat(\"a\",arb))"))
		add(name, arrayRef(1), integerOf(1))
		add(name, tableRef(3), integerOf(9))
		add(name, impl.Value{})
	}
	for range 7 {
		for _, name := range sortedBuiltins(ofFiles) {
			for _, file := range []string{"A", "B", "a", "b_1", "NEW"} {
				add(name, valuesOf(file, "R", "W", "A")[:len(builtinRows[name].params)]...)
			}
			add(name, goodArguments(name)...)
		}
		add("OPEN", valuesOf("B", "A")...)
		add("OPEN", valuesOf("B", "W")...)
	}
	return cases
}

func copyBuiltinCase(c builtinCase) builtinCase {
	c.h, c.c, c.p, c.name, c.args = copyHeap(c.h), copyConsole(c.c), copyPattern(c.p), strings.Clone(c.name), slices.Clone(c.args)
	for i, v := range c.args {
		c.args[i].Text = strings.Clone(v.Text)
	}
	return c
}

// roomyBuiltinCase returns an equal case, each of whose lists has unused elements behind it.
func roomyBuiltinCase(c builtinCase) builtinCase {
	roomy, _, _ := withRoom(heapCase{h: c.h})
	c.h = roomy.h
	c.c.Input, _ = backing(c.c.Input, "unused")
	c.c.Output, _ = backing(c.c.Output, "unused")
	c.c.Trace, _ = backing(c.c.Trace, "unused")
	c.c.Files, _ = backing(c.c.Files, impl.File{Name: "unused", Mode: 77})
	for i, f := range c.c.Files {
		c.c.Files[i].Lines, _ = backing(f.Lines, "unused")
	}
	c.p = roomyPattern(c.p)
	c.args, _ = backing(c.args, impl.Value{Kind: 77, Text: "unused"})
	return c
}

func (w *watcher) watchConsole(c impl.Console) {
	for _, list := range [][]string{c.Input, c.Output, c.Trace} {
		watch(w, list, sameElement)
	}
	watch(w, c.Files, func(a, b impl.File) bool { return equalFiles(a, b) && isSame(a.Lines, b.Lines) })
	for _, f := range c.Files {
		watch(w, f.Lines, sameElement)
	}
}

func watchBuiltinCase(w *watcher, c builtinCase) {
	w.watchHeap(c.h)
	w.watchConsole(c.c)
	w.watchPattern(c.p)
	watch(w, c.args, sameElement)
}

// turnedBuiltinCase returns an equal case with nil for each empty list, and an empty list for each nil.
func turnedBuiltinCase(c builtinCase) builtinCase {
	c.h = emptied(heapCase{h: c.h}).h
	c.p = otherEmptyPattern(c.p)
	c.args = otherEmpty(c.args)
	c.c.Input, c.c.Output, c.c.Trace, c.c.Files = otherEmpty(c.c.Input), otherEmpty(c.c.Output), otherEmpty(c.c.Trace), otherEmpty(c.c.Files)
	for i, f := range c.c.Files {
		c.c.Files[i].Lines = otherEmpty(f.Lines)
	}
	return c
}

// addHeap, addConsole and addBuiltinResult add the memory of lists, and report whether none of it was there before.
func (m patternMemory) addHeap(h impl.Heap) bool {
	fresh := isNew(m, h.Objects)
	for _, o := range h.Objects {
		fresh = isNew(m, o.Keys) && fresh
		fresh = isNew(m, o.Vals) && fresh
	}
	return fresh
}

func (m patternMemory) addConsole(c impl.Console) bool {
	fresh := isNew(m, c.Files)
	for _, list := range [][]string{c.Input, c.Output, c.Trace} {
		fresh = isNew(m, list) && fresh
	}
	for _, f := range c.Files {
		fresh = isNew(m, f.Lines) && fresh
	}
	return fresh
}

func (m patternMemory) addBuiltinResult(r builtinResult) bool {
	fresh := isNew(m, r.names)
	fresh = m.addHeap(r.heap) && fresh
	fresh = m.addConsole(r.console) && fresh
	for _, p := range append(r.patterns, r.p) {
		fresh = m.addPattern(p) && fresh
	}
	return fresh
}

func (m patternMemory) addBuiltinCase(c builtinCase) {
	m.addHeap(c.h)
	m.addConsole(c.c)
	m.addPattern(c.p)
	isNew(m, c.args)
}

func overwriteBuiltinResult(r builtinResult) {
	changed := impl.Value{Kind: 77, Text: "changed"}
	for _, o := range r.heap.Objects {
		overwriteAll(o.Keys, changed)
		overwriteAll(o.Vals, changed)
	}
	overwriteAll(r.heap.Objects, recordWith(77, "changed"))
	for _, f := range r.console.Files {
		overwriteAll(f.Lines, "changed")
	}
	overwriteAll(r.console.Files, impl.File{Name: "changed"})
	for _, list := range [][]string{r.console.Input, r.console.Output, r.console.Trace, r.names} {
		overwriteAll(list, "changed")
	}
	memory := lists{}
	for _, p := range append(r.patterns, r.p) {
		memory.addPattern(p)
	}
	for _, list := range memory.patterns {
		overwrite(list, texted(77, "changed"))
	}
}

func TestBuiltinFunctionsArePure(t *testing.T) {
	p := purity[builtinCase, builtinResult]{
		functions: builtinFunctions(), cases: builtinCases(), equal: equalBuiltinResults,
		copied: copyBuiltinCase, roomy: roomyBuiltinCase, turned: turnedBuiltinCase, watch: watchBuiltinCase,
		addCase: patternMemory.addBuiltinCase, addResult: patternMemory.addBuiltinResult, overwrite: overwriteBuiltinResult,
	}
	p.checkAll(t, map[string]int{"BuiltinNames": 10000, "ToPattern": 500, "CallPattern": 20, "CallHeap": 1500, "CallFile": 1500, "CallBuiltin": 50000})
}

// TestFailuresOfBuiltinFunctions checks that nothing but the code is left of a call with an error, and no value of a function that fails.
func TestFailuresOfBuiltinFunctions(t *testing.T) {
	codes := map[string]int{}
	for what, call := range builtinFunctions() {
		for i, c := range builtinCases() {
			r := call(c).callResult
			codes[fmt.Sprint(what, r.code)]++
			if r.code != impl.OK {
				checkCall(t, fmt.Sprintf("%s: case %d", what, i), r, faulted(r.code))
			}
			if !r.succeeds && r.v != (impl.Value{}) && what != "PatternValue" {
				t.Errorf("%s: case %d: a value of a function that fails: %+v", what, i, r.v)
			}
		}
	}
	for _, call := range []string{"CallPredicate", "CallString", "CallPattern", "CallHeap", "CallFile", "CallBuiltin"} {
		for _, code := range []int64{impl.OK, impl.ErrInvalid, impl.ErrRange, impl.ErrType, impl.ErrUndefined} {
			if codes[fmt.Sprint(call, code)] < 5 {
				t.Errorf("%s returned the code %d only %d times", call, code, codes[fmt.Sprint(call, code)])
			}
		}
	}
}

// TestBuiltinFunctionsWithVeryLargeArguments has lists and texts far beyond all limits, patterns without end, and the least and the greatest numbers.
func TestBuiltinFunctionsWithVeryLargeArguments(t *testing.T) {
	long := strings.Repeat("x", 1000000)
	lines := slices.Repeat([]string{long}, 300000)
	files := slices.Repeat([]impl.File{{Name: long, Lines: lines, Mode: math.MinInt64, At: math.MaxInt64}}, 100000)
	heaps := []impl.Heap{{}, heapWith(math.MaxInt64, arraysTo(300000)...), heapWith(1, arrayWith(1, integersTo(300000)...))}
	consoles := []impl.Console{{}, {Input: lines, Output: lines, Trace: lines, Files: files, At: math.MinInt64}, {Files: files[:2]}, {Trace: lines}}
	patterns := []impl.Pattern{endlessPattern(1), endlessPattern(100), sharedPattern(200), stacked(100000, bare(impl.PtRem)), tree(impl.PtAlt, make([]impl.Pattern, 100000)...), texted(impl.PtString, long), {Kind: math.MinInt64, Num: math.MaxInt64}}
	lists := [][]impl.Value{nil, slices.Repeat(valuesOf(1), 300000), slices.Repeat([]impl.Value{patternOf(long), stringOf(long), {Kind: math.MaxInt64}}, 10), valuesOf(patternOf(strings.Repeat("arbno(", 200))), {integerOf(math.MinInt64), integerOf(math.MaxInt64)}}
	for what, call := range builtinFunctions() {
		for i, name := range append(sortedBuiltins(), "NONE", long) {
			for k, args := range lists {
				c := builtinCase{heaps[(i+k)%3], consoles[(i/3+k)%4], patterns[(i+k)%7], name, args}
				if !equalBuiltinResults(call(c), call(c)) {
					t.Errorf("%s: another result for %.20s and the arguments %d", what, name, k)
				}
			}
		}
	}
}
