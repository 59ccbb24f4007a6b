package tests

import (
	"fmt"
	"slices"
	"strings"
	"testing"

	"loop.example/g00873/impl"
)

// evalResult is what a function of chapter 19 returns: each of them returns some of this.
type evalResult struct {
	m        impl.Memory
	v        impl.Value
	target   impl.Target
	succeeds bool
	code     int64
}

// valued, written, aimed and stored take the results of the functions.
func valued(m impl.Memory, v impl.Value, succeeds bool, code int64) evalResult {
	return evalResult{m: m, v: v, succeeds: succeeds, code: code}
}

func written(m impl.Memory, code int64) evalResult {
	return evalResult{m: m, code: code}
}

func aimed(m impl.Memory, target impl.Target, succeeds bool, code int64) evalResult {
	return evalResult{m: m, target: target, succeeds: succeeds, code: code}
}

func stored(m impl.Memory, succeeds bool, code int64) evalResult {
	return evalResult{m: m, succeeds: succeeds, code: code}
}

// ended is the result of a function that returns an error.
func ended(code int64) evalResult {
	return evalResult{code: code}
}

// fails is the result of an evaluation that fails and leaves a memory.
func fails(m impl.Memory) evalResult {
	return evalResult{m: m}
}

func equalMemories(a, b impl.Memory) bool {
	return equalHeaps(a.Heap, b.Heap) && equalScopes(a.Scope, b.Scope) && equalConsoles(a.Console, b.Console)
}

func copyMemory(m impl.Memory) impl.Memory {
	return impl.Memory{Heap: copyHeap(m.Heap), Scope: copyScope(m.Scope), Console: copyConsole(m.Console)}
}

func equalEvals(a, b evalResult) bool {
	return equalMemories(a.m, b.m) && a.v == b.v && a.target == b.target && a.succeeds == b.succeeds && a.code == b.code
}

func checkEval(t *testing.T, what string, got, want evalResult) {
	t.Helper()
	if !equalEvals(got, want) {
		t.Errorf("%.300s: got %.1500q, want %.1500q", what, fmt.Sprint(got), fmt.Sprint(want))
	}
}

// modelMemory reports whether a memory is valid.
func modelMemory(m impl.Memory) bool {
	if !modelHeap(m.Heap) || !modelScope(m.Scope) || !modelConsole(m.Console) {
		return false
	}
	for _, b := range m.Scope.Vars {
		if !modelFits(m.Heap.Objects, b.Value) {
			return false
		}
	}
	return true
}

// exampleMemory returns a memory with values of all kinds, definitions of all sorts, input that can be read, and a file in each mode.
func exampleMemory() impl.Memory {
	c := exampleConsole()
	c.At = 1
	return impl.Memory{Heap: exampleHeap(), Scope: exampleScope(), Console: c}
}

// fullMemory returns a memory that is as large as possible.
func fullMemory() impl.Memory {
	return impl.Memory{Heap: fullHeap(), Scope: fullScope(), Console: fullConsole()}
}

// namedMemory is a memory with a description.
type namedMemory struct {
	what string
	m    impl.Memory
}

// validMemories returns memories that are just valid.
func validMemories() []namedMemory {
	list := []namedMemory{
		{"the zero memory", impl.Memory{}},
		{"the example", exampleMemory()},
		{"as much as possible", fullMemory()},
		{"a variable that refers to an object", impl.Memory{Heap: heapWith(5, arrayWith(5)), Scope: varsOf(binding("A", arrayRef(5)))}},
		{"a function with the name of a variable", impl.Memory{Scope: impl.Scope{Vars: []impl.Binding{binding("INPUT", integerOf(1)), binding("OUTPUT", integerOf(2)), binding("REM", integerOf(3))}, Functions: []impl.Function{function("INPUT", "OUTPUT", nil, nil)}}}},
	}
	for _, c := range validConsoles() {
		list = append(list, namedMemory{c.what, impl.Memory{Heap: exampleHeap(), Console: c.c}})
	}
	for _, c := range validScopes() {
		list = append(list, namedMemory{c.what, impl.Memory{Heap: exampleHeap(), Scope: c.s}})
	}
	for _, c := range validHeaps() {
		list = append(list, namedMemory{c.what, impl.Memory{Heap: c.h}})
	}
	return list
}

// invalidMemories returns memories of which each is invalid for another reason.
func invalidMemories() []namedMemory {
	var list []namedMemory
	add := func(what string, change func(m *impl.Memory)) {
		m := exampleMemory()
		change(&m)
		list = append(list, namedMemory{what, m})
	}
	for _, c := range invalidConsoles() {
		add(c.what, func(m *impl.Memory) { m.Console = c.c })
	}
	for _, c := range invalidScopes() {
		add(c.what, func(m *impl.Memory) { m.Scope = c.s })
	}
	for _, c := range invalidHeaps() {
		add(c.what, func(m *impl.Memory) { m.Heap, m.Scope = c.h, impl.Scope{} })
	}
	for _, v := range []impl.Value{arrayRef(3), arrayRef(9), arrayRef(2), arrayRef(4), tableRef(1), tableRef(1000000), recordRef(8), recordRef(10)} {
		for i := range exampleScope().Vars {
			add(fmt.Sprintf("the variable %d refers to %d", i, v.Ref), func(m *impl.Memory) { m.Scope.Vars[i].Value = v })
		}
	}
	add("no heap", func(m *impl.Memory) { m.Heap = impl.Heap{} })
	add("a heap without objects", func(m *impl.Memory) { m.Heap = heapWith(9) })
	return list
}

// constantNames are the variables that stand for patterns, unless they have a value.
var constantNames = []string{"REM", "ARB", "BAL", "FENCE", "ABORT", "FAIL", "SUCCEED"}

// modelReadVariable reads a variable of a valid memory.
func modelReadVariable(m impl.Memory, name string) evalResult {
	if !nameSyntax.MatchString(name) {
		return ended(impl.ErrInvalid)
	}
	if name == "INPUT" {
		unread := m.Console.Input[m.Console.At:]
		if len(unread) == 0 {
			return fails(m)
		}
		m.Console.At++
		return valued(m, stringOf(unread[0]), true, impl.OK)
	}
	if v := mapsOf(m.Scope).value(name); v != stringOf("") {
		return valued(m, v, true, impl.OK)
	}
	if slices.Contains(constantNames, name) {
		return valued(m, patternOf(strings.ToLower(name)), true, impl.OK)
	}
	return valued(m, stringOf(""), true, impl.OK)
}

// modelWriteVariable writes a variable of a valid memory.
func modelWriteVariable(m impl.Memory, name string, v impl.Value) evalResult {
	if !nameSyntax.MatchString(name) || !modelValid(v) || !modelFits(m.Heap.Objects, v) {
		return ended(impl.ErrInvalid)
	}
	switch name {
	case "INPUT":
		return ended(impl.ErrState)
	case "OUTPUT":
		text, isText := impl.ToText(v)
		if !isText {
			return ended(impl.ErrType)
		}
		if len(m.Console.Output) == 100 {
			return ended(impl.ErrFull)
		}
		m.Console.Output = append(slices.Clone(m.Console.Output), text)
		return written(m, impl.OK)
	}
	r := modelAssign(m.Scope, binding(name, v))
	if r.code != impl.OK {
		return ended(r.code)
	}
	m.Scope = r.s
	return written(m, impl.OK)
}

// modelPatterns converts values to the kids of a pattern, and returns the value of this.
func modelPatterns(p impl.Pattern, values ...impl.Value) (impl.Value, int64) {
	for _, v := range values {
		kid, code := modelToPattern(v)
		if code != impl.OK {
			return impl.Value{}, code
		}
		p.Kids = append(p.Kids, kid)
	}
	nodes, text := modelPattern(p)
	if nodes == 0 || len(text) > 1200 {
		return impl.Value{}, impl.ErrFull
	}
	return patternOf(text), impl.OK
}

// modelOperator applies an operator to any values.
func modelOperator(kind int64, a, b impl.Value) (impl.Value, int64) {
	if !modelValid(a) || !modelValid(b) || kind < 6 || kind > 11 {
		return impl.Value{}, impl.ErrInvalid
	}
	x, isText := impl.ToText(a)
	y, isOther := impl.ToText(b)
	switch {
	case kind == 6:
		return modelPatterns(impl.Pattern{Kind: 18}, a, b)
	case kind == 7 && a == stringOf(""):
		return b, impl.OK
	case kind == 7 && b == stringOf(""):
		return a, impl.OK
	case kind == 7 && isText && isOther && len(x+y) > 200:
		return impl.Value{}, impl.ErrFull
	case kind == 7 && isText && isOther:
		return stringOf(x + y), impl.OK
	case kind == 7:
		return modelPatterns(impl.Pattern{Kind: 19}, a, b)
	}
	return impl.Arithmetic(kind, a, b)
}

func modelName(v impl.Value) (string, bool) {
	isName := nameSyntax.MatchString(v.Text) && (v == stringOf(v.Text) || v == nameOf(v.Text))
	if !isName {
		return "", false
	}
	return v.Text, true
}

func modelHasField(s impl.Scope, name string) bool {
	for _, r := range s.Types {
		if slices.Contains(r.Fields, name) {
			return true
		}
	}
	return false
}

// modelTexts converts the arguments of DEFINE and DATA, of which the last ones can be missing.
func modelTexts(args []impl.Value, least, most int) ([]string, int64) {
	if len(args) < least || len(args) > most {
		return nil, impl.ErrRange
	}
	texts := make([]string, most)
	for i, v := range args {
		text, ok := impl.ToText(v)
		if !ok {
			return nil, impl.ErrType
		}
		texts[i] = text
	}
	return texts, impl.OK
}

// defined returns the memory with a scope that was returned, and the null value.
func definedIn(m impl.Memory, r scopeResult) evalResult {
	if r.code != impl.OK {
		return ended(r.code)
	}
	m.Scope = r.s
	return valued(m, stringOf(""), true, impl.OK)
}

// modelApply calls a function that no program defines, with arguments that fit a valid memory.
func modelApply(m impl.Memory, name string, args []impl.Value) evalResult {
	maps := mapsOf(m.Scope)
	_, isFunction := maps.functions[name]
	r, isType := maps.types[name]
	switch {
	case !nameSyntax.MatchString(name):
		return ended(impl.ErrInvalid)
	case isFunction:
		return ended(impl.ErrState)
	case name == "DEFINE":
		texts, code := modelTexts(args, 1, 2)
		if code != impl.OK {
			return ended(code)
		}
		return definedIn(m, modelDefineFunction(m.Scope, texts[0], texts[1]))
	case name == "DATA":
		texts, code := modelTexts(args, 1, 1)
		if code != impl.OK {
			return ended(code)
		}
		return definedIn(m, modelDefineType(m.Scope, texts[0]))
	case isType:
		h, v, code := impl.NewRecord(m.Heap, r.Name, r.Fields, args)
		if code != impl.OK {
			return ended(code)
		}
		m.Heap = h
		return valued(m, v, true, impl.OK)
	case modelHasField(m.Scope, name):
		if len(args) != 1 {
			return ended(impl.ErrRange)
		}
		v, code := impl.GetField(m.Heap, args[0], name)
		if code != impl.OK {
			return ended(code)
		}
		return valued(m, v, true, impl.OK)
	}
	b := modelBuiltin(m.Heap, m.Console, name, args)
	if b.code != impl.OK {
		return ended(b.code)
	}
	m.Heap, m.Console = b.heap, b.console
	return valued(m, b.v, b.succeeds, impl.OK)
}
