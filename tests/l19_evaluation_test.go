package tests

import (
	"fmt"
	"math"
	"slices"
	"strings"
	"testing"

	"loop.example/g00873/impl"
)

func TestTargetConstants(t *testing.T) {
	checkList(t, "kinds", []int64{impl.TgVariable, impl.TgElement, impl.TgField}, []int64{1, 2, 3})
}

func parsedExpr(t *testing.T, s string) impl.Expr {
	t.Helper()
	e, ok := impl.ExprOf(s)
	if !ok {
		t.Fatalf("%q is no expression", s)
	}
	return e
}

// withVars returns the example memory with some variables more, or with other values.
func withVars(list ...impl.Binding) impl.Memory {
	m := exampleMemory()
	m.Scope = modelAssign(m.Scope, list...).s
	return m
}

func TestEvaluationExamples(t *testing.T) {
	m := impl.Memory{Scope: varsOf(binding("A", integerOf(5)))}
	checkEval(t, "A + 1 'x'", valued(impl.Evaluate(m, parsedExpr(t, "A + 1 'x'"))), valued(m, stringOf("6x"), true, impl.OK))
	checkEval(t, "EQ(A,4) 1", valued(impl.Evaluate(m, parsedExpr(t, "EQ(A,4) 1"))), fails(m))
	h, a, _ := impl.NewArray(impl.Heap{}, 1, 3, integerOf(7))
	m = impl.Memory{Heap: h}
	element := impl.Target{Kind: impl.TgElement, Object: a, Index: integerOf(4)}
	checkEval(t, "reading the element 4", valued(impl.ReadTarget(m, element)), fails(m))
	checkEval(t, "assigning the element 4", stored(impl.WriteTarget(m, element, integerOf(1))), fails(m))
}

// checkMemoryError checks what the functions of chapter 19 that have a memory return beside an error.
func checkMemoryError(t *testing.T, what string, m impl.Memory, code int64) {
	t.Helper()
	one := integerOf(1)
	for _, name := range []string{"A", "INPUT", "OUTPUT", "REM", "1"} {
		checkEval(t, what+": ReadVariable", valued(impl.ReadVariable(m, name)), ended(code))
		for _, v := range []impl.Value{one, {}} {
			checkEval(t, what+": WriteVariable", written(impl.WriteVariable(m, name, v)), ended(code))
			checkEval(t, what+": ReadTarget", valued(impl.ReadTarget(m, impl.Target{Kind: impl.TgVariable, Name: name})), ended(code))
			checkEval(t, what+": WriteTarget", stored(impl.WriteTarget(m, impl.Target{Kind: impl.TgVariable, Name: name}, v)), ended(code))
			checkEval(t, what+": WriteTarget", stored(impl.WriteTarget(m, impl.Target{Kind: impl.TgElement, Object: v, Index: one}, one)), ended(code))
		}
	}
	for _, name := range []string{"DEFINE", "DATA", "SIZE", "F", "NODE", "LEFT", "NONE", ""} {
		for count := range 3 {
			checkEval(t, what+": ApplyNamed", valued(impl.ApplyNamed(m, name, slices.Repeat(valuesOf("F(X)"), count))), ended(code))
		}
	}
	for _, s := range []string{"1", "A", "INPUT", "SIZE(1)", "1 / 0", "A<1>", "$'A'"} {
		checkEval(t, what+": Evaluate", valued(impl.Evaluate(m, parsedExpr(t, s))), ended(code))
		checkEval(t, what+": EvalTarget", aimed(impl.EvalTarget(m, parsedExpr(t, s))), ended(code))
	}
}

func TestValidMemory(t *testing.T) {
	for _, c := range validMemories() {
		checkEqual(t, c.what+": the model", modelMemory(c.m), true)
		checkEqual(t, c.what+": valid", impl.ValidMemory(c.m), true)
		checkEval(t, c.what, valued(impl.Evaluate(c.m, number(1))), valued(c.m, integerOf(1), true, impl.OK))
		checkEval(t, c.what, aimed(impl.EvalTarget(c.m, variable("X"))), aimed(c.m, impl.Target{Kind: impl.TgVariable, Name: "X"}, true, impl.OK))
	}
}

func TestInvalidMemory(t *testing.T) {
	for _, c := range invalidMemories() {
		checkEqual(t, c.what+": valid", impl.ValidMemory(c.m), false)
		checkMemoryError(t, c.what, c.m, impl.ErrInvalid)
	}
}

func TestSameMemory(t *testing.T) {
	list := []impl.Memory{{}, exampleMemory(), fullMemory()}
	add := func(change func(m *impl.Memory)) {
		m := exampleMemory()
		change(&m)
		list = append(list, m)
	}
	add(func(m *impl.Memory) { m.Heap.Next++ })
	add(func(m *impl.Memory) { m.Heap.Objects[0].Vals[1] = integerOf(6) })
	add(func(m *impl.Memory) { m.Heap.Objects = m.Heap.Objects[:3] })
	add(func(m *impl.Memory) { m.Scope.Vars[7].Value = deferOf("c") })
	add(func(m *impl.Memory) { m.Scope.Functions[0].Label = "G" })
	add(func(m *impl.Memory) { m.Scope.Types[0].Fields[0] = "Y" })
	add(func(m *impl.Memory) { m.Console.Input[0] = "second" })
	add(func(m *impl.Memory) { m.Console.At++ })
	add(func(m *impl.Memory) { m.Console.Output = append(m.Console.Output, "") })
	add(func(m *impl.Memory) { m.Console.Files[0].At = 0 })
	add(func(m *impl.Memory) { m.Console.Files[1].Lines[0] = "open" })
	add(func(m *impl.Memory) { m.Console.Trace[2] = "" })
	add(func(m *impl.Memory) { m.Heap = impl.Heap{} })
	add(func(m *impl.Memory) { m.Scope = impl.Scope{} })
	add(func(m *impl.Memory) { m.Console = impl.Console{} })
	for i, a := range list {
		for k, b := range list {
			checkEqual(t, fmt.Sprintf("the memories %d and %d", i, k), impl.SameMemory(a, copyMemory(b)), i == k)
		}
	}
	for _, c := range invalidMemories() {
		checkEqual(t, c.what, impl.SameMemory(c.m, copyMemory(c.m)), true)
	}
	empty := impl.Memory{Heap: impl.Heap{Objects: []impl.Object{}}, Scope: impl.Scope{Vars: []impl.Binding{}}, Console: impl.Console{Input: []string{}, Files: []impl.File{}}}
	checkEqual(t, "nil and empty lists", impl.SameMemory(empty, impl.Memory{}), true)
}

func TestReadVariable(t *testing.T) {
	m := exampleMemory()
	for _, b := range m.Scope.Vars {
		checkEval(t, b.Name, valued(impl.ReadVariable(m, b.Name)), valued(m, b.Value, true, impl.OK))
	}
	for _, name := range []string{"C", "OUTPUT", "X", "rem", "Rem", "input", "Input", "REM_", "LEN", "F_", "NODE", "ABCDEFGHIJKL", "END", "TRACE", "ANCHOR"} {
		checkEval(t, name, valued(impl.ReadVariable(m, name)), valued(m, stringOf(""), true, impl.OK))
	}
	for _, name := range noNames() {
		checkEval(t, fmt.Sprintf("%.20q", name), valued(impl.ReadVariable(m, name)), ended(impl.ErrInvalid))
	}
}

func TestReadConstants(t *testing.T) {
	m := exampleMemory()
	for _, name := range constantNames {
		text := patternOf(strings.ToLower(name))
		checkEval(t, name, valued(impl.ReadVariable(m, name)), valued(m, text, true, impl.OK))
		checkEval(t, name+", evaluated", valued(impl.Evaluate(m, variable(name))), valued(m, text, true, impl.OK))
		for _, v := range valuesOf("x", 0, patternOf("len(1)"), arrayRef(1), nameOf("A"), deferOf("A")) {
			own := withVars(binding(name, v))
			checkEval(t, name+" with a value", valued(impl.ReadVariable(own, name)), valued(own, v, true, impl.OK))
			without, code := impl.WriteVariable(own, name, stringOf(""))
			checkEval(t, name+" without its value", written(without, code), written(m, impl.OK))
			checkEval(t, name+" without its value", valued(impl.ReadVariable(without, name)), valued(m, text, true, impl.OK))
		}
	}
}

func TestReadInput(t *testing.T) {
	m := exampleMemory()
	m.Console.Input = []string{"first", "", "\xff\n", strings.Repeat("x", 200), "7"}
	m.Console.At = 0
	m.Scope = varsOf(binding("INPUT", integerOf(3)))
	for i, line := range m.Console.Input {
		want := copyMemory(m)
		want.Console.At = int64(i + 1)
		for what, got := range map[string]evalResult{
			"ReadVariable": valued(impl.ReadVariable(m, "INPUT")),
			"ReadTarget":   valued(impl.ReadTarget(m, impl.Target{Kind: impl.TgVariable, Name: "INPUT"})),
			"Evaluate":     valued(impl.Evaluate(m, variable("INPUT"))),
			"a name":       valued(impl.Evaluate(m, parsedExpr(t, "$'INPUT'"))),
		} {
			checkEval(t, fmt.Sprint(what, ", line ", i), got, valued(want, stringOf(line), true, impl.OK))
		}
		m = want
	}
	checkEval(t, "no line", valued(impl.ReadVariable(m, "INPUT")), fails(m))
	checkEval(t, "no line", valued(impl.ReadTarget(m, impl.Target{Kind: impl.TgVariable, Name: "INPUT"})), fails(m))
	checkEval(t, "no line", valued(impl.Evaluate(m, parsedExpr(t, "1 / 0 INPUT"))), ended(impl.ErrDivision))
	checkEval(t, "no line", valued(impl.Evaluate(m, parsedExpr(t, "INPUT (1 / 0)"))), fails(m))
	checkEval(t, "no input", valued(impl.ReadVariable(impl.Memory{}, "INPUT")), fails(impl.Memory{}))
}

// checkWritten checks what the functions return that assign a value to a variable.
func checkWritten(t *testing.T, what string, m impl.Memory, name string, v impl.Value, want evalResult) {
	t.Helper()
	checkEval(t, what, written(impl.WriteVariable(m, name, v)), want)
	want.succeeds = want.code == impl.OK
	checkEval(t, what+", as a target", stored(impl.WriteTarget(m, impl.Target{Kind: impl.TgVariable, Name: name}, v)), want)
}

func TestWriteVariable(t *testing.T) {
	m := exampleMemory()
	for _, name := range []string{"A", "B", "b", "C", "X", "REM", "input", "output", "TRACE", "SIZE", "F", "ABCDEFGHIJKL"} {
		for _, v := range valuesOf("", "x", 0, -7, patternOf("x"), patternOf("len(1)"), arrayRef(1), tableRef(2), recordRef(4), nameOf("A"), deferOf("A"), strings.Repeat("x", 200)) {
			want := copyMemory(m)
			want.Scope = modelAssign(m.Scope, binding(name, v)).s
			checkWritten(t, fmt.Sprintf("%s = %.30q", name, fmt.Sprint(v)), m, name, v, written(want, impl.OK))
		}
	}
	full := impl.Memory{Scope: fullScope()}
	checkWritten(t, "a variable more", full, "A", integerOf(1), ended(impl.ErrFull))
	checkWritten(t, "the null value", full, "A", stringOf(""), written(full, impl.OK))
	changed := copyMemory(full)
	changed.Scope.Vars[39].Value = integerOf(1)
	checkWritten(t, "the last variable", full, "N039", integerOf(1), written(changed, impl.OK))
	output := copyMemory(full)
	output.Console.Output = []string{"1"}
	checkWritten(t, "output beside many variables", full, "OUTPUT", integerOf(1), written(output, impl.OK))
}

func TestWriteOutput(t *testing.T) {
	m := withVars(binding("OUTPUT", integerOf(3)))
	for _, c := range []struct {
		v    impl.Value
		line string
	}{{stringOf(""), ""}, {stringOf("x"), "x"}, {stringOf("\x00\xff"), "\x00\xff"}, {stringOf(strings.Repeat("x", 200)), strings.Repeat("x", 200)}, {integerOf(0), "0"}, {integerOf(-1000000000000), "-1000000000000"}} {
		want := copyMemory(m)
		want.Console.Output = append(want.Console.Output, c.line)
		checkWritten(t, fmt.Sprintf("OUTPUT = %.30q", c.line), m, "OUTPUT", c.v, written(want, impl.OK))
	}
	full := m
	full.Console.Output = slices.Repeat([]string{"x"}, 99)
	last := copyMemory(full)
	last.Console.Output = append(last.Console.Output, "y")
	checkWritten(t, "the last line", full, "OUTPUT", stringOf("y"), written(last, impl.OK))
	checkWritten(t, "a line more", last, "OUTPUT", stringOf("y"), ended(impl.ErrFull))
	for _, v := range valuesOf(patternOf("x"), patternOf("len(1)"), arrayRef(1), tableRef(2), recordRef(4), nameOf("A"), deferOf("A")) {
		checkWritten(t, fmt.Sprint("OUTPUT = ", v), m, "OUTPUT", v, ended(impl.ErrType))
		checkWritten(t, fmt.Sprint("OUTPUT = ", v, " beside full output"), last, "OUTPUT", v, ended(impl.ErrType))
	}
}

// unfitValues are values that are invalid or refer to no object of the example.
func unfitValues() []impl.Value {
	return append(invalidValues(), arrayRef(3), arrayRef(9), arrayRef(10), arrayRef(2), tableRef(1), recordRef(8), tableRef(1000000))
}

func TestWriteVariableErrors(t *testing.T) {
	m := exampleMemory()
	m.Console.Output = slices.Repeat([]string{"x"}, 100)
	for _, v := range valuesOf("", "x", 0, patternOf("x"), arrayRef(1), tableRef(2), recordRef(4), nameOf("A"), deferOf("A")) {
		checkWritten(t, "INPUT", m, "INPUT", v, ended(impl.ErrState))
		for _, name := range noNames() {
			checkWritten(t, fmt.Sprintf("%.20q", name), m, name, v, ended(impl.ErrInvalid))
		}
	}
	for _, v := range unfitValues() {
		for _, name := range []string{"A", "X", "INPUT", "OUTPUT", ""} {
			checkWritten(t, fmt.Sprintf("%s = %.40q", name, fmt.Sprint(v)), m, name, v, ended(impl.ErrInvalid))
		}
	}
}

func TestPatternEnv(t *testing.T) {
	s := varsOf(
		binding("A", integerOf(-5)), binding("B", stringOf("x\"y")), binding("C", patternOf("cat(len(1),arbno(alt(rem,defer(A))))")), binding("D", arrayRef(1)), binding("E", tableRef(9)),
		binding("F", recordRef(1)), binding("G", nameOf("A")), binding("H", deferOf("H")), binding("I", patternOf("none")), binding("J", patternOf("len(201)")), binding("REM", stringOf("z")),
	)
	got := impl.PatternEnv(s)
	want := []string{`A "-5"`, `B "x""y"`, "C cat(len(1),arbno(alt(rem,defer(A))))", "H defer(H)", `REM "z"`}
	var texts []string
	for _, x := range got {
		texts = append(texts, x.Name+" "+impl.PatternText(x.Pattern))
	}
	checkList(t, "patterns", texts, want)
	checkEqual(t, "an environment", impl.ValidEnv(got), true)
	full := impl.PatternEnv(fullScope())
	checkEqual(t, "as many as possible", impl.ValidEnv(full) && len(full) == 40, true)
	checkEqual(t, "no variables", len(impl.PatternEnv(impl.Scope{})), 0)
	for _, c := range validScopes() {
		checkEqual(t, c.what, fmt.Sprint(impl.PatternEnv(c.s)), fmt.Sprint(modelPatternEnv(c.s)))
	}
	for _, c := range invalidScopes() {
		checkEqual(t, c.what, impl.PatternEnv(c.s) == nil, true)
	}
}

func TestNameOfValue(t *testing.T) {
	for _, c := range []struct {
		v    impl.Value
		name string
		ok   bool
	}{
		{nameOf("A"), "A", true}, {nameOf("abcdefghijkl"), "abcdefghijkl", true}, {stringOf("A"), "A", true}, {stringOf("INPUT"), "INPUT", true}, {stringOf("a_1"), "a_1", true}, {stringOf("ABCDEFGHIJKL"), "ABCDEFGHIJKL", true},
		{v: stringOf("")}, {v: stringOf("1")}, {v: stringOf("A B")}, {v: stringOf(" A")}, {v: stringOf("ABCDEFGHIJKLM")}, {v: stringOf("\xff")}, {v: integerOf(1)}, {v: patternOf("A")}, {v: patternOf("rem")}, {v: deferOf("A")}, {v: arrayRef(1)}, {v: tableRef(1)}, {v: recordRef(1)},
		{v: nameOf("")}, {v: nameOf("1")}, {v: impl.Value{Kind: impl.VkName, Text: "A", Num: 1}}, {v: impl.Value{Kind: impl.VkName, Text: "A", Ref: 1}}, {v: impl.Value{Kind: impl.VkString, Text: "A", Num: 1}}, {v: impl.Value{Kind: impl.VkString, Text: "A", Ref: 1}}, {v: impl.Value{Text: "A"}}, {v: impl.Value{Kind: 9, Text: "A"}},
	} {
		name, ok := impl.NameOfValue(c.v)
		checkEqual(t, fmt.Sprintf("%.40q", fmt.Sprint(c.v)), name, c.name)
		checkEqual(t, fmt.Sprintf("%.40q", fmt.Sprint(c.v)), ok, c.ok)
	}
	for _, v := range invalidValues() {
		name, ok := impl.NameOfValue(v)
		checkEqual(t, fmt.Sprintf("%.40q", fmt.Sprint(v)), name == "" && !ok, true)
	}
}

// operatorValues are values of all kinds, and some that are at a limit, cannot be converted or are invalid.
func operatorValues() []impl.Value {
	large := "alt(" + strings.Repeat(`cat("x",`, 28) + `"y"` + strings.Repeat(")", 28) + ",rem)"
	list := valuesOf("", "a", "12", "-3", " 1", 0, 7, -1000000000000, 1000000000000, 999999999999, strings.Repeat("x", 100), strings.Repeat("y", 101), strings.Repeat(`"`, 200),
		patternOf("rem"), patternOf(`"a"`), patternOf("now(arb,X)"), patternOf("none"), patternOf(large), patternOf("any("+strings.Repeat("x", 1195)+")"), arrayRef(1), tableRef(2), recordRef(77), nameOf("A"), nameOf("X"), deferOf("A"))
	return append(list, invalidValues()...)
}

func TestApplyBinaryAgainstModel(t *testing.T) {
	codes := map[int64]int{}
	for _, a := range operatorValues() {
		for _, b := range operatorValues() {
			for _, kind := range []int64{math.MinInt64, -1, 0, 1, 2, 3, 4, 5, 6, 7, 8, 9, 10, 11, 12, 13, 14, 15, 18, 19, 1<<32 + 6, math.MaxInt64} {
				v, code := impl.ApplyBinary(kind, a, b)
				want, wantCode := modelOperator(kind, a, b)
				codes[code]++
				if v != want || code != wantCode {
					t.Errorf("%d of %.40q and %.40q: got %.100q and %d, want %.100q and %d", kind, fmt.Sprint(a), fmt.Sprint(b), fmt.Sprint(v), code, fmt.Sprint(want), wantCode)
				}
			}
		}
	}
	for _, code := range []int64{impl.OK, impl.ErrInvalid, impl.ErrType, impl.ErrFull, impl.ErrRange, impl.ErrDivision} {
		if codes[code] < 15 {
			t.Errorf("only %d times the code %d", codes[code], code)
		}
	}
}

func TestApplyBinary(t *testing.T) {
	bad, array := patternOf("none"), arrayRef(1)
	for _, c := range []struct {
		kind       int64
		a, b, want impl.Value
		code       int64
	}{
		{impl.ExAlt, integerOf(1), deferOf("X"), patternOf(`alt("1",defer(X))`), impl.OK},
		{impl.ExAlt, stringOf(""), stringOf(""), patternOf(`alt("","")`), impl.OK},
		{impl.ExAlt, patternOf("alt(rem,arb)"), stringOf("x"), patternOf(`alt(alt(rem,arb),"x")`), impl.OK},
		{impl.ExAlt, nameOf("A"), bad, impl.Value{}, impl.ErrType},
		{impl.ExAlt, bad, nameOf("A"), impl.Value{}, impl.ErrInvalid},
		{impl.ExAlt, stringOf("a"), bad, impl.Value{}, impl.ErrInvalid},
		{impl.ExAlt, stringOf(""), array, impl.Value{}, impl.ErrType},
		{impl.ExCat, stringOf(""), array, array, impl.OK},
		{impl.ExCat, array, stringOf(""), array, impl.OK},
		{impl.ExCat, stringOf(""), bad, bad, impl.OK},
		{impl.ExCat, stringOf(""), stringOf(""), stringOf(""), impl.OK},
		{impl.ExCat, integerOf(1), stringOf(""), integerOf(1), impl.OK},
		{impl.ExCat, stringOf(""), integerOf(1), integerOf(1), impl.OK},
		{impl.ExCat, integerOf(1), integerOf(-2), stringOf("1-2"), impl.OK},
		{impl.ExCat, stringOf("a"), patternOf("rem"), patternOf(`cat("a",rem)`), impl.OK},
		{impl.ExCat, deferOf("X"), integerOf(3), patternOf(`cat(defer(X),"3")`), impl.OK},
		{impl.ExCat, array, bad, impl.Value{}, impl.ErrType},
		{impl.ExCat, bad, array, impl.Value{}, impl.ErrInvalid},
		{impl.ExCat, stringOf("x"), array, impl.Value{}, impl.ErrType},
		{impl.ExCat, nameOf("A"), stringOf("x"), impl.Value{}, impl.ErrType},
		{impl.ExCat, stringOf(strings.Repeat("x", 199)), integerOf(1), stringOf(strings.Repeat("x", 199) + "1"), impl.OK},
		{impl.ExCat, stringOf(strings.Repeat("x", 199)), integerOf(11), impl.Value{}, impl.ErrFull},
		{impl.ExAdd, stringOf("2"), stringOf(""), integerOf(2), impl.OK},
		{impl.ExSub, integerOf(2), integerOf(5), integerOf(-3), impl.OK},
		{impl.ExMul, integerOf(-1000000), integerOf(1000000), integerOf(-1000000000000), impl.OK},
		{impl.ExDiv, integerOf(-7), integerOf(2), integerOf(-3), impl.OK},
		{impl.ExDiv, integerOf(1), stringOf("x"), impl.Value{}, impl.ErrType},
		{impl.ExDiv, array, integerOf(0), impl.Value{}, impl.ErrType},
		{impl.ExDiv, integerOf(1), stringOf(""), impl.Value{}, impl.ErrDivision},
		{impl.ExAdd, integerOf(1000000000000), integerOf(1), impl.Value{}, impl.ErrRange},
		{impl.ExAdd, bad, integerOf(1), impl.Value{}, impl.ErrType},
		{impl.ExCond, stringOf("a"), nameOf("A"), impl.Value{}, impl.ErrInvalid},
	} {
		v, code := impl.ApplyBinary(c.kind, c.a, c.b)
		what := fmt.Sprintf("%d of %.40q and %.40q", c.kind, fmt.Sprint(c.a), fmt.Sprint(c.b))
		checkEqual(t, what, v, c.want)
		checkEqual(t, what, code, c.code)
	}
}

// chainText returns the text of a pattern with the given odd number of nodes.
func chainText(nodes int) string {
	return strings.Repeat(`cat("",`, nodes/2) + `""` + strings.Repeat(")", nodes/2)
}

func TestPatternLimits(t *testing.T) {
	most, more := "cat("+chainText(57)+`,"")`, chainText(59)
	for _, kind := range []int64{impl.ExAlt, impl.ExCat} {
		v, code := impl.ApplyBinary(kind, patternOf(chainText(57)), patternOf("arbno(rem)"))
		checkEqual(t, "60 nodes", v.Kind == impl.VkPattern && code == impl.OK, true)
		v, code = impl.ApplyBinary(kind, patternOf(more), patternOf("rem"))
		checkEqual(t, "61 nodes", v == impl.Value{} && code == impl.ErrFull, true)
		v, code = impl.ApplyBinary(kind, patternOf("rem"), patternOf(more))
		checkEqual(t, "61 nodes", v == impl.Value{} && code == impl.ErrFull, true)
	}
	for _, c := range []struct {
		p    string
		code int64
	}{{more, impl.OK}, {"arbno(" + more + ")", impl.ErrFull}, {most, impl.OK}} {
		m := impl.Memory{Scope: varsOf(binding("P", patternOf(c.p)))}
		for s, word := range map[string]string{"P . X": "cond", "P $ X": "now"} {
			want := valued(m, patternOf(word+"("+c.p+",X)"), true, impl.OK)
			if c.code != impl.OK {
				want = ended(c.code)
			}
			checkEval(t, s, valued(impl.Evaluate(m, parsedExpr(t, s))), want)
		}
	}
	quotes := `"` + strings.Repeat(`""`, 200) + `"`
	pair := patternOf("cat(" + quotes + "," + quotes + ")")
	for _, c := range []struct {
		text string
		code int64
	}{{strings.Repeat(`"`, 190) + "xx", impl.OK}, {strings.Repeat(`"`, 190) + "xxx", impl.ErrFull}} {
		for kind, word := range map[int64]string{impl.ExAlt: "alt", impl.ExCat: "cat"} {
			for _, b := range []impl.Value{stringOf(c.text), patternOf(`"` + strings.ReplaceAll(c.text, `"`, `""`) + `"`)} {
				v, code := impl.ApplyBinary(kind, pair, b)
				checkEqual(t, word+" of long texts", code, c.code)
				checkEqual(t, word+" of long texts", len(v.Text), map[int64]int{impl.OK: 1200}[c.code])
			}
		}
		for s, around := range map[string]int{"P . X": len("cond(,X)"), "P $ X": len("now(,X)")} {
			p, _ := impl.ApplyBinary(impl.ExAlt, pair, stringOf(c.text[around:]+strings.Repeat("x", around)))
			m := impl.Memory{Scope: varsOf(binding("P", p))}
			_, v, succeeds, code := impl.Evaluate(m, parsedExpr(t, s))
			checkEqual(t, s+" of a long text", code, c.code)
			checkEqual(t, s+" of a long text", len(v.Text), map[int64]int{impl.OK: 1200}[c.code])
			checkEqual(t, s+" of a long text", succeeds, c.code == impl.OK)
		}
	}
}

// argumentLists are lists of arguments that fit the example, of different lengths.
func argumentLists() [][]impl.Value {
	lists := [][]impl.Value{nil, valuesOf("F(X)", "L"), valuesOf("NODE(X)", "", ""), valuesOf(arrayRef(1), integerOf(2)), valuesOf(recordRef(4), "x"), slices.Repeat(valuesOf("x"), 7), slices.Repeat(valuesOf(1), 1000), valuesOf("B", "R"), valuesOf("B", "W"), valuesOf("C", "A"), valuesOf("a", "line"), valuesOf("A"), valuesOf("B")}
	for _, v := range valuesOf("", "x", 3, "NEW(X,Y)Z", "R(A,B)", patternOf("rem"), patternOf("none"), arrayRef(1), tableRef(2), recordRef(4), nameOf("A"), deferOf("A")) {
		lists = append(lists, []impl.Value{v}, []impl.Value{v, integerOf(1), v}[:2+len(lists)%2])
	}
	return lists
}

// TestApplyNamedAgainstModel calls functions of all sorts, with as many arguments as they need, with less and with more.
func TestApplyNamedAgainstModel(t *testing.T) {
	t.Parallel()
	both := impl.Scope{
		Functions: []impl.Function{function("A", "A", []string{"X"}, nil), function("C", "C", nil, nil), function("DATA", "L", nil, nil)},
		Types:     []impl.RecordType{recordType("A", "B", "A"), recordType("B", "C", "SIZE"), recordType("DEFINE", "X"), recordType("SIZE", "LEN"), recordType("TABLE", "DEFINE", "EQ", "NODE")},
	}
	memories := append(validMemories()[:5], namedMemory{"names of all sorts", impl.Memory{Heap: exampleHeap(), Scope: both}}, namedMemory{"a full heap", impl.Memory{Heap: fullHeap(), Scope: impl.Scope{Functions: exampleScope().Functions, Types: exampleScope().Types}}})
	names := append(sortedBuiltins(), "DEFINE", "DATA", "A", "B", "C", "F", "G", "NODE", "LEFT", "RIGHT", "X", "x", "NONE", "define", "REM", "INPUT", "N000", "N005", "OUTPUT")
	codes := map[int64]int{}
	for _, c := range memories {
		for _, name := range append(names, noNames()...) {
			for _, args := range argumentLists() {
				if !impl.ValidRoots(c.m.Heap, args) {
					continue
				}
				got := valued(impl.ApplyNamed(c.m, name, args))
				codes[got.code]++
				checkEval(t, fmt.Sprintf("%s: %.20q of %.60q", c.what, name, fmt.Sprint(args)), got, modelApply(c.m, name, args))
			}
		}
	}
	for _, code := range []int64{impl.OK, impl.ErrInvalid, impl.ErrSyntax, impl.ErrRange, impl.ErrType, impl.ErrUndefined, impl.ErrFull, impl.ErrState, impl.ErrNotFound} {
		if codes[code] < 3 {
			t.Errorf("only %d times the code %d", codes[code], code)
		}
	}
}

// TestApplyNamedInOrder calls a name that is everything at once, and then has one meaning after the other less.
func TestApplyNamedInOrder(t *testing.T) {
	one := integerOf(1)
	for _, name := range []string{"DEFINE", "DATA", "SIZE", "OTHER"} {
		m := exampleMemory()
		m.Scope.Functions = []impl.Function{function(name, "L", []string{"X"}, nil)}
		m.Scope.Types = []impl.RecordType{recordType(name, "A", "B"), recordType("Z"+name[:1], "A", name)}
		for count := range 4 {
			checkEval(t, "a function "+name, valued(impl.ApplyNamed(m, name, slices.Repeat([]impl.Value{one}, count))), ended(impl.ErrState))
		}
		m.Scope.Functions = nil
		if name == "DEFINE" || name == "DATA" {
			continue
		}
		h, r, _ := impl.NewRecord(m.Heap, name, []string{"A", "B"}, []impl.Value{one})
		want := m
		want.Heap = h
		checkEval(t, "a type "+name, valued(impl.ApplyNamed(m, name, []impl.Value{one})), valued(want, r, true, impl.OK))
		checkEval(t, "a type "+name, valued(impl.ApplyNamed(m, name, []impl.Value{one, one, one})), ended(impl.ErrRange))
		m.Scope.Types = m.Scope.Types[1:]
		h, r, _ = impl.NewRecord(m.Heap, "T", []string{name, "B"}, []impl.Value{stringOf("found")})
		m.Heap = h
		checkEval(t, "a field "+name, valued(impl.ApplyNamed(m, name, []impl.Value{r})), valued(m, stringOf("found"), true, impl.OK))
		checkEval(t, "a field "+name, valued(impl.ApplyNamed(m, name, nil)), ended(impl.ErrRange))
		checkEval(t, "a field "+name, valued(impl.ApplyNamed(m, name, []impl.Value{r, one})), ended(impl.ErrRange))
		checkEval(t, "a field "+name, valued(impl.ApplyNamed(m, name, []impl.Value{one})), ended(impl.ErrType))
		checkEval(t, "a field "+name, valued(impl.ApplyNamed(m, name, []impl.Value{recordRef(4)})), ended(impl.ErrNotFound))
		m.Scope.Types = nil
		if name == "SIZE" {
			checkEval(t, "SIZE", valued(impl.ApplyNamed(m, name, valuesOf("abc"))), valued(m, integerOf(3), true, impl.OK))
			checkEval(t, "SIZE", valued(impl.ApplyNamed(m, name, valuesOf("abc", 1))), ended(impl.ErrRange))
		} else {
			checkEval(t, name, valued(impl.ApplyNamed(m, name, valuesOf("abc"))), ended(impl.ErrUndefined))
		}
	}
}

func TestApplyDefinitions(t *testing.T) {
	m := exampleMemory()
	null, array, long := stringOf(""), arrayRef(1), stringOf(strings.Repeat("x", 200))
	defined := func(prototype, label string) evalResult {
		want := m
		want.Scope = modelDefineFunction(m.Scope, prototype, label).s
		return valued(want, null, true, impl.OK)
	}
	types := func(prototype string) evalResult {
		want := m
		want.Scope = modelDefineType(m.Scope, prototype).s
		return valued(want, null, true, impl.OK)
	}
	for _, c := range []struct {
		name string
		args []impl.Value
		want evalResult
	}{
		{"DEFINE", valuesOf("H(X)Y"), defined("H(X)Y", "")}, {"DEFINE", valuesOf("H(X)", ""), defined("H(X)", "")}, {"DEFINE", valuesOf("H(X)", "LABEL"), defined("H(X)", "LABEL")}, {"DEFINE", valuesOf("F()"), defined("F()", "")},
		{"DEFINE", nil, ended(impl.ErrRange)}, {"DEFINE", valuesOf("H(X)", "L", ""), ended(impl.ErrRange)}, {"DEFINE", valuesOf(array, array, array), ended(impl.ErrRange)},
		{"DEFINE", valuesOf(array), ended(impl.ErrType)}, {"DEFINE", valuesOf("H(X)", array), ended(impl.ErrType)}, {"DEFINE", valuesOf(array, "1"), ended(impl.ErrType)}, {"DEFINE", valuesOf("H(", nameOf("L")), ended(impl.ErrType)}, {"DEFINE", valuesOf(patternOf("rem")), ended(impl.ErrType)}, {"DEFINE", valuesOf(deferOf("F")), ended(impl.ErrType)},
		{"DEFINE", valuesOf("H(", 1), ended(impl.ErrInvalid)}, {"DEFINE", valuesOf("H(X)", "a b"), ended(impl.ErrInvalid)}, {"DEFINE", valuesOf("", ""), ended(impl.ErrSyntax)}, {"DEFINE", valuesOf("H(X)X"), ended(impl.ErrSyntax)}, {"DEFINE", valuesOf(5), ended(impl.ErrSyntax)}, {"DEFINE", []impl.Value{long}, ended(impl.ErrSyntax)}, {"DEFINE", []impl.Value{long, long}, ended(impl.ErrInvalid)},
		{"DATA", valuesOf("PAIR(LEFT,RIGHT)"), types("PAIR(LEFT,RIGHT)")}, {"DATA", valuesOf("NODE(A)"), types("NODE(A)")}, {"DATA", nil, ended(impl.ErrRange)}, {"DATA", valuesOf("R(A)", ""), ended(impl.ErrRange)}, {"DATA", valuesOf(array, array), ended(impl.ErrRange)},
		{"DATA", valuesOf(array), ended(impl.ErrType)}, {"DATA", valuesOf(nameOf("R")), ended(impl.ErrType)}, {"DATA", valuesOf(""), ended(impl.ErrSyntax)}, {"DATA", valuesOf("R()"), ended(impl.ErrSyntax)}, {"DATA", valuesOf("R(A)B"), ended(impl.ErrSyntax)}, {"DATA", valuesOf(1), ended(impl.ErrSyntax)},
	} {
		checkEval(t, fmt.Sprintf("%s of %.60q", c.name, fmt.Sprint(c.args)), valued(impl.ApplyNamed(m, c.name, c.args)), c.want)
	}
	full := impl.Memory{Scope: fullScope()}
	checkEval(t, "a function more", valued(impl.ApplyNamed(full, "DEFINE", valuesOf("F(X)"))), ended(impl.ErrFull))
	checkEval(t, "a type more", valued(impl.ApplyNamed(full, "DATA", valuesOf("R(X)"))), ended(impl.ErrFull))
	for _, name := range []string{"DEFINE", "DATA", "SIZE", "NODE", "LEFT", "NONE", "F"} {
		for _, v := range unfitValues() {
			for _, args := range [][]impl.Value{{v}, {stringOf("R(A)"), v}, {v, null, null, null}} {
				checkEval(t, fmt.Sprintf("%s of %.40q", name, fmt.Sprint(v)), valued(impl.ApplyNamed(m, name, args)), ended(impl.ErrInvalid))
			}
		}
		checkEval(t, name+" with many arguments", valued(impl.ApplyNamed(m, name, make([]impl.Value, 300000))), ended(impl.ErrInvalid))
	}
	for _, name := range noNames() {
		checkEval(t, fmt.Sprintf("%.20q", name), valued(impl.ApplyNamed(m, name, nil)), ended(impl.ErrInvalid))
	}
}

// TestApplyFileFunctions calls the functions on files, which only change the console of a memory.
func TestApplyFileFunctions(t *testing.T) {
	m := exampleMemory()
	with := func(f impl.File, v impl.Value) evalResult {
		want := m
		want.Console = withFiles(m.Console, changedFile(m.Console, f))
		return valued(want, v, true, impl.OK)
	}
	null := stringOf("")
	for _, c := range []struct {
		name string
		args []impl.Value
		want evalResult
	}{
		{"OPEN", valuesOf("B", "R"), with(fileIn("B", 1, 0, "closed"), null)}, {"OPEN", valuesOf("B", "W"), with(fileIn("B", 2, 0), null)}, {"OPEN", valuesOf("C", "A"), with(fileIn("C", 3, 0), null)}, {"OPEN", valuesOf("C", "R"), ended(impl.ErrNotFound)}, {"OPEN", valuesOf("A", "R"), ended(impl.ErrState)}, {"OPEN", valuesOf("B"), ended(impl.ErrRange)},
		{"GET", valuesOf("A"), with(fileIn("A", 1, 2, "a", "b"), stringOf("b"))}, {"GET", valuesOf("B"), ended(impl.ErrState)}, {"GET", nil, ended(impl.ErrInvalid)}, {"GET", valuesOf(arrayRef(1)), ended(impl.ErrType)},
		{"PUT", valuesOf("a", 5), with(fileIn("a", 2, 0, "", "", "", "5"), null)}, {"PUT", valuesOf("a"), with(fileIn("a", 2, 0, "", "", "", ""), null)}, {"PUT", valuesOf("A", 5), ended(impl.ErrState)}, {"PUT", valuesOf("a", tableRef(2)), ended(impl.ErrType)},
		{"CLOSE", valuesOf("A"), with(fileIn("A", 0, 0, "a", "b"), null)}, {"REWIND", valuesOf("A"), with(fileIn("A", 1, 0, "a", "b"), null)}, {"REWIND", valuesOf("C"), ended(impl.ErrNotFound)}, {"ERASE", valuesOf("A"), ended(impl.ErrState)},
	} {
		checkEval(t, fmt.Sprintf("%s of %.60q", c.name, fmt.Sprint(c.args)), valued(impl.ApplyNamed(m, c.name, c.args)), c.want)
	}
	end := with(fileIn("A", 1, 2, "a", "b"), null).m
	checkEval(t, "GET at the end", valued(impl.ApplyNamed(end, "GET", valuesOf("A"))), fails(end))
	for _, name := range sortedBuiltins(ofFiles) {
		many := slices.Repeat(valuesOf("x"), len(builtinRows[name].params)+1)
		checkEval(t, name, valued(impl.ApplyNamed(m, name, many)), ended(impl.ErrRange))
		checkEval(t, name, valued(impl.ApplyNamed(m, name, []impl.Value{{}})), ended(impl.ErrInvalid))
		checkEval(t, name, valued(impl.ApplyNamed(invalidMemories()[0].m, name, nil)), ended(impl.ErrInvalid))
		defined := m
		defined.Scope = modelDefineFunction(m.Scope, name+"(X)", "").s
		checkEval(t, name+" as another function", valued(impl.ApplyNamed(defined, name, goodArguments(name))), ended(impl.ErrState))
		defined.Scope = typesOf(recordType(name, "X", "Y"))
		checkEval(t, name+" as a type", valued(impl.ApplyNamed(defined, name, valuesOf(1, 2, 3))), ended(impl.ErrRange))
		defined.Scope = typesOf(recordType("R", name))
		checkEval(t, name+" as a field", valued(impl.ApplyNamed(defined, name, valuesOf("A"))), ended(impl.ErrType))
	}
}

// describedFiles describes the files of a console that another one does not
// have: their names, modes, numbers of lines that have been read, and lines.
func describedFiles(c, other impl.Console) string {
	var list []string
	for _, f := range c.Files {
		if !slices.ContainsFunc(other.Files, func(g impl.File) bool { return equalFiles(f, g) }) {
			list = append(list, fmt.Sprintf("%s %d %d %s", f.Name, f.Mode, f.At, strings.Join(f.Lines, "-")))
		}
	}
	return strings.Join(list, ", ")
}

// TestEvaluateFileFunctions has expressions whose calls change files from left to right.
func TestEvaluateFileFunctions(t *testing.T) {
	m := exampleMemory()
	for _, c := range []struct {
		text  string
		files string
		value any
	}{
		{"GET('A')", "A 1 2 a-b", "b"},
		{"REWIND('A') GET('A') GET('A')", "A 1 2 a-b", "ab"},
		{"REWIND('A') GET('A') REWIND('A') GET('A') CLOSE('A')", "A 0 0 a-b", "aa"},
		{"GET('A') REWIND('A') GET('A')", "", "ba"},
		{"GET('A') GET('A')", "A 1 2 a-b", nil},
		{"GET('A') GET('A') PUT('a','x')", "A 1 2 a-b", nil},
		{"OPEN('B','R') GET('B')", "B 1 1 closed", "closed"},
		{"OPEN('B','A') PUT('B',GET('A')) CLOSE('B') OPEN('B','R') GET('B') GET('B')", "A 1 2 a-b, B 1 2 closed-b", "closedb"},
		{"OPEN('B','W') PUT('B','x') CLOSE('B') OPEN('B','R') GET('B')", "B 1 1 x", "x"},
		{"OPEN('N','W') PUT('N',1 + 1) CLOSE('N') OPEN('N','R') (GET('N') + 1)", "N 1 1 2", 3},
		{"ERASE('B') OPEN('B','A') 'x'", "B 3 0 ", "x"},
		{"CLOSE('A') OPEN('A','R') GET('A')", "", "a"},
		{"CLOSE('A') OPEN('A','W') 'x'", "A 2 0 ", "x"},
		{"PUT('a','new') PUT('b_1',7) PUT('b_1')", "a 2 0 ---new, b_1 3 0 7-", ""},
		{"OPEN('A','R')", "", fault(impl.ErrState)},
		{"CLOSE('A') CLOSE('A')", "", fault(impl.ErrState)},
		{"PUT('A','x')", "", fault(impl.ErrState)},
		{"GET('a')", "", fault(impl.ErrState)},
		{"ERASE('a')", "", fault(impl.ErrState)},
		{"CLOSE('a') ERASE('a') REWIND('a')", "", fault(impl.ErrNotFound)},
		{"OPEN('N') GET('N')", "", fault(impl.ErrRange)},
		{"OPEN(.B,'R')", "", fault(impl.ErrType)},
		{"GET('A','')", "", fault(impl.ErrRange)},
		{"GET()", "", fault(impl.ErrInvalid)},
	} {
		e := parsedExpr(t, c.text)
		got := valued(impl.Evaluate(m, e))
		checkEval(t, c.text, got, modelEvaluate(m, e))
		want := fails(got.m)
		switch x := c.value.(type) {
		case fault:
			want = ended(int64(x))
		case string, int:
			want = valued(got.m, valuesOf(x)[0], true, impl.OK)
		}
		checkEval(t, c.text, got, want)
		checkEqual(t, c.text+": files", describedFiles(got.m.Console, m.Console), c.files)
	}
	_, target, succeeds, code := impl.EvalTarget(m, parsedExpr(t, "$GET('A')"))
	checkEqual(t, "a target", target, impl.Target{Kind: impl.TgVariable, Name: "b"})
	checkEqual(t, "a target", judged{succeeds, code}, judged{true, impl.OK})
}

func TestApplyFullHeap(t *testing.T) {
	for what, h := range map[string]impl.Heap{"all numbers are used": fullHeap(), "as many objects as possible": heapWith(50, arraysTo(40)...)} {
		m := impl.Memory{Heap: h, Scope: impl.Scope{Vars: []impl.Binding{binding("A", referenceTo(h.Objects[0]))}, Types: []impl.RecordType{recordType("R", "X")}}}
		for _, s := range []string{"R()", "ARRAY(3)", "TABLE()", "COPY(A)"} {
			checkEval(t, what+": "+s, valued(impl.Evaluate(m, parsedExpr(t, s))), ended(impl.ErrFull))
		}
	}
	m := impl.Memory{Heap: heapWith(999999, arraysTo(39)...), Scope: typesOf(recordType("R", "X"))}
	for _, s := range []string{"R()", "ARRAY(3)", "TABLE()", "COPY(R())"} {
		_, v, succeeds, code := impl.Evaluate(m, parsedExpr(t, s))
		if s == "COPY(R())" {
			checkEqual(t, "an object more", code, impl.ErrFull)
			continue
		}
		checkEqual(t, "the last object", v.Ref == 1000000 && succeeds && code == impl.OK, true)
	}
}

// evaluationRow is an expression, what it has read of the input, and its result: a value, a failure or an error.
type evaluationRow struct {
	text string
	read int64
	want any
}

// failing is the result of an evaluation that fails.
const failing = "fails"

func TestEvaluate(t *testing.T) {
	m := exampleMemory()
	m.Scope = modelAssign(varsOf(), binding("A", integerOf(5)), binding("S", stringOf("text")), binding("P", patternOf("len(1)")), binding("L", arrayRef(1)), binding("T", tableRef(2)), binding("R", recordRef(4)), binding("E", arrayRef(8)), binding("N", nameOf("S")), binding("D", deferOf("P")), binding("I", stringOf("INPUT")), binding("BAD", patternOf("bad"))).s
	m.Scope.Functions = []impl.Function{function("F", "L", []string{"X"}, nil)}
	m.Scope.Types = []impl.RecordType{recordType("NODE", "A", "B", "C"), recordType("ZZ", "W")}
	m.Console = impl.Console{Input: []string{"one", "2", "S"}}
	for _, row := range []evaluationRow{
		{"''", 0, stringOf("")}, {"'it'", 0, stringOf("it")}, {"0", 0, integerOf(0)}, {"1000000000000", 0, integerOf(1000000000000)},
		{"A", 0, integerOf(5)}, {"X", 0, stringOf("")}, {"REM", 0, patternOf("rem")}, {"INPUT", 1, stringOf("one")}, {"OUTPUT", 0, stringOf("")}, {"BAD", 0, patternOf("bad")},
		{".S", 0, nameOf("S")}, {".INPUT", 0, nameOf("INPUT")}, {"*S", 0, deferOf("S")}, {"@S", 0, patternOf("cursor(S)")}, {"@OUTPUT", 0, patternOf("cursor(OUTPUT)")},
		{"-A", 0, integerOf(-5)}, {"-''", 0, integerOf(0)}, {"-'+7'", 0, integerOf(-7)}, {"-S", 0, int64(impl.ErrType)}, {"-P", 0, int64(impl.ErrType)}, {"-(INPUT INPUT INPUT INPUT)", 3, failing}, {"--A", 0, integerOf(5)},
		{"$'A'", 0, integerOf(5)}, {"$.S", 0, stringOf("text")}, {"$N", 0, stringOf("text")}, {"$'REM'", 0, patternOf("rem")}, {"$'NONE'", 0, stringOf("")}, {"$I", 1, stringOf("one")}, {"$$'N'", 0, stringOf("text")}, {"$(INPUT INPUT INPUT)", 3, stringOf("")}, {"$''", 0, int64(impl.ErrType)}, {"$A", 0, int64(impl.ErrType)}, {"$'a b'", 0, int64(impl.ErrType)}, {"$P", 0, int64(impl.ErrType)}, {"$D", 0, int64(impl.ErrType)}, {"$L", 0, int64(impl.ErrType)}, {"$INPUT", 1, stringOf("")},
		{"A . X", 0, patternOf(`cond("5",X)`)}, {"A $ X", 0, patternOf(`now("5",X)`)}, {"D . INPUT", 0, patternOf("cond(defer(P),INPUT)")}, {"INPUT . INPUT", 1, patternOf(`cond("one",INPUT)`)}, {"INPUT $ X . Y", 1, patternOf(`cond(now("one",X),Y)`)}, {"(1 / 0) . X", 0, int64(impl.ErrDivision)}, {"L<9> $ X", 0, failing}, {"L . X", 0, int64(impl.ErrType)}, {"N $ X", 0, int64(impl.ErrType)}, {"BAD . X", 0, int64(impl.ErrInvalid)},
		{"L<2>", 0, integerOf(5)}, {"L<3>", 0, arrayRef(1)}, {"L<3><2>", 0, integerOf(5)}, {"L<0>", 0, failing}, {"L<5>", 0, failing}, {"L<'2'>", 0, failing}, {"L<L>", 0, failing}, {"E<1>", 0, failing}, {"T<'x'>", 0, recordRef(4)}, {"T<L>", 0, integerOf(1)}, {"T<0>", 0, tableRef(2)}, {"T<P>", 0, tableRef(2)}, {"R<1>", 0, int64(impl.ErrType)}, {"A<1>", 0, int64(impl.ErrType)}, {"INPUT<INPUT>", 2, int64(impl.ErrType)}, {"L<1 / 0>", 0, int64(impl.ErrDivision)}, {"L<L<9>>", 0, failing}, {"L<9><1 / 0>", 0, failing}, {"(1 / 0)<INPUT>", 0, int64(impl.ErrDivision)},
		{"A + 1 'x'", 0, stringOf("6x")}, {"INPUT INPUT INPUT", 3, stringOf("one2S")}, {"INPUT INPUT + 1", 2, stringOf("one3")}, {"INPUT INPUT INPUT INPUT", 3, failing}, {"INPUT INPUT INPUT (1 / 0) INPUT", 3, int64(impl.ErrDivision)}, {"INPUT INPUT INPUT INPUT (1 / 0)", 3, failing}, {"(INPUT | INPUT)", 2, patternOf(`alt("one","2")`)}, {"INPUT + 1", 1, int64(impl.ErrType)}, {"A - -A", 0, integerOf(10)}, {"A * A / 2", 0, integerOf(12)}, {"A / 0", 0, int64(impl.ErrDivision)}, {"EQ(A,4) 1", 0, failing}, {"EQ(A,5) 1", 0, integerOf(1)}, {"EQ(A,4) (1 / 0)", 0, failing}, {"(1 / 0) EQ(A,4)", 0, int64(impl.ErrDivision)}, {"L | (1 / 0)", 0, int64(impl.ErrDivision)}, {"L | L<9>", 0, failing}, {"L A", 0, int64(impl.ErrType)}, {"P A", 0, patternOf(`cat(len(1),"5")`)}, {"P | REM", 0, patternOf("alt(len(1),rem)")},
		{"SIZE(S)", 0, integerOf(4)}, {"SIZE()", 0, integerOf(0)}, {"SIZE(S,S)", 0, int64(impl.ErrRange)}, {"SIZE(L)", 0, int64(impl.ErrType)}, {"REPLACE(INPUT,INPUT,INPUT)", 3, stringOf("one")}, {"SIZE(INPUT,INPUT,INPUT)", 3, int64(impl.ErrRange)}, {"SIZE(INPUT,INPUT,INPUT,INPUT)", 3, failing}, {"DUPL(L<9>,1 / 0)", 0, failing}, {"NONE()", 0, int64(impl.ErrUndefined)}, {"NONE(INPUT)", 1, int64(impl.ErrUndefined)}, {"NONE(L<9>)", 0, failing}, {"F(1)", 0, int64(impl.ErrState)}, {"F()", 0, int64(impl.ErrState)}, {"F(1,2)", 0, int64(impl.ErrState)}, {"F(INPUT)", 1, int64(impl.ErrState)}, {"F(1 / 0)", 0, int64(impl.ErrDivision)}, {"F(L<9>)", 0, failing}, {"A(R)", 0, arrayRef(1)}, {"W(R)", 0, int64(impl.ErrNotFound)}, {"B(R,R)", 0, int64(impl.ErrRange)}, {"B(L)", 0, int64(impl.ErrType)}, {"B()", 0, int64(impl.ErrRange)}, {"KEY(T,9)", 0, failing}, {"ITEM(L,2)", 0, integerOf(5)}, {"DATATYPE(DATATYPE)", 0, stringOf("string")},
	} {
		want := ended(0)
		left := copyMemory(m)
		left.Console.At = row.read
		switch x := row.want.(type) {
		case impl.Value:
			want = valued(left, x, true, impl.OK)
		case string:
			want = fails(left)
		case int64:
			want = ended(x)
		}
		e := parsedExpr(t, row.text)
		checkEval(t, row.text, valued(impl.Evaluate(m, e)), want)
		checkEval(t, row.text+" by the model", modelEvaluate(m, e), want)
	}
}

// TestEvaluateEffects evaluates expressions that change what their other operands mean.
func TestEvaluateEffects(t *testing.T) {
	m := impl.Memory{Scope: varsOf(binding("X", integerOf(2)))}
	for text, want := range map[string]any{
		"DEFINE('F(X)') F(1)":                              int64(impl.ErrState),
		"F(DEFINE('F(X)'))":                                int64(impl.ErrState),
		"DATA('R(A)') A(R(X))":                             integerOf(2),
		"R(DATA('R(A)')) DATATYPE(R(1))":                   int64(impl.ErrType),
		"DATATYPE(R(DATA('R(A)')))":                        stringOf("record"),
		"SIZE(DATA('SIZE(A)'))":                            recordRef(1),
		"DATA('SIZE(LEN)') LEN(SIZE(7))":                   integerOf(7),
		"A(DATA('R(A)') R(X))":                             integerOf(2),
		"DATA('R(A)') DATA('A(B)') DATATYPE(A(X))":         stringOf("record"),
		"DATA('DEFINE(A)') DEFINE('F(X)') DATATYPE(F())":   int64(impl.ErrState),
		"LENGTH(ARRAY(3)) LENGTH(TABLE())":                 stringOf("30"),
		"ITEM(ARRAY(2,TABLE(X)),1)<5>":                     integerOf(2),
		"DATATYPE(ARRAY(1)) EQ(1,2) ARRAY(1)":              failing,
		"DEFINE('G()','SIZE') DEFINE('F(X)') GT(1,2) F(1)": failing,
	} {
		got := valued(impl.Evaluate(m, parsedExpr(t, text)))
		checkEval(t, text, got, modelEvaluate(m, parsedExpr(t, text)))
		switch x := want.(type) {
		case impl.Value:
			checkEqual(t, text, got.v, x)
		case string:
			checkEqual(t, text, !got.succeeds && got.code == impl.OK, true)
		case int64:
			checkEqual(t, text, got.code, x)
		}
	}
}

// invalidExprs are expressions that are invalid in all sorts of ways.
func invalidExprs() []impl.Expr {
	a := variable("A")
	list := []impl.Expr{
		{}, {Kind: 19}, {Kind: -1}, {Kind: math.MinInt64, Kids: []impl.Expr{a}}, {Kind: 1 << 32}, variable("1"), variable(""), number(-1), number(1000000000001), literal("'\""), literal("\n"), literal(strings.Repeat("x", 201)),
		{Kind: impl.ExName, Text: "A", Num: 1}, {Kind: impl.ExName, Text: "A", Kids: []impl.Expr{a}}, {Kind: impl.ExInteger, Text: "1"}, {Kind: impl.ExString, Text: "x", Num: 1},
		node(impl.ExNeg), node(impl.ExNeg, a, a), node(impl.ExIndirect), node(impl.ExIndex, a), node(impl.ExIndex), node(impl.ExIndex, a, a, a), node(impl.ExAdd, a), node(impl.ExCat), node(impl.ExCat, a, a, a), node(impl.ExCond, a), node(impl.ExCond, a, number(1)), node(impl.ExNow, a, call("A")), node(impl.ExCond), node(impl.ExNow, a, impl.Expr{}),
		call("1", a), call("A", slices.Repeat([]impl.Expr{a}, 7)...), call("", a), nested(impl.ExNeg, 60, a), nested(impl.ExNeg, 1000000, a), endlessKids(1), endlessKids(3), sharedKids(200), leaf(impl.ExNameOf, ""), leaf(impl.ExDefer, "1"), leaf(impl.ExCursor, "A B"),
	}
	for _, e := range slices.Clone(list) {
		list = append(list, node(impl.ExNeg, e), node(impl.ExIndirect, e), node(impl.ExIndex, a, e), node(impl.ExCat, e, a), call("F", a, e), call("A", e))
	}
	return list
}

func TestInvalidExpressions(t *testing.T) {
	for _, m := range []impl.Memory{{}, exampleMemory()} {
		for i, e := range invalidExprs() {
			checkEval(t, fmt.Sprint("Evaluate, expression ", i), valued(impl.Evaluate(m, e)), ended(impl.ErrInvalid))
			checkEval(t, fmt.Sprint("EvalTarget, expression ", i), aimed(impl.EvalTarget(m, e)), ended(impl.ErrInvalid))
		}
	}
}

func TestEvalTarget(t *testing.T) {
	m := exampleMemory()
	m.Scope = modelAssign(varsOf(), binding("A", integerOf(5)), binding("S", stringOf("text")), binding("L", arrayRef(1)), binding("R", recordRef(4)), binding("N", nameOf("S"))).s
	m.Scope.Functions = []impl.Function{function("C", "L", []string{"X"}, nil)}
	m.Scope.Types = []impl.RecordType{recordType("NODE", "A", "B", "C"), recordType("ZZ", "W", "SIZE", "ZZ")}
	m.Console = impl.Console{Input: []string{"one", "2", "S"}}
	target := func(kind int64, name string, object, index impl.Value) impl.Target {
		return impl.Target{Kind: kind, Name: name, Object: object, Index: index}
	}
	named := func(name string) impl.Target { return impl.Target{Kind: 1, Name: name} }
	none := impl.Value{}
	for _, row := range []evaluationRow{
		{"A", 0, named("A")}, {"X", 0, named("X")}, {"INPUT", 0, named("INPUT")}, {"OUTPUT", 0, named("OUTPUT")}, {"REM", 0, named("REM")},
		{"$'A'", 0, named("A")}, {"$N", 0, named("S")}, {"$S", 0, named("text")}, {"$INPUT", 1, named("one")}, {"$.INPUT", 0, named("INPUT")}, {"$A", 0, int64(impl.ErrType)}, {"$''", 0, int64(impl.ErrType)}, {"$L", 0, int64(impl.ErrType)}, {"$L<9>", 0, failing}, {"$(1 / 0)", 0, int64(impl.ErrDivision)}, {"$(INPUT 1 INPUT)", 2, named("one12")}, {"$(INPUT INPUT INPUT INPUT)", 3, failing},
		{"L<1>", 0, target(2, "", arrayRef(1), integerOf(1))}, {"L<9>", 0, target(2, "", arrayRef(1), integerOf(9))}, {"A<INPUT>", 1, target(2, "", integerOf(5), stringOf("one"))}, {"INPUT<INPUT>", 2, target(2, "", stringOf("one"), stringOf("2"))}, {"L<9><INPUT>", 0, failing}, {"L<INPUT><INPUT>", 1, failing}, {"L<1 / 0>", 0, int64(impl.ErrDivision)}, {"A<1><2>", 0, int64(impl.ErrType)}, {"L<3><R>", 0, target(2, "", arrayRef(1), recordRef(4))},
		{"A(R)", 0, target(3, "A", recordRef(4), none)}, {"B(A)", 0, target(3, "B", integerOf(5), none)}, {"W(INPUT)", 1, target(3, "W", stringOf("one"), none)}, {"SIZE(S)", 0, target(3, "SIZE", stringOf("text"), none)}, {"ZZ(1)", 0, target(3, "ZZ", integerOf(1), none)}, {"A(A(R))", 0, target(3, "A", arrayRef(1), none)},
		{"A()", 0, int64(impl.ErrType)}, {"A(R,R)", 0, int64(impl.ErrType)}, {"A(INPUT,INPUT)", 0, int64(impl.ErrType)}, {"C(R)", 0, int64(impl.ErrType)}, {"C(1 / 0)", 0, int64(impl.ErrType)}, {"NODE(R)", 0, int64(impl.ErrType)}, {"LEN(R)", 0, int64(impl.ErrType)}, {"NONE(R)", 0, int64(impl.ErrType)}, {"NONE(L<9>)", 0, int64(impl.ErrType)}, {"A(1 / 0)", 0, int64(impl.ErrDivision)}, {"A(L<9>)", 0, failing}, {"A(NONE())", 0, int64(impl.ErrUndefined)}, {"A(C(1))", 0, int64(impl.ErrState)},
		{"A(DEFINE('A(X)'))", 0, nil}, {"D(DATA('NEW(D)'))", 0, int64(impl.ErrType)}, {"A(DATA('NODE(D)'))", 0, nil},
		{"'A'", 0, int64(impl.ErrType)}, {"5", 0, int64(impl.ErrType)}, {"INPUT INPUT", 0, int64(impl.ErrType)}, {"A | L", 0, int64(impl.ErrType)}, {"1 + 2", 0, int64(impl.ErrType)}, {"1 - 2", 0, int64(impl.ErrType)}, {"1 * 2", 0, int64(impl.ErrType)}, {"1 / 0", 0, int64(impl.ErrType)}, {"A . X", 0, int64(impl.ErrType)}, {"A $ X", 0, int64(impl.ErrType)}, {"-A", 0, int64(impl.ErrType)}, {"-INPUT", 0, int64(impl.ErrType)}, {".A", 0, int64(impl.ErrType)}, {"*A", 0, int64(impl.ErrType)}, {"@A", 0, int64(impl.ErrType)},
	} {
		e := parsedExpr(t, row.text)
		want := modelTarget(m, e)
		left := copyMemory(m)
		left.Console.At = row.read
		switch x := row.want.(type) {
		case impl.Target:
			want = aimed(left, x, true, impl.OK)
		case string:
			want = fails(left)
		case int64:
			want = ended(x)
		default:
			checkEqual(t, row.text+" succeeds", want.succeeds, true)
		}
		checkEval(t, row.text, aimed(impl.EvalTarget(m, e)), want)
		checkEval(t, row.text+" by the model", modelTarget(m, e), want)
	}
}

// invalidTargets are targets that are not valid for the example, in all sorts of ways.
func invalidTargets() []impl.Target {
	one := integerOf(1)
	list := []impl.Target{{}, {Kind: 1}, {Kind: 2}, {Kind: 3}, {Kind: 2, Object: arrayRef(1)}, {Kind: 2, Index: one}, {Kind: 3, Name: "A"}, {Kind: 3, Object: recordRef(4)}, {Kind: 1, Name: "A", Object: one}, {Kind: 1, Name: "A", Index: one}, {Kind: 1, Name: "A", Object: one, Index: one}, {Kind: 2, Name: "A", Object: arrayRef(1), Index: one}, {Kind: 3, Name: "A", Object: recordRef(4), Index: one}}
	for _, kind := range []int64{math.MinInt64, -1, 0, 4, 5, 257, 1 << 32, 1<<32 + 1, math.MaxInt64} {
		list = append(list, impl.Target{Kind: kind}, impl.Target{Kind: kind, Name: "A"}, impl.Target{Kind: kind, Object: arrayRef(1), Index: one}, impl.Target{Kind: kind, Name: "A", Object: recordRef(4)})
	}
	for _, name := range noNames() {
		list = append(list, impl.Target{Kind: 1, Name: name}, impl.Target{Kind: 3, Name: name, Object: recordRef(4)})
	}
	for _, v := range unfitValues() {
		list = append(list, impl.Target{Kind: 2, Object: v, Index: one}, impl.Target{Kind: 2, Object: arrayRef(1), Index: v}, impl.Target{Kind: 3, Name: "A", Object: v})
	}
	return list
}

func TestInvalidTargets(t *testing.T) {
	m := exampleMemory()
	for _, target := range invalidTargets() {
		what := fmt.Sprintf("%.80q", fmt.Sprint(target))
		checkEval(t, what, valued(impl.ReadTarget(m, target)), ended(impl.ErrInvalid))
		for _, v := range valuesOf("", 1, arrayRef(1), impl.Value{}) {
			checkEval(t, what, stored(impl.WriteTarget(m, target, v)), ended(impl.ErrInvalid))
		}
	}
	for _, target := range []impl.Target{{Kind: 1, Name: "A"}, {Kind: 1, Name: "INPUT"}, {Kind: 2, Object: arrayRef(1), Index: integerOf(9)}, {Kind: 2, Object: integerOf(1), Index: integerOf(1)}, {Kind: 3, Name: "NONE", Object: recordRef(4)}} {
		for _, v := range unfitValues() {
			checkEval(t, fmt.Sprintf("%+v = %.40q", target, fmt.Sprint(v)), stored(impl.WriteTarget(m, target, v)), ended(impl.ErrInvalid))
		}
	}
}

func TestElementsAndFieldsAsTargets(t *testing.T) {
	m := exampleMemory()
	element := func(object, index impl.Value) impl.Target { return impl.Target{Kind: 2, Object: object, Index: index} }
	field := func(name string, object impl.Value) impl.Target {
		return impl.Target{Kind: 3, Name: name, Object: object}
	}
	for _, c := range []struct {
		target impl.Target
		want   any
	}{
		{element(arrayRef(1), integerOf(1)), recordRef(4)}, {element(arrayRef(1), integerOf(2)), integerOf(5)}, {element(arrayRef(1), integerOf(4)), tableRef(2)}, {element(arrayRef(1), integerOf(5)), failing}, {element(arrayRef(1), integerOf(0)), failing}, {element(arrayRef(1), integerOf(-1000000000000)), failing}, {element(arrayRef(1), integerOf(1000000000000)), failing}, {element(arrayRef(1), stringOf("1")), failing}, {element(arrayRef(1), arrayRef(1)), failing}, {element(arrayRef(8), integerOf(1)), failing}, {element(arrayRef(8), integerOf(0)), failing},
		{element(tableRef(2), stringOf("x")), recordRef(4)}, {element(tableRef(2), arrayRef(1)), integerOf(1)}, {element(tableRef(2), stringOf("")), tableRef(2)}, {element(tableRef(2), tableRef(2)), tableRef(2)},
		{element(recordRef(4), integerOf(1)), int64(impl.ErrType)}, {element(integerOf(1), integerOf(1)), int64(impl.ErrType)}, {element(stringOf("x"), arrayRef(1)), int64(impl.ErrType)}, {element(nameOf("L"), integerOf(1)), int64(impl.ErrType)},
		{field("A", recordRef(4)), arrayRef(1)}, {field("C", recordRef(4)), tableRef(2)}, {field("D", recordRef(4)), int64(impl.ErrNotFound)}, {field("LEFT", recordRef(4)), int64(impl.ErrNotFound)}, {field("A", arrayRef(1)), int64(impl.ErrType)}, {field("A", integerOf(1)), int64(impl.ErrType)}, {field("NONE", stringOf("")), int64(impl.ErrType)},
	} {
		what := fmt.Sprintf("%+v", c.target)
		var read evalResult
		switch x := c.want.(type) {
		case impl.Value:
			read = valued(m, x, true, impl.OK)
		case string:
			read = fails(m)
		case int64:
			read = ended(x)
		}
		checkEval(t, what, valued(impl.ReadTarget(m, c.target)), read)
		for _, v := range valuesOf("", "new", 7, patternOf("rem"), arrayRef(8), tableRef(2), recordRef(4), nameOf("A")) {
			want := stored(read.m, read.succeeds, read.code)
			if read.succeeds {
				want.m.Heap = copyHeap(m.Heap)
				if c.target.Kind == 2 {
					want.m.Heap, _, _ = impl.SetElement(m.Heap, c.target.Object, c.target.Index, v)
				} else {
					want.m.Heap, _ = impl.SetField(m.Heap, c.target.Object, c.target.Name, v)
				}
			}
			got := stored(impl.WriteTarget(m, c.target, v))
			checkEval(t, fmt.Sprint(what, " = ", v), got, want)
			if read.succeeds {
				checkEval(t, fmt.Sprint(what, " after ", v), valued(impl.ReadTarget(got.m, c.target)), valued(got.m, v, true, impl.OK))
			}
		}
	}
}

func TestFullTableAsTarget(t *testing.T) {
	m := impl.Memory{Heap: heapWith(1, tableWith(1, stringOf("none"), pairsTo(30)...))}
	key := m.Heap.Objects[0].Keys[29]
	checkEval(t, "a key more", stored(impl.WriteTarget(m, impl.Target{Kind: 2, Object: tableRef(1), Index: stringOf("new")}, integerOf(1))), ended(impl.ErrFull))
	checkEval(t, "a key more, read", valued(impl.ReadTarget(m, impl.Target{Kind: 2, Object: tableRef(1), Index: stringOf("new")})), valued(m, stringOf("none"), true, impl.OK))
	changed, succeeds, code := impl.WriteTarget(m, impl.Target{Kind: 2, Object: tableRef(1), Index: key}, integerOf(77))
	checkEqual(t, "the last key", succeeds && code == impl.OK, true)
	checkEqual(t, "the last key", changed.Heap.Objects[0].Vals[29], integerOf(77))
}
