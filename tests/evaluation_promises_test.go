package tests

import (
	"fmt"
	"slices"
	"testing"

	"loop.example/g00873/impl"
)

// The tests of this file are promise 25.

// memory returns a random memory with the variables, functions and objects of random programs.
func (s programSource) memory(t *testing.T) impl.Memory {
	t.Helper()
	for {
		p, m := s.program(t)
		x := impl.RunProgram(p, m, 30+s.Int63n(60))
		m = x.Memory
		if s.Intn(3) > 0 {
			m.Scope.Functions = m.Scope.Functions[:s.Intn(2)%(len(m.Scope.Functions)+1)]
		}
		if len(m.Scope.Vars) > 3 {
			return m
		}
	}
}

// expression returns a random expression of any kind.
func (s programSource) expression(t *testing.T) impl.Expr {
	t.Helper()
	for {
		text := s.oneOf(s.numeral(3), s.text(3), s.pattern(2), s.object(), s.target(), s.target(), s.oneOf("L<L<9>>", "HEAD(L<9>)", "$INPUT", "T<EQ(1,2)>"), s.files(), s.oneOf("$("+s.files()+")", "T<"+s.files()+">"), "DEFINE('"+s.oneOf("F", "NEW", "A,B")+"(X,Y)')", "DATA('"+s.oneOf("NODE", "NEW")+"("+s.oneOf("HEAD", "Q,R")+")')")
		if s.Intn(3) == 0 {
			text = "(" + text + ") " + s.oneOf(s.numeral(2), s.object(), s.target())
		}
		if e, ok := impl.ExprOf(text); ok {
			return e
		}
	}
}

// checkKept checks that a memory is valid, and has all objects of another one.
func checkKept(t *testing.T, what string, before, after impl.Memory, areSame bool) {
	t.Helper()
	checkEqual(t, what+": valid", impl.ValidMemory(after) && modelMemory(after), true)
	for _, o := range before.Heap.Objects {
		kept, found := impl.ObjectAt(after.Heap, o.Id)
		checkEqual(t, fmt.Sprint(what, ": the object ", o.Id), found && kept.Kind == o.Kind && kept.Name == o.Name, true)
		if areSame && !equalObjects(kept, o) {
			t.Errorf("%s: the object %d: %+v instead of %+v", what, o.Id, kept, o)
		}
	}
}

// TestEvaluationKeepsObjects is the first part of promise 25, for random expressions, and compares them with the model.
func TestEvaluationKeepsObjects(t *testing.T) {
	t.Parallel()
	s := newProgramSource(211)
	results := map[string]int{}
	created := 0
	for range 320 {
		m := s.memory(t)
		for range 12 {
			e := s.expression(t)
			what := fmt.Sprintf("%s with %.300q", impl.PrintExpr(e), fmt.Sprint(m))
			got := valued(impl.Evaluate(m, e))
			checkEval(t, what, got, modelEvaluate(m, e))
			target := aimed(impl.EvalTarget(m, e))
			checkEval(t, what+", as a target", target, modelTarget(m, e))
			results[fmt.Sprint("value ", got.succeeds, got.code == impl.OK)]++
			results[fmt.Sprint("target ", target.succeeds, target.code == impl.OK)]++
			for _, r := range []evalResult{got, target} {
				if r.code == impl.OK {
					checkKept(t, what, m, r.m, true)
					created += len(r.m.Heap.Objects) - len(m.Heap.Objects)
				}
			}
			if got.succeeds {
				checkEqual(t, what+": the value fits", impl.FitsHeap(got.m.Heap, got.v), true)
			}
		}
		if t.Failed() {
			return
		}
	}
	for _, what := range []string{"value true true", "value false true", "value false false", "target true true", "target false true", "target false false"} {
		if results[what] < 20 {
			t.Errorf("only %d times: %s", results[what], what)
		}
	}
	if created < 150 {
		t.Errorf("only %d objects were created", created)
	}
}

// TestFunctionsKeepObjects is the same for calls.
func TestFunctionsKeepObjects(t *testing.T) {
	t.Parallel()
	s := newProgramSource(212)
	codes := map[int64]int{}
	names := append(sortedBuiltins(), "DEFINE", "DATA", "NODE", "HEAD", "TAIL", "F", "G", "NONE")
	for range 150 {
		m := s.memory(t)
		values := append(impl.ScopeRoots(m.Scope), valuesOf("", "ab", 1, 2, "NEW(A,B)", "IN", "LOG", "R", "A", nameOf("S"), deferOf("P"), patternOf("rem"))...)
		for range 40 {
			name := names[s.Intn(len(names))]
			var args []impl.Value
			for range s.Intn(4) {
				args = append(args, values[s.Intn(len(values))])
			}
			what := fmt.Sprintf("%s of %.200q", name, fmt.Sprint(args))
			got := valued(impl.ApplyNamed(m, name, args))
			checkEval(t, what, got, modelApply(m, name, args))
			codes[got.code]++
			if got.code == impl.OK {
				checkKept(t, what, m, got.m, true)
			}
			if got.succeeds {
				checkEqual(t, what+": the value fits", impl.FitsHeap(got.m.Heap, got.v), true)
			}
		}
	}
	if codes[impl.OK] < 500 || codes[impl.ErrType] < 100 || codes[impl.ErrRange] < 100 {
		t.Errorf("%v codes", codes)
	}
}

// targets returns the targets of a memory: variables, elements and fields.
func (s programSource) targets(m impl.Memory) []impl.Target {
	var list []impl.Target
	for _, name := range []string{"S", "I", "NEW", "REM", "FAIL", "OUTPUT", "INPUT", "TRACE", "INPUTS"} {
		list = append(list, impl.Target{Kind: impl.TgVariable, Name: name})
	}
	for _, o := range m.Heap.Objects {
		v := referenceTo(o)
		for _, index := range append(valuesOf(0, 1, 2, 9, "1", "k"), v) {
			list = append(list, impl.Target{Kind: impl.TgElement, Object: v, Index: index})
		}
		for _, name := range []string{"HEAD", "TAIL", "NONE"} {
			list = append(list, impl.Target{Kind: impl.TgField, Name: name, Object: v})
		}
	}
	return list
}

// TestAssignedValuesAreReadFromTargets is the second part of promise 25.
func TestAssignedValuesAreReadFromTargets(t *testing.T) {
	t.Parallel()
	s := newProgramSource(213)
	kinds := map[int64]int{}
	failed := 0
	for range 50 {
		m := s.memory(t)
		values := append(impl.ScopeRoots(m.Scope), valuesOf("", "ab", 1, nameOf("S"))...)
		for _, target := range s.targets(m) {
			v := values[s.Intn(len(values))]
			what := fmt.Sprintf("%+v = %+v", target, v)
			changed, succeeds, code := impl.WriteTarget(m, target, v)
			if target.Kind == impl.TgVariable {
				checkEval(t, what, written(impl.WriteVariable(m, target.Name, v)), written(changed, code))
			}
			if !succeeds {
				_, _, isRead, readCode := impl.ReadTarget(m, target)
				isFull := code == impl.ErrFull
				checkEqual(t, what+": read", isRead || readCode != code, isFull || target.Name == "OUTPUT" || target.Name == "INPUT")
				checkEval(t, what, stored(changed, succeeds, code), map[bool]evalResult{true: fails(m), false: ended(code)}[code == impl.OK])
				failed++
				continue
			}
			kinds[target.Kind]++
			checkKept(t, what, m, changed, target.Kind == impl.TgVariable)
			isConstant := slices.Contains(constantNames, target.Name)
			if target.Name == "OUTPUT" || isConstant && v == stringOf("") {
				continue
			}
			checkEval(t, what+", read", valued(impl.ReadTarget(changed, target)), valued(changed, v, true, impl.OK))
			for _, other := range s.targets(m)[9:] {
				if other.Kind == target.Kind && (other.Object == target.Object || target.Kind == impl.TgVariable) {
					continue
				}
				if other.Object != target.Object {
					checkEval(t, what+": the others", withoutMemory(impl.ReadTarget(changed, other)), withoutMemory(impl.ReadTarget(m, other)))
				}
			}
		}
		if t.Failed() {
			return
		}
	}
	if kinds[1] < 100 || kinds[2] < 200 || kinds[3] < 50 || failed < 200 {
		t.Errorf("%v targets, %d failed", kinds, failed)
	}
}

// withoutMemory takes the result of an evaluation except for the memory.
func withoutMemory(_ impl.Memory, v impl.Value, succeeds bool, code int64) evalResult {
	return valued(impl.Memory{}, v, succeeds, code)
}
