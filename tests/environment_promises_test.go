package tests

import (
	"fmt"
	"math/rand"
	"slices"
	"strings"
	"testing"

	"loop.example/g00873/impl"
)

// The tests of this file are promise 24.

// allNames are the names with which the tests of this file work: more than a scope can have variables.
func allNames() []string {
	return append(namesTo(43), "A", "Aa", "F", "Z_9", "abcdefghijkl")
}

// scopeSource makes random values and prototypes.
type scopeSource struct {
	*rand.Rand
	names []string
}

func newScopeSource(seed int64) scopeSource {
	return scopeSource{rand.New(rand.NewSource(seed)), allNames()}
}

func (s scopeSource) name() string {
	return s.names[s.Intn(len(s.names))]
}

// value returns a valid value, which is not the null value in most cases.
func (s scopeSource) value() impl.Value {
	return valuesOf("", "x", s.Intn(100), s.Intn(100), patternOf("rem"), arrayRef(1+s.Int63n(5)), tableRef(2), recordRef(3), nameOf(s.name()), deferOf(s.name()))[s.Intn(10)]
}

// different returns up to most different names.
func (s scopeSource) different(most int) []string {
	var list []string
	for range s.Intn(most + 1) {
		if name := s.name(); !slices.Contains(list, name) {
			list = append(list, name)
		}
	}
	return list
}

// scope returns a random valid scope.
func (s scopeSource) scope() impl.Scope {
	made := impl.Scope{}
	for range s.Intn(30) {
		made, _ = impl.Assign(made, s.name(), valuesOf("v", s.Intn(9)+1)[s.Intn(2)])
	}
	for range s.Intn(6) {
		if changed, code := impl.DefineFunction(made, s.name()+"("+strings.Join(s.different(4), ",")+")", ""); code == impl.OK {
			made = changed
		}
		if changed, code := impl.DefineType(made, s.name()+"("+strings.Join(append(s.different(2), "X"), ",")+")"); code == impl.OK {
			made = changed
		}
	}
	return made
}

// checkOthers checks that two scopes are equal but for the variable, the function or the type with a name.
func checkOthers(t *testing.T, what string, names []string, before, after impl.Scope, variable, isFunction, isType string) {
	t.Helper()
	for _, name := range names {
		old, _ := impl.Lookup(before, name)
		v, code := impl.Lookup(after, name)
		if name != variable && (v != old || code != impl.OK) {
			t.Errorf("%s: the variable %s: %+v instead of %+v", what, name, v, old)
		}
		f, g := foundFunction(impl.FunctionOf(before, name)), foundFunction(impl.FunctionOf(after, name))
		if name != isFunction && !equalScopeResults(f, g) {
			t.Errorf("%s: the function %s: %+v instead of %+v", what, name, g.f, f.f)
		}
		f, g = foundType(impl.TypeOf(before, name)), foundType(impl.TypeOf(after, name))
		if name != isType && !equalScopeResults(f, g) {
			t.Errorf("%s: the type %s: %+v instead of %+v", what, name, g.r, f.r)
		}
	}
}

// TestAssignedValuesAreRead is the first part of promise 24, for series of assignments.
func TestAssignedValuesAreRead(t *testing.T) {
	t.Parallel()
	source := newScopeSource(191)
	codes := map[int64]int{}
	for range 25 {
		s := source.scope()
		for range 120 {
			name, v := source.name(), source.value()
			changed, code := impl.Assign(s, name, v)
			codes[code]++
			isNew := !slices.ContainsFunc(s.Vars, func(b impl.Binding) bool { return b.Name == name })
			checkEqual(t, "ErrFull", code == impl.ErrFull, isNew && len(s.Vars) == 40 && v != stringOf(""))
			if code != impl.OK {
				checkScopeResult(t, "an error", changedScope(changed, code), scopeResult{code: impl.ErrFull})
				continue
			}
			what := fmt.Sprintf("%s = %+v", name, v)
			checkEqual(t, what+": valid", impl.ValidScope(changed) && modelScope(changed), true)
			checkScopeResult(t, what, lookedUp(impl.Lookup(changed, name)), scopeResult{v: v})
			checkOthers(t, what, source.names, s, changed, name, "", "")
			s = changed
		}
	}
	if codes[impl.OK] < 2000 || codes[impl.ErrFull] < 50 {
		t.Errorf("%v codes", codes)
	}
}

// TestAssignmentsInAnyOrder checks that the same variables make up the same scope.
func TestAssignmentsInAnyOrder(t *testing.T) {
	source := newScopeSource(192)
	for range 300 {
		want := source.scope()
		got := impl.Scope{Functions: want.Functions, Types: want.Types}
		for _, i := range source.Perm(len(want.Vars)) {
			got, _ = impl.Assign(got, want.Vars[i].Name, source.value())
		}
		for _, i := range source.Perm(len(want.Vars)) {
			got, _ = impl.Assign(got, want.Vars[i].Name, want.Vars[i].Value)
		}
		checkEqual(t, "the same scope", impl.SameScope(got, want), true)
		checkScopeResult(t, "the same scope", scopeResult{s: got}, scopeResult{s: want})
	}
}

// TestSavedVariablesAreRestored is the second part of promise 24.
func TestSavedVariablesAreRestored(t *testing.T) {
	source := newScopeSource(193)
	restored := 0
	for i := range 3000 {
		s := source.scope()
		var names []string
		for range source.Intn(12) {
			names = append(names, source.name())
		}
		saved := impl.SaveNames(s, names)
		checkEqual(t, "number of saved variables", len(saved), len(names))
		for k, b := range saved {
			v, _ := impl.Lookup(s, names[k])
			checkEqual(t, "saved", b, binding(names[k], v))
		}
		changed := s
		for _, name := range names {
			if next, code := impl.Assign(changed, name, source.value()); code == impl.OK {
				changed = next
			}
		}
		back, code := impl.RestoreNames(changed, saved)
		checkScopeResult(t, fmt.Sprint("restored, case ", i), changedScope(back, code), scopeResult{s: s})
		if !impl.SameScope(changed, s) {
			restored++
		}
		other := source.name()
		elsewhere, code := impl.Assign(changed, other, integerOf(77))
		if code != impl.OK || slices.Contains(names, other) {
			continue
		}
		back, code = impl.RestoreNames(elsewhere, saved)
		if code == impl.OK {
			checkScopeResult(t, "a variable that was not saved", lookedUp(impl.Lookup(back, other)), scopeResult{v: integerOf(77)})
			checkOthers(t, "restored", source.names, s, back, other, "", "")
		}
	}
	if restored < 2000 {
		t.Errorf("only %d scopes were restored", restored)
	}
}

// TestAppendingToSavedVariables checks that two lists that begin with the same saved variables are made by appending.
func TestAppendingToSavedVariables(t *testing.T) {
	for count := range 20 {
		saved := impl.SaveNames(exampleScope(), namesTo(count))
		one := append(saved, binding("A", integerOf(1)))
		two := append(saved, binding("B", integerOf(2)))
		checkEqual(t, fmt.Sprint(count, " variables and one more"), one[count], binding("A", integerOf(1)))
		checkEqual(t, fmt.Sprint(count, " variables and another one"), two[count], binding("B", integerOf(2)))
	}
}

// TestDefinitionsAreFound is the last part of promise 24, for series of definitions.
func TestDefinitionsAreFound(t *testing.T) {
	t.Parallel()
	source := newScopeSource(194)
	codes := map[int64]int{}
	for range 60 {
		s := source.scope()
		for range 40 {
			name, label := source.name(), append(source.different(1), "")[0]
			params, locals := source.different(6), source.different(6)
			prototype := name + "(" + strings.Join(params, ",") + ")" + strings.Join(locals, ",")
			what := prototype + " with the label " + label
			changed, code := impl.DefineFunction(s, prototype, label)
			codes[code]++
			checkScopeResult(t, what, changedScope(changed, code), modelDefineFunction(s, prototype, label))
			if code == impl.OK {
				want := function(name, label, params, locals)
				if label == "" {
					want.Label = name
				}
				checkScopeResult(t, what, foundFunction(impl.FunctionOf(changed, name)), scopeResult{f: want, found: true})
				checkOthers(t, what, source.names, s, changed, "", name, "")
				s = changed
			}
			prototype = name + "(" + strings.Join(params, ",") + ")"
			changed, code = impl.DefineType(s, prototype)
			codes[code]++
			checkScopeResult(t, prototype, changedScope(changed, code), modelDefineType(s, prototype))
			if code == impl.OK {
				checkScopeResult(t, prototype, foundType(impl.TypeOf(changed, name)), scopeResult{r: recordType(name, params...), found: true})
				checkOthers(t, prototype, source.names, s, changed, "", "", name)
				s = changed
			}
			checkEqual(t, what+": valid", impl.ValidScope(s) && modelScope(s), true)
		}
	}
	for _, code := range []int64{impl.OK, impl.ErrSyntax, impl.ErrFull} {
		if codes[code] < 300 {
			t.Errorf("the code %d was returned only %d times", code, codes[code])
		}
	}
}

// TestLaterDefinitionsReplaceEarlierOnes defines functions and types again, each time in another way.
func TestLaterDefinitionsReplaceEarlierOnes(t *testing.T) {
	s := fullScope()
	for _, name := range []string{"N000", "N005", "N007"} {
		for i, prototype := range []string{name + "(A)", name + "(B,A)", name + "(C)", name + "(A,B,C,D,E,F)"} {
			var code int64
			s, code = impl.DefineFunction(s, prototype, []string{"", "L"}[i%2])
			checkScopeResult(t, prototype, changedScope(s, code), modelDefineFunction(s, prototype, []string{"", "L"}[i%2]))
			s, code = impl.DefineType(s, prototype)
			checkScopeResult(t, prototype, changedScope(s, code), modelDefineType(s, prototype))
			checkList(t, "the numbers of definitions", []int{len(s.Functions), len(s.Types)}, []int{12, 8})
			f, _ := impl.FunctionOf(s, name)
			r, _ := impl.TypeOf(s, name)
			checkList(t, prototype+": fields", r.Fields, f.Params)
		}
	}
}

// TestRootsAreReplaced checks that the values of all variables, and nothing else, are replaced by other roots.
func TestRootsAreReplaced(t *testing.T) {
	source := newScopeSource(195)
	for range 1000 {
		s := source.scope()
		roots := impl.ScopeRoots(s)
		checkEqual(t, "number of roots", len(roots), len(s.Vars))
		for i := range roots {
			v, _ := impl.Lookup(s, s.Vars[i].Name)
			checkEqual(t, "root", roots[i], v)
			roots[i] = valuesOf(i+1, "x", arrayRef(1))[source.Intn(3)]
		}
		changed, ok := impl.WithRoots(s, roots)
		checkEqual(t, "ok", ok, true)
		checkList(t, "other roots", impl.ScopeRoots(changed), roots)
		back, _ := impl.WithRoots(changed, impl.ScopeRoots(s))
		checkScopeResult(t, "the first roots again", scopeResult{s: back}, scopeResult{s: s})
		for i, b := range changed.Vars {
			checkEqual(t, "name", b.Name, s.Vars[i].Name)
		}
		changed.Vars = s.Vars
		checkScopeResult(t, "definitions", scopeResult{s: changed}, scopeResult{s: s})
	}
}
