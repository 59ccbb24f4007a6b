package tests

import (
	"fmt"
	"math"
	"slices"
	"strings"
	"testing"

	"loop.example/g00873/impl"
)

// The tests of this file are promise 1 for the functions of chapter 18.

// scopeCase has arguments of the functions of chapter 18. The text is a name, a prototype or both.
type scopeCase struct {
	s           impl.Scope
	text, label string
	v           impl.Value
	names       []string
	saved       []impl.Binding
	roots       []impl.Value
}

// scopeFunctions are all functions of chapter 18.
func scopeFunctions() map[string]func(c scopeCase) scopeResult {
	return map[string]func(c scopeCase) scopeResult{
		"ValidScope": func(c scopeCase) scopeResult {
			return scopeResult{found: impl.ValidScope(c.s)}
		},
		"SameScope": func(c scopeCase) scopeResult {
			other := c.s
			other.Types = c.s.Types[len(c.s.Types)/2:]
			return scopeResult{answer: fmt.Sprint(impl.SameScope(c.s, c.s), impl.SameScope(copyScope(c.s), c.s), impl.SameScope(c.s, other), impl.SameScope(exampleScope(), c.s))}
		},
		"Lookup": func(c scopeCase) scopeResult {
			return lookedUp(impl.Lookup(c.s, c.text))
		},
		"Assign": func(c scopeCase) scopeResult {
			return changedScope(impl.Assign(c.s, c.text, c.v))
		},
		"DefineFunction": func(c scopeCase) scopeResult {
			return changedScope(impl.DefineFunction(c.s, c.text, c.label))
		},
		"DefineFunction again": func(c scopeCase) scopeResult {
			return changedScope(impl.DefineFunction(c.s, c.text+"(P,Q)R", c.label))
		},
		"FunctionOf": func(c scopeCase) scopeResult {
			return foundFunction(impl.FunctionOf(c.s, c.text))
		},
		"DefineType": func(c scopeCase) scopeResult {
			return changedScope(impl.DefineType(c.s, c.text))
		},
		"DefineType again": func(c scopeCase) scopeResult {
			return changedScope(impl.DefineType(c.s, c.text+"(P,Q)"))
		},
		"TypeOf": func(c scopeCase) scopeResult {
			return foundType(impl.TypeOf(c.s, c.text))
		},
		"SaveNames": func(c scopeCase) scopeResult {
			return scopeResult{saved: impl.SaveNames(c.s, c.names)}
		},
		"RestoreNames": func(c scopeCase) scopeResult {
			return changedScope(impl.RestoreNames(c.s, c.saved))
		},
		"ScopeRoots": func(c scopeCase) scopeResult {
			return scopeResult{roots: impl.ScopeRoots(c.s)}
		},
		"WithRoots": func(c scopeCase) scopeResult {
			return withRoots(impl.WithRoots(c.s, c.roots))
		},
	}
}

// scopeCases returns arguments, valid and invalid ones, and some that share memory with each other.
func scopeCases() []scopeCase {
	names := []string{"A", "B", "C"}
	shared := impl.Scope{
		Vars:      []impl.Binding{binding("A", integerOf(1)), binding("B", arrayRef(1))},
		Functions: []impl.Function{function("F", "F", names[:1], names[1:]), function("G", "F", names, nil), function("H", "F", names, names[3:])},
		Types:     []impl.RecordType{recordType("F", names...), recordType("G", names...), recordType("H", names[1:]...)},
	}
	scopes := append(validScopes(), namedScope{"shared memory", shared}, namedScope{"the example again", exampleScope()}, namedScope{"shared memory again", shared})
	saved := []impl.Binding{binding("A", integerOf(5)), binding("AB", stringOf("x")), binding("N003", stringOf("")), binding("Z", nameOf("A")), binding("A", integerOf(6))}
	var cases []scopeCase
	add := func(s impl.Scope, text string) {
		i := len(cases)
		v := append(valuesOf("", "x", 7, recordRef(3)), impl.Value{})[i%5]
		roots := slices.Repeat(valuesOf(1+i), len(s.Vars)+i%7/6)
		cases = append(cases, scopeCase{s, text, []string{"", "L", "1"}[i%11/4], v, append(names[:i%4:i%4], "F", "G"), saved[:i%6], roots})
	}
	for _, c := range scopes {
		for _, text := range []string{"A", "F", "G", "NODE", "N005", "f", "X", "ZZ", "1", "", "F(X,Y)A", "F(X)", "G()A", "R(A,B)", "NEW(P)Q,R", "F(", "F(X,X)"} {
			add(c.s, text)
		}
	}
	for i, c := range invalidScopes() {
		if len(c.s.Vars)+len(c.s.Functions)+len(c.s.Types) < 1000 {
			add(c.s, []string{"A", "F(X)", "F"}[i%3])
		}
	}
	return cases
}

func copyScopeCase(c scopeCase) scopeCase {
	c.s, c.text, c.label, c.v.Text = copyScope(c.s), strings.Clone(c.text), strings.Clone(c.label), strings.Clone(c.v.Text)
	c.names, c.saved, c.roots = slices.Clone(c.names), slices.Clone(c.saved), slices.Clone(c.roots)
	for i, name := range c.names {
		c.names[i] = strings.Clone(name)
	}
	for i, b := range c.s.Vars {
		c.s.Vars[i].Name = strings.Clone(b.Name)
	}
	return c
}

// roomyScopeCase returns an equal case, each of whose lists has unused elements behind it.
func roomyScopeCase(c scopeCase) scopeCase {
	c.s.Vars, _ = backing(c.s.Vars, binding("unused", integerOf(77)))
	c.s.Functions, _ = backing(c.s.Functions, function("unused", "", nil, nil))
	c.s.Types, _ = backing(c.s.Types, recordType("unused"))
	for i, f := range c.s.Functions {
		c.s.Functions[i].Params, _ = backing(f.Params, "unused")
		c.s.Functions[i].Locals, _ = backing(f.Locals, "unused")
	}
	for i, r := range c.s.Types {
		c.s.Types[i].Fields, _ = backing(r.Fields, "unused")
	}
	c.names, _ = backing(c.names, "unused")
	c.saved, _ = backing(c.saved, binding("unused", integerOf(77)))
	c.roots, _ = backing(c.roots, integerOf(77))
	return c
}

func watchScopeCase(w *watcher, c scopeCase) {
	watch(w, c.s.Vars, sameElement)
	watch(w, c.s.Functions, func(a, b impl.Function) bool {
		return equalFunctions(a, b) && isSame(a.Params, b.Params) && isSame(a.Locals, b.Locals)
	})
	watch(w, c.s.Types, func(a, b impl.RecordType) bool { return equalTypes(a, b) && isSame(a.Fields, b.Fields) })
	for _, f := range c.s.Functions {
		watch(w, f.Params, sameElement)
		watch(w, f.Locals, sameElement)
	}
	for _, r := range c.s.Types {
		watch(w, r.Fields, sameElement)
	}
	watch(w, c.names, sameElement)
	watch(w, c.saved, sameElement)
	watch(w, c.roots, sameElement)
}

// turnedScopeCase returns an equal case with nil for each empty list, and an empty list for each nil.
func turnedScopeCase(c scopeCase) scopeCase {
	c.s.Vars, c.s.Functions, c.s.Types = otherEmpty(c.s.Vars), otherEmpty(c.s.Functions), otherEmpty(c.s.Types)
	for i, f := range c.s.Functions {
		c.s.Functions[i].Params, c.s.Functions[i].Locals = otherEmpty(f.Params), otherEmpty(f.Locals)
	}
	for i, r := range c.s.Types {
		c.s.Types[i].Fields = otherEmpty(r.Fields)
	}
	c.names, c.saved, c.roots = otherEmpty(c.names), otherEmpty(c.saved), otherEmpty(c.roots)
	return c
}

// addScope and addScopeResult add the memory of lists, and report whether none of it was there before.
func (m patternMemory) addScope(s impl.Scope) bool {
	fresh := isNew(m, s.Vars)
	fresh = isNew(m, s.Functions) && fresh
	fresh = isNew(m, s.Types) && fresh
	for _, f := range s.Functions {
		fresh = m.addFunction(f) && fresh
	}
	for _, r := range s.Types {
		fresh = isNew(m, r.Fields) && fresh
	}
	return fresh
}

func (m patternMemory) addFunction(f impl.Function) bool {
	fresh := isNew(m, f.Params)
	return isNew(m, f.Locals) && fresh
}

func (m patternMemory) addScopeResult(r scopeResult) bool {
	fresh := m.addScope(r.s)
	fresh = m.addFunction(r.f) && fresh
	fresh = isNew(m, r.r.Fields) && fresh
	fresh = isNew(m, r.saved) && fresh
	return isNew(m, r.roots) && fresh
}

func (m patternMemory) addScopeCase(c scopeCase) {
	m.addScope(c.s)
	isNew(m, c.names)
	isNew(m, c.saved)
	isNew(m, c.roots)
}

func overwriteScopeResult(r scopeResult) {
	texts := [][]string{r.f.Params, r.f.Locals, r.r.Fields}
	for _, f := range r.s.Functions {
		texts = append(texts, f.Params, f.Locals)
	}
	for _, x := range r.s.Types {
		texts = append(texts, x.Fields)
	}
	for _, list := range texts {
		overwriteAll(list, "changed")
	}
	overwriteAll(r.s.Vars, binding("changed", impl.Value{}))
	overwriteAll(r.s.Functions, function("changed", "", nil, nil))
	overwriteAll(r.s.Types, recordType("changed"))
	overwriteAll(r.saved, binding("changed", impl.Value{}))
	overwriteAll(r.roots, integerOf(77))
}

func TestScopeFunctionsArePure(t *testing.T) {
	p := purity[scopeCase, scopeResult]{
		functions: scopeFunctions(), cases: scopeCases(), equal: equalScopeResults,
		copied: copyScopeCase, roomy: roomyScopeCase, turned: turnedScopeCase, watch: watchScopeCase,
		addCase: patternMemory.addScopeCase, addResult: patternMemory.addScopeResult, overwrite: overwriteScopeResult,
	}
	least := map[string]int{}
	for _, name := range []string{"Assign", "DefineFunction", "DefineFunction again", "FunctionOf", "DefineType", "DefineType again", "TypeOf", "SaveNames", "RestoreNames", "ScopeRoots", "WithRoots"} {
		least[name] = 50
	}
	p.checkAll(t, least)
}

// TestFailuresOfScopeFunctions checks that nothing but the code is left of a call that fails.
func TestFailuresOfScopeFunctions(t *testing.T) {
	codes := map[int64]int{}
	for what, call := range scopeFunctions() {
		for i, c := range scopeCases() {
			r := call(c)
			codes[r.code]++
			isInvalid := !modelScope(c.s)
			if r.code != impl.OK {
				checkScopeResult(t, fmt.Sprintf("%s: case %d", what, i), r, scopeResult{code: r.code})
			}
			switch what {
			case "ValidScope":
				checkEqual(t, "ValidScope", r.found, !isInvalid)
			case "FunctionOf", "TypeOf", "WithRoots":
				if !r.found {
					checkScopeResult(t, fmt.Sprintf("%s: case %d", what, i), r, scopeResult{})
				}
				checkEqual(t, what+" of an invalid scope", r.found && isInvalid, false)
			case "SaveNames", "ScopeRoots":
				checkEqual(t, what+" of an invalid scope", len(r.saved)+len(r.roots) > 0 && isInvalid, false)
			case "SameScope":
			default:
				checkEqual(t, what+" of an invalid scope", isInvalid && r.code != impl.ErrInvalid, false)
			}
		}
	}
	for _, code := range []int64{impl.OK, impl.ErrInvalid, impl.ErrSyntax, impl.ErrFull} {
		if codes[code] < 30 {
			t.Errorf("the code %d was returned only %d times", code, codes[code])
		}
	}
}

// TestScopeFunctionsWithVeryLargeArguments has lists and texts far beyond all limits.
func TestScopeFunctionsWithVeryLargeArguments(t *testing.T) {
	long := strings.Repeat("x", 1000000)
	many := slices.Repeat([]string{long}, 100000)
	texts := []string{long, "F(" + long + ")", "F(X)" + long, strings.Repeat("F(X,", 300000), strings.Repeat(",", 1000000), "F()" + strings.Repeat("X,", 300000)}
	scopes := []impl.Scope{
		{}, fullScope(), varsOf(slices.Repeat([]impl.Binding{binding(long, stringOf(long))}, 100000)...), functionsOf(function("F", "F", many, many)), functionsOf(slices.Repeat([]impl.Function{function(long, long, many[:2], many[:2])}, 100000)...),
		typesOf(recordType("R", many...)), typesOf(slices.Repeat([]impl.RecordType{recordType(long, many[:2]...)}, 100000)...),
	}
	values := append(invalidValues(), integerOf(math.MinInt64), integerOf(math.MaxInt64), patternOf(long), stringOf(long), integerOf(1))
	for what, call := range scopeFunctions() {
		for i, s := range scopes {
			for k, text := range texts {
				v := values[(i+k)%len(values)]
				c := scopeCase{s, text, texts[(k+1)%6], v, many, slices.Repeat([]impl.Binding{binding("A", integerOf(1)), binding(long, v)}, 10000), slices.Repeat([]impl.Value{v}, 100000)}
				if !equalScopeResults(call(c), call(c)) {
					t.Errorf("%s: another result for the scope %d and the text %d", what, i, k)
				}
			}
		}
	}
}
