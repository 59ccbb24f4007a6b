package tests

import (
	"fmt"
	"math/rand"
	"slices"
	"strings"
	"testing"

	"loop.example/g00873/impl"
)

func TestScopeConstants(t *testing.T) {
	checkList(t, "limits", []int64{impl.MaxFunctions, impl.MaxTypes, impl.MaxLocals}, []int64{12, 8, 6})
}

func TestScopeExamples(t *testing.T) {
	checkEqual(t, "the zero scope", impl.ValidScope(impl.Scope{}), true)
	s, code := impl.DefineFunction(impl.Scope{}, "F(X,Y)A", "")
	checkScopeResult(t, "F(X,Y)A", changedScope(s, code), scopeResult{s: functionsOf(function("F", "F", []string{"X", "Y"}, []string{"A"}))})
	for _, c := range validScopes() {
		checkScopeResult(t, c.what, withRoots(impl.WithRoots(c.s, impl.ScopeRoots(c.s))), scopeResult{s: c.s, found: true})
	}
}

func TestValidScopes(t *testing.T) {
	for _, c := range validScopes() {
		checkEqual(t, c.what+": valid", impl.ValidScope(c.s), true)
		var roots []impl.Value
		for _, b := range c.s.Vars {
			checkScopeResult(t, c.what+": "+b.Name, lookedUp(impl.Lookup(c.s, b.Name)), scopeResult{v: b.Value})
			roots = append(roots, b.Value)
		}
		for _, f := range c.s.Functions {
			checkScopeResult(t, c.what+": "+f.Name, foundFunction(impl.FunctionOf(c.s, f.Name)), scopeResult{f: f, found: true})
		}
		for _, r := range c.s.Types {
			checkScopeResult(t, c.what+": "+r.Name, foundType(impl.TypeOf(c.s, r.Name)), scopeResult{r: r, found: true})
		}
		checkList(t, c.what+": roots", impl.ScopeRoots(c.s), roots)
		checkScopeResult(t, c.what+": nothing is restored", changedScope(impl.RestoreNames(c.s, nil)), scopeResult{s: c.s})
	}
}

// TestInvalidScopes checks that nothing can be done with an invalid scope, whatever the other arguments are.
func TestInvalidScopes(t *testing.T) {
	invalid := scopeResult{code: impl.ErrInvalid}
	x := integerOf(1)
	for _, c := range invalidScopes() {
		checkEqual(t, c.what+": valid", impl.ValidScope(c.s), false)
		for _, name := range []string{"A", "F", "R", "N000", "", "1"} {
			checkScopeResult(t, c.what+": Lookup", lookedUp(impl.Lookup(c.s, name)), invalid)
			for _, v := range []impl.Value{x, stringOf(""), {}} {
				checkScopeResult(t, c.what+": Assign", changedScope(impl.Assign(c.s, name, v)), invalid)
				checkScopeResult(t, c.what+": RestoreNames", changedScope(impl.RestoreNames(c.s, []impl.Binding{binding(name, v)})), invalid)
			}
			checkScopeResult(t, c.what+": FunctionOf", foundFunction(impl.FunctionOf(c.s, name)), scopeResult{})
			checkScopeResult(t, c.what+": TypeOf", foundType(impl.TypeOf(c.s, name)), scopeResult{})
			checkList(t, c.what+": SaveNames", impl.SaveNames(c.s, []string{name}), nil)
		}
		for _, prototype := range []string{"F()", "R(X)", "F(X)Y", "", "F"} {
			for _, label := range []string{"", "L", "1"} {
				checkScopeResult(t, c.what+": DefineFunction", changedScope(impl.DefineFunction(c.s, prototype, label)), invalid)
			}
			checkScopeResult(t, c.what+": DefineType", changedScope(impl.DefineType(c.s, prototype)), invalid)
		}
		checkScopeResult(t, c.what+": RestoreNames", changedScope(impl.RestoreNames(c.s, nil)), invalid)
		checkList(t, c.what+": SaveNames", impl.SaveNames(c.s, nil), nil)
		checkList(t, c.what+": ScopeRoots", impl.ScopeRoots(c.s), nil)
		for _, roots := range [][]impl.Value{nil, slices.Repeat([]impl.Value{x}, len(c.s.Vars))} {
			checkScopeResult(t, c.what+": WithRoots", withRoots(impl.WithRoots(c.s, roots)), scopeResult{})
		}
	}
}

func TestSameScope(t *testing.T) {
	x, y := integerOf(1), integerOf(2)
	list := []impl.Scope{
		{}, varsOf(impl.Binding{}), varsOf(binding("A", x)), varsOf(binding("B", x)), varsOf(binding("A", y)), varsOf(binding("A", stringOf("1"))), varsOf(binding("A", x), binding("B", y)), varsOf(binding("B", y), binding("A", x)), varsOf(binding("A", x), binding("A", x)),
		functionsOf(impl.Function{}), functionsOf(function("F", "F", nil, nil)), functionsOf(function("G", "F", nil, nil)), functionsOf(function("F", "G", nil, nil)), functionsOf(function("F", "F", []string{"A"}, nil)), functionsOf(function("F", "F", nil, []string{"A"})), functionsOf(function("F", "F", []string{"A", "B"}, nil)), functionsOf(function("F", "F", []string{"B", "A"}, nil)), functionsOf(function("F", "F", []string{"A"}, []string{"B"})), functionsOf(function("F", "F", nil, []string{"A", "B"})), functionsOf(function("F", "F", []string{""}, nil)),
		functionsOf(function("F", "F", nil, nil), function("F", "F", nil, nil)), functionsOf(function("F", "F", nil, nil), function("G", "F", nil, nil)),
		typesOf(impl.RecordType{}), typesOf(recordType("R")), typesOf(recordType("S")), typesOf(recordType("R", "A")), typesOf(recordType("R", "B")), typesOf(recordType("R", "A", "B")), typesOf(recordType("R", "B", "A")), typesOf(recordType("R", "A"), recordType("S", "A")),
		{Vars: []impl.Binding{binding("A", x)}, Types: []impl.RecordType{recordType("R", "A")}}, {Vars: []impl.Binding{binding("A", x)}, Functions: []impl.Function{function("F", "F", nil, nil)}},
		{Vars: slices.Repeat([]impl.Binding{binding("A", x)}, 100000)}, {Vars: slices.Repeat([]impl.Binding{binding("A", x)}, 100001)},
		exampleScope(), fullScope(),
	}
	for i, a := range list {
		for k, b := range list {
			checkEqual(t, fmt.Sprintf("the scopes %d and %d", i, k), impl.SameScope(a, copyScope(b)), i == k)
		}
	}
	for _, c := range append(validScopes(), invalidScopes()...) {
		checkEqual(t, c.what, impl.SameScope(c.s, copyScope(c.s)), true)
	}
	empty := impl.Scope{Vars: []impl.Binding{}, Functions: []impl.Function{}, Types: []impl.RecordType{}}
	checkEqual(t, "nil and empty lists", impl.SameScope(empty, impl.Scope{}), true)
	checkEqual(t, "nil and empty parts", impl.SameScope(impl.Scope{Functions: []impl.Function{function("F", "F", []string{}, []string{})}, Types: []impl.RecordType{recordType("R", []string{}...)}}, impl.Scope{Functions: []impl.Function{function("F", "F", nil, nil)}, Types: []impl.RecordType{recordType("R")}}), true)
}

// otherNames are names that exampleScope does not have.
func otherNames() []string {
	return []string{"AB", "A0", "C", "E", "Z", "c", "z", "zZ_", "zZ_90", "ABCDEFGHIJKL", "REM", "INPUT", "OUTPUT", "LEFT", "X", "LABEL"}
}

func TestLookup(t *testing.T) {
	s := exampleScope()
	for _, name := range append(otherNames(), "G", "NODE", "f") {
		checkScopeResult(t, "no variable "+name, lookedUp(impl.Lookup(s, name)), scopeResult{v: stringOf("")})
		checkScopeResult(t, "the zero scope", lookedUp(impl.Lookup(impl.Scope{}, name)), scopeResult{v: stringOf("")})
	}
	for _, name := range noNames() {
		checkScopeResult(t, fmt.Sprintf("no name %.20q", name), lookedUp(impl.Lookup(s, name)), scopeResult{code: impl.ErrInvalid})
	}
}

func TestAssign(t *testing.T) {
	s := exampleScope()
	values := valuesOf("x", 0, patternOf("x"), arrayRef(77), tableRef(1), recordRef(1000000), nameOf("X"), deferOf("X"), strings.Repeat("x", 200))
	for _, v := range values {
		for i, b := range s.Vars {
			want := copyScope(s)
			want.Vars[i].Value = v
			checkScopeResult(t, b.Name+" with another value", changedScope(impl.Assign(s, b.Name, v)), scopeResult{s: want})
		}
		for _, name := range append(otherNames(), "G", "NODE", "f") {
			at := 0
			for at < len(s.Vars) && s.Vars[at].Name < name {
				at++
			}
			want := copyScope(s)
			want.Vars = slices.Insert(want.Vars, at, binding(name, v))
			checkScopeResult(t, "a new variable "+name, changedScope(impl.Assign(s, name, v)), scopeResult{s: want})
			checkScopeResult(t, "the zero scope and "+name, changedScope(impl.Assign(impl.Scope{}, name, v)), scopeResult{s: varsOf(binding(name, v))})
		}
	}
	for i, b := range s.Vars {
		want := copyScope(s)
		want.Vars = slices.Delete(want.Vars, i, i+1)
		checkScopeResult(t, b.Name+" with the null value", changedScope(impl.Assign(s, b.Name, stringOf(""))), scopeResult{s: want})
		checkScopeResult(t, b.Name+" alone with the null value", changedScope(impl.Assign(varsOf(b), b.Name, stringOf(""))), scopeResult{})
	}
	for _, name := range append(otherNames(), "G", "NODE", "f") {
		checkScopeResult(t, "the null value for "+name, changedScope(impl.Assign(s, name, stringOf(""))), scopeResult{s: s})
	}
}

func TestAssignLimitsAndErrors(t *testing.T) {
	full, x := fullScope(), integerOf(7)
	for i, b := range full.Vars {
		want := copyScope(full)
		want.Vars[i].Value = x
		checkScopeResult(t, "a full scope, "+b.Name, changedScope(impl.Assign(full, b.Name, x)), scopeResult{s: want})
		rest := copyScope(full)
		rest.Vars = slices.Delete(rest.Vars, i, i+1)
		checkScopeResult(t, "a full scope without "+b.Name, changedScope(impl.Assign(full, b.Name, stringOf(""))), scopeResult{s: rest})
		checkScopeResult(t, "a full scope again, "+b.Name, changedScope(impl.Assign(rest, b.Name, x)), scopeResult{s: want})
	}
	for _, name := range []string{"A", "N", "N0", "N0005", "N040", "Z", "z"} {
		checkScopeResult(t, "a variable more", changedScope(impl.Assign(full, name, x)), scopeResult{code: impl.ErrFull})
		checkScopeResult(t, "the null value", changedScope(impl.Assign(full, name, stringOf(""))), scopeResult{s: full})
	}
	for _, s := range []impl.Scope{{}, exampleScope(), full} {
		for _, name := range noNames() {
			for _, v := range []impl.Value{x, stringOf(""), {}} {
				checkScopeResult(t, fmt.Sprintf("no name %.20q", name), changedScope(impl.Assign(s, name, v)), scopeResult{code: impl.ErrInvalid})
			}
		}
		for _, v := range invalidValues() {
			for _, name := range []string{"A", "N000", "Z"} {
				checkScopeResult(t, fmt.Sprintf("the value %.40q", fmt.Sprint(v)), changedScope(impl.Assign(s, name, v)), scopeResult{code: impl.ErrInvalid})
			}
		}
	}
}

// functionRow is a prototype with its function, whose label is its name.
type functionRow struct {
	prototype      string
	name           string
	params, locals []string
}

func functionRows() []functionRow {
	six := []string{"A", "B", "C", "D", "E", "F"}
	return []functionRow{
		{"F()", "F", nil, nil}, {"F(X)", "F", []string{"X"}, nil}, {"F()X", "F", nil, []string{"X"}}, {"F(X)Y", "F", []string{"X"}, []string{"Y"}}, {"F(X,Y)A", "F", []string{"X", "Y"}, []string{"A"}}, {"F(Y,X)B,A", "F", []string{"Y", "X"}, []string{"B", "A"}},
		{"abcdefghijkl(ABCDEFGHIJKL)a_1", "abcdefghijkl", []string{"ABCDEFGHIJKL"}, []string{"a_1"}}, {"F(F)", "F", []string{"F"}, nil}, {"F()F", "F", nil, []string{"F"}}, {"F(f,F)", "F", []string{"f", "F"}, nil}, {"F(x,X)x1,X1", "F", []string{"x", "X"}, []string{"x1", "X1"}},
		{"F(A,B,C,D,E,F)", "F", six, nil}, {"F()A,B,C,D,E,F", "F", nil, six}, {"F(A,B,C,D,E,F)a,b,c,d,e,f", "F", six, []string{"a", "b", "c", "d", "e", "f"}}, {"REM(SIZE)INPUT", "REM", []string{"SIZE"}, []string{"INPUT"}}, {"END(RETURN)OUTPUT", "END", []string{"RETURN"}, []string{"OUTPUT"}},
	}
}

// noPrototypes are texts that are prototypes neither of a function nor of a type.
func noPrototypes() []string {
	return []string{
		"", " ", "F", "F(", "F)", "(", ")", "()", "(X)", "(X)Y", "F(X", "FX)", "F X)", "F[X]", "F<X>", "F{X}", "F)X(", "F(X)(", "F(X))", "F((X))", "F(X)Y(Z)", "F(X)(Y)", "F()()", "F()(", "F())", "F(X(Y))",
		" F(X)", "F (X)", "F( X)", "F(X )", "F(X) ", "F(X) Y", "F(X)Y ", "F(X,Y )A", "F(X, Y)", "F(X ,Y)", "F( )", "F() ", "F()\t", "F(X)\n", "\nF(X)", "F(X)Y, Z", "F(X)Y ,Z", "\tF()",
		"F(,)", "F(,X)", "F(X,)", "F(X,,Y)", "F(X),", "F(),", "F(),Y", "F()X,", "F()X,,Y", "F(X),Y", ",F(X)", "F,G(X)", "F(X;Y)", "F(X.Y)", "F(X)Y;Z", "F(X|Y)", "F(X Y)", "F(X)Y Z", "F(X=1)", "F('X')",
		"1(X)", "F(1)", "F()1", "F(X)1", "F(X,1)", "F(X)Y,1", "_(X)", "F(_)", "F()_", "_F(X)", "F-G(X)", "F(X-Y)", "F(*X)", "F(.X)", "ABCDEFGHIJKLM(X)", "F(ABCDEFGHIJKLM)", "F()ABCDEFGHIJKLM", "\u00e4(X)", "F(\u00e4)", "F()\u00e4", "F(X\xff)", "F\x00(X)", "F(X)\x00", "F(\uff38)",
		"F(X,X)", "F(X,Y,X)", "F(A,B,C,D,E,A)", "F(A,B,C,D,E,F,G)", strings.Repeat("F", 100000), "F(" + strings.Repeat("X", 100000), "F(" + strings.Repeat(",", 100000) + ")", "F(" + strings.Repeat("X,", 100000) + "X)", strings.Repeat("(", 100000), strings.Repeat(")", 100000), strings.Repeat("F()", 10000),
	}
}

// noFunctions are texts that are prototypes, but of no valid function.
func noFunctions() []string {
	return []string{"F(X)X", "F(X,Y)A,X", "F()X,X", "F(A)B,C,B", "F(A,B,C,D,E,F)a,b,c,d,e,A", "F()A,B,C,D,E,F,G", "F(A)a,b,c,d,e,f,g", "F(A,B,C,D,E,F,G)a", "F()" + strings.Repeat("X,", 100000) + "X"}
}

func TestDefineFunction(t *testing.T) {
	for _, row := range functionRows() {
		for _, label := range []string{"", "L", "F", "END", "RETURN", "abcdefghijkl"} {
			f := function(row.name, label, row.params, row.locals)
			if label == "" {
				f.Label = row.name
			}
			what := fmt.Sprintf("%s with the label %q", row.prototype, label)
			s, code := impl.DefineFunction(impl.Scope{}, row.prototype, label)
			checkScopeResult(t, what, changedScope(s, code), scopeResult{s: functionsOf(f)})
			checkScopeResult(t, what, foundFunction(impl.FunctionOf(s, row.name)), scopeResult{f: f, found: true})
			other, code := impl.DefineFunction(exampleScope(), row.prototype, label)
			want := exampleScope()
			want.Functions = slices.DeleteFunc(want.Functions, func(g impl.Function) bool { return g.Name == f.Name })
			want.Functions = append(want.Functions, f)
			slices.SortFunc(want.Functions, func(a, b impl.Function) int { return strings.Compare(a.Name, b.Name) })
			checkScopeResult(t, what+", beside others", changedScope(other, code), scopeResult{s: want})
		}
	}
}

func TestDefineFunctionErrors(t *testing.T) {
	for _, s := range []impl.Scope{{}, exampleScope(), fullScope()} {
		for _, prototype := range append(noPrototypes(), noFunctions()...) {
			for _, label := range []string{"", "L", "END"} {
				checkScopeResult(t, fmt.Sprintf("DefineFunction(%.40q, %q)", prototype, label), changedScope(impl.DefineFunction(s, prototype, label)), scopeResult{code: impl.ErrSyntax})
			}
		}
		for _, label := range noNames()[1:] {
			for _, prototype := range append(noPrototypes()[:20], "F()", "N000(X)", "F(X)X") {
				checkScopeResult(t, fmt.Sprintf("DefineFunction(%.40q, %.20q)", prototype, label), changedScope(impl.DefineFunction(s, prototype, label)), scopeResult{code: impl.ErrInvalid})
			}
		}
	}
}

func TestFunctionLimits(t *testing.T) {
	full := fullScope()
	for i, f := range full.Functions {
		want := copyScope(full)
		want.Functions[i] = function(f.Name, "L", []string{"P"}, nil)
		checkScopeResult(t, "a full scope, "+f.Name, changedScope(impl.DefineFunction(full, f.Name+"(P)", "L")), scopeResult{s: want})
		rest := copyScope(full)
		rest.Functions = slices.Delete(rest.Functions, i, i+1)
		checkScopeResult(t, "one function less, "+f.Name, changedScope(impl.DefineFunction(rest, f.Name+"(P)", "L")), scopeResult{s: want})
	}
	for _, name := range []string{"A", "N", "N0005", "N012", "Z", "z"} {
		checkScopeResult(t, "a function more", changedScope(impl.DefineFunction(full, name+"()", "")), scopeResult{code: impl.ErrFull})
		checkScopeResult(t, "a function more with an invalid label", changedScope(impl.DefineFunction(full, name+"()", "1")), scopeResult{code: impl.ErrInvalid})
		checkScopeResult(t, "a function more without parentheses", changedScope(impl.DefineFunction(full, name, "")), scopeResult{code: impl.ErrSyntax})
	}
}

func TestFunctionOf(t *testing.T) {
	s := exampleScope()
	for _, name := range append(slices.Concat(otherNames(), noNames()), "A", "AA", "NODE", "b", "S", "SIZ", "SIZEX", "g", "FF") {
		checkScopeResult(t, fmt.Sprintf("no function %.20q", name), foundFunction(impl.FunctionOf(s, name)), scopeResult{})
		checkScopeResult(t, fmt.Sprintf("no function %.20q", name), foundFunction(impl.FunctionOf(impl.Scope{}, name)), scopeResult{})
	}
}

func TestDefineType(t *testing.T) {
	for _, row := range functionRows() {
		r := recordType(row.name, row.params...)
		got := changedScope(impl.DefineType(impl.Scope{}, row.prototype))
		other := changedScope(impl.DefineType(exampleScope(), row.prototype))
		if len(row.locals) > 0 || len(row.params) == 0 {
			checkScopeResult(t, row.prototype, got, scopeResult{code: impl.ErrSyntax})
			checkScopeResult(t, row.prototype, other, scopeResult{code: impl.ErrSyntax})
			continue
		}
		checkScopeResult(t, row.prototype, got, scopeResult{s: typesOf(r)})
		checkScopeResult(t, row.prototype, foundType(impl.TypeOf(got.s, row.name)), scopeResult{r: r, found: true})
		want := exampleScope()
		want.Types = slices.DeleteFunc(want.Types, func(x impl.RecordType) bool { return x.Name == r.Name })
		want.Types = append(want.Types, r)
		slices.SortFunc(want.Types, func(a, b impl.RecordType) int { return strings.Compare(a.Name, b.Name) })
		checkScopeResult(t, row.prototype+", beside others", other, scopeResult{s: want})
	}
}

func TestDefineTypeErrors(t *testing.T) {
	for _, s := range []impl.Scope{{}, exampleScope(), fullScope()} {
		for _, prototype := range slices.Concat(noPrototypes(), noFunctions(), []string{"F()", "F()X", "F(X)Y", "F(X,Y)A", "N000()", "N000(X)Y", "F(A,B,C,D,E,F)a"}) {
			checkScopeResult(t, fmt.Sprintf("DefineType(%.40q)", prototype), changedScope(impl.DefineType(s, prototype)), scopeResult{code: impl.ErrSyntax})
		}
	}
}

func TestTypeLimits(t *testing.T) {
	full := fullScope()
	for i, r := range full.Types {
		want := copyScope(full)
		want.Types[i] = recordType(r.Name, "P", "A")
		checkScopeResult(t, "a full scope, "+r.Name, changedScope(impl.DefineType(full, r.Name+"(P,A)")), scopeResult{s: want})
		rest := copyScope(full)
		rest.Types = slices.Delete(rest.Types, i, i+1)
		checkScopeResult(t, "one type less, "+r.Name, changedScope(impl.DefineType(rest, r.Name+"(P,A)")), scopeResult{s: want})
	}
	for _, name := range []string{"A", "N", "N0005", "N008", "Z", "z"} {
		checkScopeResult(t, "a type more", changedScope(impl.DefineType(full, name+"(X)")), scopeResult{code: impl.ErrFull})
		checkScopeResult(t, "a type more without fields", changedScope(impl.DefineType(full, name+"()")), scopeResult{code: impl.ErrSyntax})
	}
}

func TestTypeOf(t *testing.T) {
	s := exampleScope()
	for _, name := range append(slices.Concat(otherNames(), noNames()), "A", "AA", "G", "SIZE", "NOD", "NODES", "node") {
		checkScopeResult(t, fmt.Sprintf("no type %.20q", name), foundType(impl.TypeOf(s, name)), scopeResult{})
		checkScopeResult(t, fmt.Sprintf("no type %.20q", name), foundType(impl.TypeOf(impl.Scope{}, name)), scopeResult{})
	}
}

func TestSaveNames(t *testing.T) {
	s := exampleScope()
	null := stringOf("")
	checkList(t, "no names", impl.SaveNames(s, nil), nil)
	checkList(t, "an empty list", impl.SaveNames(s, []string{}), nil)
	checkList(t, "values and null values", impl.SaveNames(s, []string{"b", "C", "A", "F", "G"}), []impl.Binding{binding("b", nameOf("A")), binding("C", null), binding("A", integerOf(1)), binding("F", tableRef(2)), binding("G", null)})
	checkList(t, "the same name twice", impl.SaveNames(s, []string{"A", "C", "A", "C"}), []impl.Binding{binding("A", integerOf(1)), binding("C", null), binding("A", integerOf(1)), binding("C", null)})
	checkList(t, "the zero scope", impl.SaveNames(impl.Scope{}, []string{"A"}), []impl.Binding{binding("A", null)})
	many := impl.SaveNames(s, slices.Repeat([]string{"A", "C"}, 50000))
	checkList(t, "very many names", many, slices.Repeat([]impl.Binding{binding("A", integerOf(1)), binding("C", null)}, 50000))
	for _, name := range noNames() {
		for _, names := range [][]string{{name}, {"A", name}, {name, "A"}, {"A", "C", name, "A"}, append(namesTo(999), name)} {
			checkList(t, fmt.Sprintf("%.20q among the names", name), impl.SaveNames(s, names), nil)
		}
	}
}

func TestRestoreNames(t *testing.T) {
	s, x, null := exampleScope(), integerOf(9), stringOf("")
	for _, c := range []struct {
		what  string
		saved []impl.Binding
		want  scopeResult
	}{
		{"nothing", nil, scopeResult{s: s}},
		{"an empty list", []impl.Binding{}, scopeResult{s: s}},
		{"a value for a name twice", []impl.Binding{binding("A", x), binding("A", integerOf(1))}, scopeResult{s: s}},
		{"a value and no value", []impl.Binding{binding("C", x), binding("C", null)}, scopeResult{s: s}},
		{"no value and a value", []impl.Binding{binding("A", null), binding("A", integerOf(1))}, scopeResult{s: s}},
		{"null values for what has none", []impl.Binding{binding("C", null), binding("C", null)}, scopeResult{s: s}},
		{"no name", []impl.Binding{binding("1", x)}, scopeResult{code: impl.ErrInvalid}},
		{"no name behind names", []impl.Binding{binding("A", x), binding("C", x), binding("", x)}, scopeResult{code: impl.ErrInvalid}},
		{"an invalid value", []impl.Binding{binding("A", x), binding("A", impl.Value{}), binding("A", x)}, scopeResult{code: impl.ErrInvalid}},
		{"an invalid value for no name", []impl.Binding{{}}, scopeResult{code: impl.ErrInvalid}},
		{"a null value for no name", []impl.Binding{binding("A B", null)}, scopeResult{code: impl.ErrInvalid}},
	} {
		checkScopeResult(t, c.what, changedScope(impl.RestoreNames(s, c.saved)), c.want)
	}
	full := fullScope()
	another := copyScope(full)
	another.Vars = append(another.Vars[1:], binding("Z", x))
	for _, c := range []struct {
		what  string
		saved []impl.Binding
		want  scopeResult
	}{
		{"a variable instead of another", []impl.Binding{binding("N000", null), binding("Z", x)}, scopeResult{s: another}},
		{"a variable before another is removed", []impl.Binding{binding("Z", x), binding("N000", null)}, scopeResult{code: impl.ErrFull}},
		{"a variable more before an invalid one", []impl.Binding{binding("Z", x), binding("1", x)}, scopeResult{code: impl.ErrFull}},
		{"an invalid variable before one more", []impl.Binding{binding("1", x), binding("Z", x)}, scopeResult{code: impl.ErrInvalid}},
		{"a variable instead of another, and one more", []impl.Binding{binding("N000", null), binding("Z", x), binding("Y", x)}, scopeResult{code: impl.ErrFull}},
		{"very many values", slices.Repeat([]impl.Binding{binding("N000", x), binding("N000", full.Vars[0].Value)}, 20000), scopeResult{s: full}},
	} {
		checkScopeResult(t, "a full scope: "+c.what, changedScope(impl.RestoreNames(full, c.saved)), c.want)
	}
}

func TestRoots(t *testing.T) {
	s := exampleScope()
	roots := impl.ScopeRoots(s)
	checkList(t, "roots", roots, valuesOf(1, "x", patternOf("rem"), arrayRef(1), tableRef(2), recordRef(4), nameOf("A"), deferOf("C")))
	turned := slices.Clone(roots)
	slices.Reverse(turned)
	want := copyScope(s)
	for i := range want.Vars {
		want.Vars[i].Value = turned[i]
	}
	checkScopeResult(t, "other roots", withRoots(impl.WithRoots(s, turned)), scopeResult{s: want, found: true})
	for _, list := range [][]impl.Value{nil, {}, roots[1:], roots[:7], append(roots[:8:8], integerOf(1)), slices.Repeat(roots, 2), slices.Repeat(roots, 10000)} {
		checkScopeResult(t, fmt.Sprint(len(list), " roots"), withRoots(impl.WithRoots(s, list)), scopeResult{})
	}
	for i := range roots {
		for _, v := range append(invalidValues(), stringOf("")) {
			list := slices.Clone(roots)
			list[i] = v
			checkScopeResult(t, fmt.Sprintf("the root %d is %.40q", i, fmt.Sprint(v)), withRoots(impl.WithRoots(s, list)), scopeResult{})
		}
	}
	checkScopeResult(t, "no variables", withRoots(impl.WithRoots(typesOf(recordType("R", "X")), nil)), scopeResult{s: typesOf(recordType("R", "X")), found: true})
	checkScopeResult(t, "no variables and a root", withRoots(impl.WithRoots(impl.Scope{}, valuesOf(1))), scopeResult{})
	checkScopeResult(t, "no variables and a null value", withRoots(impl.WithRoots(impl.Scope{}, valuesOf(""))), scopeResult{})
}

// changedElement changes one element of a scope, so that it is invalid in many cases.
func changedElement(r *rand.Rand, s impl.Scope) impl.Scope {
	s = copyScope(s)
	name := []string{"", "1", "_", "A ", "A\xff", "ABCDEFGHIJKLM", "A", "B", "C", "F", "X", "a", "zz"}[r.Intn(13)]
	values := append(invalidValues(), valuesOf("", 1, 2, "x", arrayRef(3), nameOf("A"))...)
	var f impl.Function
	if len(s.Functions) > 0 {
		f = s.Functions[r.Intn(len(s.Functions))]
	}
	names := func(list []string) []string {
		return append(list[:r.Intn(len(list)+1):len(list)], namesTo(8)[r.Intn(8):]...)
	}
	switch r.Intn(8) {
	case 0:
		s.Vars = slices.Insert(s.Vars, r.Intn(len(s.Vars)+1), binding(name, integerOf(1)))
	case 1:
		if len(s.Vars) > 0 {
			s.Vars[r.Intn(len(s.Vars))].Value = values[r.Intn(len(values))]
		}
	case 2:
		s.Functions = slices.Insert(s.Functions, r.Intn(len(s.Functions)+1), function(name, "L", nil, nil))
	case 3:
		f.Params = names(f.Params)
		s.Functions = append(s.Functions[:0:0], f)
	case 4:
		f.Locals = names(f.Locals)
		s.Functions = append(s.Functions[:0:0], f)
	case 5:
		f.Label = name
		s.Functions = append(s.Functions[:0:0], f)
	case 6:
		s.Types = slices.Insert(s.Types, r.Intn(len(s.Types)+1), recordType(name, namesTo(r.Intn(9))...))
	case 7:
		if len(s.Types) > 0 {
			x := &s.Types[r.Intn(len(s.Types))]
			x.Fields = names(x.Fields)
		}
	}
	return s
}

// TestScopesAgainstModel compares the functions with the model for valid scopes that were changed in some places.
func TestScopesAgainstModel(t *testing.T) {
	t.Parallel()
	r := rand.New(rand.NewSource(181))
	counts := map[bool]int{}
	small := impl.Scope{Vars: []impl.Binding{binding("B", integerOf(1)), binding("X", stringOf("x"))}, Functions: []impl.Function{function("B", "B", []string{"X"}, nil)}, Types: []impl.RecordType{recordType("B", "X", "Y")}}
	prototypes := append(noFunctions()[:8], "B(X)", "B()X", "A(X,Y)", "N001(A)")
	for i := range 8000 {
		s := []impl.Scope{{}, small, small, exampleScope(), fullScope()}[i%5]
		for range r.Intn(4) {
			s = changedElement(r, s)
		}
		isValid := modelScope(s)
		counts[isValid]++
		what := fmt.Sprint("case ", i)
		checkEqual(t, what, impl.ValidScope(s), isValid)
		name, v := []string{"A", "B", "N001", "X", "1"}[r.Intn(5)], valuesOf("", 1, "x", impl.Value{})[r.Intn(4)]
		checkScopeResult(t, what, lookedUp(impl.Lookup(s, name)), modelLookup(s, name))
		checkScopeResult(t, what, changedScope(impl.Assign(s, name, v)), modelAssign(s, binding(name, v)))
		prototype, label := prototypes[r.Intn(12)], []string{"", "L", "_"}[r.Intn(3)]
		checkScopeResult(t, what, changedScope(impl.DefineFunction(s, prototype, label)), modelDefineFunction(s, prototype, label))
		checkScopeResult(t, what, changedScope(impl.DefineType(s, prototype)), modelDefineType(s, prototype))
		checkList(t, what, impl.SaveNames(s, []string{name, "X"}), modelSaved(s, []string{name, "X"}))
		f, isFunction := mapsOf(s).functions[name]
		x, isType := mapsOf(s).types[name]
		if !isValid {
			f, isFunction, x, isType = impl.Function{}, false, impl.RecordType{}, false
		}
		checkScopeResult(t, what, foundFunction(impl.FunctionOf(s, name)), foundFunction(f, isFunction))
		checkScopeResult(t, what, foundType(impl.TypeOf(s, name)), foundType(x, isType))
		roots := slices.Repeat([]impl.Value{v}, len(s.Vars)+r.Intn(5)/4)
		checkScopeResult(t, what, withRoots(impl.WithRoots(s, roots)), modelWithRoots(s, roots))
	}
	if counts[true] < 2000 || counts[false] < 2000 {
		t.Errorf("%v valid and invalid scopes", counts)
	}
}

// TestPrototypesAgainstModel compares the definitions with the model for all
// short texts, and for texts of pieces of prototypes.
func TestPrototypesAgainstModel(t *testing.T) {
	t.Parallel()
	defined := 0
	check := func(prototype string) {
		want := modelDefineFunction(impl.Scope{}, prototype, "")
		checkScopeResult(t, "DefineFunction: "+prototype, changedScope(impl.DefineFunction(impl.Scope{}, prototype, "")), want)
		checkScopeResult(t, "DefineType: "+prototype, changedScope(impl.DefineType(impl.Scope{}, prototype)), modelDefineType(impl.Scope{}, prototype))
		if want.code == impl.OK {
			defined++
		}
	}
	eachText("FX(),1 ", 6, check)
	eachText("abcdefghi", 6, func(s string) {
		pieces := []string{"F", "(", ")", ",", "X", "Y1", "F(X", "ABCDEFGHIJKL", "Z,"}
		var prototype strings.Builder
		for i := range len(s) {
			prototype.WriteString(pieces[s[i]-'a'])
		}
		if len(s) > 4 && s[0] == 'g' || len(s) <= 4 {
			check(prototype.String())
		}
	})
	for _, row := range functionRows() {
		for i := range len(row.prototype) + 1 {
			for _, s := range append(allBytes(), "", "AB", "(X)", ",A") {
				check(row.prototype[:i] + s + row.prototype[i:])
				if i < len(row.prototype) {
					check(row.prototype[:i] + s + row.prototype[i+1:])
				}
			}
		}
	}
	if defined < 2000 {
		t.Errorf("only %d prototypes were defined", defined)
	}
}
