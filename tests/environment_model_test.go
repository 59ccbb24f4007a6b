package tests

import (
	"fmt"
	"maps"
	"regexp"
	"slices"
	"strings"
	"testing"

	"loop.example/g00873/impl"
)

// binding, function and recordType return elements of scopes.
func binding(name string, v impl.Value) impl.Binding {
	return impl.Binding{Name: name, Value: v}
}

func function(name, label string, params, locals []string) impl.Function {
	return impl.Function{Name: name, Params: params, Locals: locals, Label: label}
}

func recordType(name string, fields ...string) impl.RecordType {
	return impl.RecordType{Name: name, Fields: fields}
}

// varsOf returns a scope with variables only.
func varsOf(list ...impl.Binding) impl.Scope {
	return impl.Scope{Vars: list}
}

func functionsOf(list ...impl.Function) impl.Scope {
	return impl.Scope{Functions: list}
}

func typesOf(list ...impl.RecordType) impl.Scope {
	return impl.Scope{Types: list}
}

// namesTo returns different names in ascending order.
func namesTo(count int) []string {
	var names []string
	for i := range count {
		names = append(names, fmt.Sprintf("N%03d", i))
	}
	return names
}

func equalFunctions(a, b impl.Function) bool {
	return a.Name == b.Name && a.Label == b.Label && slices.Equal(a.Params, b.Params) && slices.Equal(a.Locals, b.Locals)
}

func equalTypes(a, b impl.RecordType) bool {
	return a.Name == b.Name && slices.Equal(a.Fields, b.Fields)
}

func equalScopes(a, b impl.Scope) bool {
	return slices.Equal(a.Vars, b.Vars) && slices.EqualFunc(a.Functions, b.Functions, equalFunctions) && slices.EqualFunc(a.Types, b.Types, equalTypes)
}

func copyScope(s impl.Scope) impl.Scope {
	s.Vars, s.Functions, s.Types = slices.Clone(s.Vars), slices.Clone(s.Functions), slices.Clone(s.Types)
	for i, f := range s.Functions {
		s.Functions[i].Params, s.Functions[i].Locals = slices.Clone(f.Params), slices.Clone(f.Locals)
	}
	for i, x := range s.Types {
		s.Types[i].Fields = slices.Clone(x.Fields)
	}
	return s
}

// scopeResult is what a function of chapter 18 returns: each of them returns some of this.
type scopeResult struct {
	s      impl.Scope
	v      impl.Value
	f      impl.Function
	r      impl.RecordType
	saved  []impl.Binding
	roots  []impl.Value
	found  bool
	code   int64
	answer string
}

// lookedUp, changedScope, foundFunction, foundType and withRoots take the results of the functions.
func lookedUp(v impl.Value, code int64) scopeResult {
	return scopeResult{v: v, code: code}
}

func changedScope(s impl.Scope, code int64) scopeResult {
	return scopeResult{s: s, code: code}
}

func foundFunction(f impl.Function, found bool) scopeResult {
	return scopeResult{f: f, found: found}
}

func foundType(r impl.RecordType, found bool) scopeResult {
	return scopeResult{r: r, found: found}
}

func withRoots(s impl.Scope, found bool) scopeResult {
	return scopeResult{s: s, found: found}
}

func equalScopeResults(a, b scopeResult) bool {
	return equalScopes(a.s, b.s) && a.v == b.v && equalFunctions(a.f, b.f) && equalTypes(a.r, b.r) && slices.Equal(a.saved, b.saved) &&
		slices.Equal(a.roots, b.roots) && a.found == b.found && a.code == b.code && a.answer == b.answer
}

func checkScopeResult(t *testing.T, what string, got, want scopeResult) {
	t.Helper()
	if !equalScopeResults(got, want) {
		t.Errorf("%.300s: got %.1000q, want %.1000q", what, fmt.Sprint(got), fmt.Sprint(want))
	}
}

// areNames reports whether all elements of a list are names, and all different.
func areNames(list []string) bool {
	different := map[string]bool{}
	for _, name := range list {
		if !nameSyntax.MatchString(name) {
			return false
		}
		different[name] = true
	}
	return len(different) == len(list)
}

// areAscending reports whether the names of a list are strictly increasing.
func areAscending(names []string) bool {
	for i := 1; i < len(names); i++ {
		if strings.Compare(names[i-1], names[i]) != -1 {
			return false
		}
	}
	return true
}

func modelFunction(f impl.Function) bool {
	return areNames([]string{f.Name}) && areNames([]string{f.Label}) && len(f.Params) <= 6 && len(f.Locals) <= 6 && areNames(slices.Concat(f.Params, f.Locals))
}

func modelType(r impl.RecordType) bool {
	return areNames([]string{r.Name}) && len(r.Fields) >= 1 && len(r.Fields) <= 6 && areNames(r.Fields)
}

// modelScope reports whether a scope is valid.
func modelScope(s impl.Scope) bool {
	if len(s.Vars) > 40 || len(s.Functions) > 12 || len(s.Types) > 8 {
		return false
	}
	var vars, functions, types []string
	for _, b := range s.Vars {
		if !areNames([]string{b.Name}) || !modelValid(b.Value) || b.Value == stringOf("") {
			return false
		}
		vars = append(vars, b.Name)
	}
	for _, f := range s.Functions {
		if !modelFunction(f) {
			return false
		}
		functions = append(functions, f.Name)
	}
	for _, r := range s.Types {
		if !modelType(r) {
			return false
		}
		types = append(types, r.Name)
	}
	return areAscending(vars) && areAscending(functions) && areAscending(types)
}

// scopeMaps is a scope without an order.
type scopeMaps struct {
	vars      map[string]impl.Value
	functions map[string]impl.Function
	types     map[string]impl.RecordType
}

func mapsOf(s impl.Scope) scopeMaps {
	m := scopeMaps{map[string]impl.Value{}, map[string]impl.Function{}, map[string]impl.RecordType{}}
	for _, b := range s.Vars {
		m.vars[b.Name] = b.Value
	}
	for _, f := range s.Functions {
		m.functions[f.Name] = f
	}
	for _, r := range s.Types {
		m.types[r.Name] = r
	}
	return m
}

func (m scopeMaps) scope() impl.Scope {
	var s impl.Scope
	for _, name := range slices.Sorted(maps.Keys(m.vars)) {
		s.Vars = append(s.Vars, binding(name, m.vars[name]))
	}
	for _, name := range slices.Sorted(maps.Keys(m.functions)) {
		s.Functions = append(s.Functions, m.functions[name])
	}
	for _, name := range slices.Sorted(maps.Keys(m.types)) {
		s.Types = append(s.Types, m.types[name])
	}
	return s
}

// value returns the value of a variable.
func (m scopeMaps) value(name string) impl.Value {
	if v, found := m.vars[name]; found {
		return v
	}
	return stringOf("")
}

func modelLookup(s impl.Scope, name string) scopeResult {
	if !modelScope(s) || !nameSyntax.MatchString(name) {
		return scopeResult{code: impl.ErrInvalid}
	}
	return scopeResult{v: mapsOf(s).value(name)}
}

// modelAssign assigns values one after the other.
func modelAssign(s impl.Scope, list ...impl.Binding) scopeResult {
	if !modelScope(s) {
		return scopeResult{code: impl.ErrInvalid}
	}
	m := mapsOf(s)
	for _, b := range list {
		if !nameSyntax.MatchString(b.Name) || !modelValid(b.Value) {
			return scopeResult{code: impl.ErrInvalid}
		}
		m.vars[b.Name] = b.Value
		if b.Value == stringOf("") {
			delete(m.vars, b.Name)
		}
		if len(m.vars) > 40 {
			return scopeResult{code: impl.ErrFull}
		}
	}
	return scopeResult{s: m.scope()}
}

// The parts of a prototype.
const (
	nameText = `[A-Za-z][A-Za-z0-9_]{0,11}`
	listText = `|` + nameText + `(?:,` + nameText + `)*`
)

var prototypeSyntax = regexp.MustCompile(`\A(` + nameText + `)\((` + listText + `)\)(` + listText + `)\z`)

// modelPrototype returns the parts of a prototype, and whether it is one.
func modelPrototype(s string) (name string, first, second []string, ok bool) {
	m := prototypeSyntax.FindStringSubmatch(s)
	if m == nil {
		return "", nil, nil, false
	}
	separated := func(r rune) bool { return r == ',' }
	return m[1], strings.FieldsFunc(m[2], separated), strings.FieldsFunc(m[3], separated), true
}

func modelDefineFunction(s impl.Scope, prototype, label string) scopeResult {
	if !modelScope(s) || label != "" && !nameSyntax.MatchString(label) {
		return scopeResult{code: impl.ErrInvalid}
	}
	name, params, locals, ok := modelPrototype(prototype)
	if label == "" {
		label = name
	}
	f := function(name, label, params, locals)
	if !ok || !modelFunction(f) {
		return scopeResult{code: impl.ErrSyntax}
	}
	m := mapsOf(s)
	m.functions[name] = f
	if len(m.functions) > 12 {
		return scopeResult{code: impl.ErrFull}
	}
	return scopeResult{s: m.scope()}
}

func modelDefineType(s impl.Scope, prototype string) scopeResult {
	if !modelScope(s) {
		return scopeResult{code: impl.ErrInvalid}
	}
	name, fields, rest, ok := modelPrototype(prototype)
	r := recordType(name, fields...)
	if !ok || len(rest) > 0 || !modelType(r) {
		return scopeResult{code: impl.ErrSyntax}
	}
	m := mapsOf(s)
	m.types[name] = r
	if len(m.types) > 8 {
		return scopeResult{code: impl.ErrFull}
	}
	return scopeResult{s: m.scope()}
}

func modelSaved(s impl.Scope, names []string) []impl.Binding {
	if !modelScope(s) {
		return nil
	}
	var saved []impl.Binding
	for _, name := range names {
		if !nameSyntax.MatchString(name) {
			return nil
		}
		saved = append(saved, binding(name, mapsOf(s).value(name)))
	}
	return saved
}

func modelWithRoots(s impl.Scope, roots []impl.Value) scopeResult {
	if !modelScope(s) || len(roots) != len(s.Vars) {
		return scopeResult{}
	}
	s = copyScope(s)
	for i, v := range roots {
		s.Vars[i].Value = v
	}
	if !modelScope(s) {
		return scopeResult{}
	}
	return scopeResult{s: s, found: true}
}

// exampleScope returns a scope with values of all kinds, and definitions of all sorts.
func exampleScope() impl.Scope {
	return impl.Scope{
		Vars: []impl.Binding{
			binding("A", integerOf(1)), binding("AA", stringOf("x")), binding("A_", patternOf("rem")), binding("B", arrayRef(1)), binding("F", tableRef(2)),
			binding("a", recordRef(4)), binding("b", nameOf("A")), binding("zZ_9", deferOf("C")),
		},
		Functions: []impl.Function{function("F", "F", []string{"X", "Y"}, []string{"A"}), function("G", "LABEL", nil, nil), function("SIZE", "END", []string{"SIZE"}, nil), function("f", "F", nil, []string{"f", "F"})},
		Types:     []impl.RecordType{recordType("F", "X"), recordType("NODE", "LEFT", "RIGHT", "NODE"), recordType("f", "x", "X")},
	}
}

// fullScope returns a scope that is as large as possible.
func fullScope() impl.Scope {
	var s impl.Scope
	for _, name := range namesTo(40) {
		s.Vars = append(s.Vars, binding(name, stringOf(strings.Repeat("x", 200))))
	}
	for _, name := range namesTo(12) {
		s.Functions = append(s.Functions, function(name, "ABCDEFGHIJKL", namesTo(6), namesTo(12)[6:]))
	}
	for _, name := range namesTo(8) {
		s.Types = append(s.Types, recordType(name, namesTo(6)...))
	}
	return s
}

// namedScope is a scope with a description.
type namedScope struct {
	what string
	s    impl.Scope
}

// validScopes returns scopes that are just valid.
func validScopes() []namedScope {
	x := integerOf(1)
	return []namedScope{
		{"the zero scope", impl.Scope{}},
		{"empty lists", impl.Scope{Vars: []impl.Binding{}, Functions: []impl.Function{}, Types: []impl.RecordType{}}},
		{"values and definitions of all sorts", exampleScope()},
		{"as much as possible", fullScope()},
		{"a variable", varsOf(binding("X", x))},
		{"similar names", varsOf(binding("A", x), binding("A0", x), binding("AA", x), binding("AB", x), binding("A_", x), binding("Aa", x), binding("a", x))},
		{"long names", varsOf(binding("ABCDEFGHIJKL", x), binding("abcdefghijkl", x))},
		{"a function without variables", functionsOf(function("F", "G", nil, nil))},
		{"a function with empty lists", functionsOf(function("F", "G", []string{}, []string{}))},
		{"a function with as many parameters as possible", functionsOf(function("F", "F", namesTo(6), nil))},
		{"a function with as many local variables as possible", functionsOf(function("F", "F", nil, namesTo(6)))},
		{"a function that is its own parameter", functionsOf(function("F", "F", []string{"F"}, nil))},
		{"a function that is its own local variable", functionsOf(function("F", "F", []string{"f"}, []string{"F"}))},
		{"a type with one field", typesOf(recordType("R", "R"))},
		{"a type with as many fields as possible", typesOf(recordType("R", namesTo(6)...))},
		{"types with the same fields", typesOf(recordType("R", "X", "Y"), recordType("S", "X", "Y"))},
		{"a function and a type with the same name", impl.Scope{Functions: []impl.Function{function("R", "R", nil, nil)}, Types: []impl.RecordType{recordType("R", "X")}}},
	}
}

// invalidScopes returns scopes of which each is invalid for another reason.
func invalidScopes() []namedScope {
	x := integerOf(1)
	full := fullScope()
	list := []namedScope{
		{"a variable more", impl.Scope{Vars: append(full.Vars[:40:40], binding("Z", x))}},
		{"a function more", impl.Scope{Functions: append(full.Functions[:12:12], function("Z", "Z", nil, nil))}},
		{"a type more", impl.Scope{Types: append(full.Types[:8:8], recordType("Z", "X"))}},
		{"very many variables", impl.Scope{Vars: make([]impl.Binding, 500000)}},
		{"very many functions", impl.Scope{Functions: make([]impl.Function, 500000)}},
		{"very many types", impl.Scope{Types: make([]impl.RecordType, 500000)}},
		{"a variable twice", varsOf(binding("A", x), binding("A", x))},
		{"a variable with two values", varsOf(binding("A", x), binding("B", x), binding("B", integerOf(2)))},
		{"variables in descending order", varsOf(binding("B", x), binding("A", x))},
		{"variables in another order", varsOf(binding("a", x), binding("B", x))},
		{"a variable with the null value", varsOf(binding("A", stringOf("")))},
		{"a variable with the null value behind others", varsOf(binding("A", x), binding("B", stringOf("")))},
		{"the zero variable", varsOf(impl.Binding{})},
		{"a function twice", functionsOf(function("F", "F", nil, nil), function("F", "F", nil, nil))},
		{"functions in descending order", functionsOf(function("G", "G", nil, nil), function("F", "F", nil, nil))},
		{"the zero function", functionsOf(impl.Function{})},
		{"a function without a label", functionsOf(function("F", "", nil, nil))},
		{"a parameter more", functionsOf(function("F", "F", namesTo(7), nil))},
		{"a local variable more", functionsOf(function("F", "F", nil, namesTo(7)))},
		{"very many parameters", functionsOf(function("F", "F", make([]string, 500000), nil))},
		{"a parameter twice", functionsOf(function("F", "F", []string{"A", "B", "A"}, nil))},
		{"a local variable twice", functionsOf(function("F", "F", nil, []string{"A", "A"}))},
		{"a variable in both lists", functionsOf(function("F", "F", []string{"A", "B"}, []string{"C", "A"}))},
		{"a variable at the ends of both lists", functionsOf(function("F", "F", namesTo(6), append(namesTo(11)[6:], "N005")))},
		{"an invalid function behind others", functionsOf(function("F", "F", nil, nil), function("G", "1", nil, nil))},
		{"a type twice", typesOf(recordType("R", "X"), recordType("R", "X"))},
		{"types in descending order", typesOf(recordType("S", "X"), recordType("R", "X"))},
		{"the zero type", typesOf(impl.RecordType{})},
		{"a type without fields", typesOf(recordType("R"))},
		{"a field more", typesOf(recordType("R", namesTo(7)...))},
		{"very many fields", typesOf(recordType("R", make([]string, 500000)...))},
		{"a field twice", typesOf(recordType("R", "X", "Y", "X"))},
		{"an invalid type behind others", typesOf(recordType("R", "X"), recordType("S", ""))},
	}
	for _, name := range noNames() {
		what := fmt.Sprintf("%.20q as ", name)
		list = append(list,
			namedScope{what + "a variable", varsOf(binding(name, x))},
			namedScope{what + "a function", functionsOf(function(name, "F", nil, nil))},
			namedScope{what + "a label", functionsOf(function("F", name, nil, nil))},
			namedScope{what + "a parameter", functionsOf(function("F", "F", []string{"A", name}, nil))},
			namedScope{what + "a local variable", functionsOf(function("F", "F", []string{"A"}, []string{name, "B"}))},
			namedScope{what + "a type", typesOf(recordType(name, "X"))},
			namedScope{what + "a field", typesOf(recordType("R", "X", name))},
		)
	}
	for _, v := range invalidValues() {
		list = append(list, namedScope{fmt.Sprintf("the value %.40q", fmt.Sprint(v)), varsOf(binding("A", x), binding("B", v), binding("C", x))})
	}
	return list
}
