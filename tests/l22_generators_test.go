package tests

import (
	"fmt"
	"math"
	"slices"
	"strings"
	"testing"

	"loop.example/g00873/impl"
)

// gen returns the expression with a text form.
func gen(t *testing.T, s string) impl.Gen {
	t.Helper()
	e, ok := impl.ReadGen(s)
	if !ok {
		t.Fatalf("ReadGen(%.200q)", s)
	}
	return e
}

// genNode returns a node with Kids.
func genNode(kind int64, kids ...impl.Gen) impl.Gen {
	return impl.Gen{Kind: kind, Kids: kids}
}

func genValue(v impl.Value) impl.Gen { return impl.Gen{Kind: impl.GnValue, Value: v} }
func genVar(name string) impl.Gen    { return impl.Gen{Kind: impl.GnVar, Text: name} }

func genLimit(n int64, kid impl.Gen) impl.Gen {
	return impl.Gen{Kind: impl.GnLimit, Num: n, Kids: []impl.Gen{kid}}
}

// genNamed returns a node with a name or an operator.
func genNamed(kind int64, name string, kids ...impl.Gen) impl.Gen {
	return impl.Gen{Kind: kind, Text: name, Kids: kids}
}

// stacking returns an expression of count nodes more than another one, in a chain.
func stacking(count int, e impl.Gen) impl.Gen {
	for range count {
		e = genNode(impl.GnNot, e)
	}
	return e
}

// phase returns a cursor with Kids and without values.
func phase(n int64, kids ...impl.Cursor) impl.Cursor {
	return impl.Cursor{Phase: n, Kids: kids}
}

// operandCursor returns a cursor of an expression with operands that are values of variables or of GnValue.
func operandCursor(count int64, vals ...impl.Value) impl.Cursor {
	return impl.Cursor{Phase: 1, Count: count, Vals: vals, Kids: slices.Repeat([]impl.Cursor{phase(1)}, len(vals))}
}

// stepsFor returns a scope with a number of steps and variables.
func stepsFor(steps int64, vars ...impl.Binding) impl.GenScope {
	return impl.GenScope{Vars: vars, Steps: steps}
}

// objectScope returns a scope with objects of all kinds, which variables refer to.
func objectScope() impl.GenScope {
	return impl.GenScope{
		Vars: []impl.Binding{binding("D", deferOf("X")), binding("L", arrayRef(1)), binding("N", nameOf("X")), binding("P", patternOf("rem")), binding("R", recordRef(4)), binding("T", tableRef(2)), binding("Z", arrayRef(8))},
		Heap: heapWith(9,
			impl.Object{Id: 1, Kind: impl.ObArray, Low: -1, Vals: []impl.Value{integerOf(7), stringOf("x"), arrayRef(1)}},
			tableWith(2, integerOf(9), stringOf("k"), integerOf(1), integerOf(1), tableRef(2), patternOf("rem"), stringOf("")),
			recordWith(4, "NODE", integerOf(5), recordRef(4)),
			arrayWith(8),
		),
		Steps: 1000,
	}
}

// formsOf returns the text forms of values, separated by blanks.
func formsOf(list []impl.Value) string {
	var texts []string
	for _, v := range list {
		texts = append(texts, impl.ValueText(v))
	}
	return strings.Join(texts, " ")
}

func varTexts(list []impl.Binding) string {
	var texts []string
	for _, b := range list {
		texts = append(texts, b.Name+"="+impl.ValueText(b.Value))
	}
	return strings.Join(texts, " ")
}

// genCase is an expression with its results, the code with which its evaluation ends, the steps that
// this needs, and the variables behind it.
type genCase struct {
	text, results string
	code, steps   int64
	vars          string
}

// seriesOf resumes an expression again and again, and returns the results and the last outcome.
func seriesOf(s impl.GenScope, e impl.Gen, limit int) ([]impl.Value, genResult) {
	var list []impl.Value
	last := genResult{s: s, found: true}
	for last.found && len(list) < limit {
		last = resumed(impl.Resume(last.s, e, last.c))
		if last.found {
			list = append(list, last.v)
		}
	}
	return list, last
}

// checkGenCases checks expressions in a scope with as many steps as they need, with more, and with one less.
func checkGenCases(t *testing.T, s impl.GenScope, cases []genCase) {
	t.Helper()
	for _, c := range cases {
		e := gen(t, c.text)
		for _, more := range []int64{0, 1, 500} {
			s.Steps = c.steps + more
			list, last := seriesOf(s, e, 100)
			what := fmt.Sprintf("%s with %d steps", c.text, s.Steps)
			checkEqual(t, what+": results", formsOf(list), c.results)
			checkEqual(t, what+": code", last.code, c.code)
			all := allOf(impl.AllResults(s, e, 60))
			if c.code != impl.OK {
				checkGenResult(t, what, last, genResult{code: c.code})
				checkGenResult(t, what+", all", all, genResult{code: c.code})
				continue
			}
			checkEqual(t, what+": steps left", last.s.Steps, more)
			checkEqual(t, what+": variables", varTexts(last.s.Vars), c.vars)
			checkGenResult(t, what+", all", all, genResult{s: last.s, list: list, found: true})
		}
		s.Steps = c.steps - 1
		list, last := seriesOf(s, e, 100)
		checkGenResult(t, c.text+" with a step less", last, genResult{code: impl.ErrSteps})
		if !strings.HasPrefix(c.results, formsOf(list)) {
			t.Errorf("%s with a step less: %s", c.text, formsOf(list))
		}
		checkGenResult(t, c.text+" with a step less, all", allOf(impl.AllResults(s, e, 60)), genResult{code: impl.ErrSteps})
		s.Steps = 0
		checkGenResult(t, c.text+" without steps", resumed(impl.Resume(s, e, impl.Cursor{})), genResult{code: impl.ErrSteps})
	}
}

func TestGeneratorConstants(t *testing.T) {
	checkList(t, "limits", []int64{impl.MaxGenSteps, impl.MaxResults, impl.MaxCos, impl.MaxActive}, []int64{20000, 60, 8, 6})
	checkList(t, "kinds", []int64{impl.GnValue, impl.GnVar, impl.GnFail, impl.GnAlt, impl.GnAnd, impl.GnLimit, impl.GnNot, impl.GnIf, impl.GnEvery, impl.GnRepeat, impl.GnOp, impl.GnTo, impl.GnEach, impl.GnIndex, impl.GnStore, impl.GnSet, impl.GnBack, impl.GnActivate}, []int64{1, 2, 3, 4, 5, 6, 7, 8, 9, 10, 11, 12, 13, 14, 15, 16, 17, 18})
}

func TestGeneratorExamples(t *testing.T) {
	_, isText := impl.ReadGen("to(1,3)")
	checkEqual(t, "to(1,3)", isText, false)
	text := "and(set(X,to(1,3,1)),gt(X,1))"
	checkEqual(t, text, impl.GenText(gen(t, text)), text)
	e := gen(t, "alt(1,2)")
	s, c, v, found, code := impl.Resume(stepsFor(7), e, impl.Cursor{})
	checkGenResult(t, "first", resumed(s, c, v, found, code), genResult{s: stepsFor(5), c: phase(1, phase(1)), v: integerOf(1), found: true})
	s, c, v, found, code = impl.Resume(s, e, c)
	checkGenResult(t, "second", resumed(s, c, v, found, code), genResult{s: stepsFor(2), c: phase(2, phase(1)), v: integerOf(2), found: true})
	checkGenResult(t, "third", resumed(impl.Resume(s, e, c)), genResult{s: stepsFor(0)})
	checkGenCases(t, impl.GenScope{}, []genCase{
		{"and(set(X,to(1,3,1)),mul(X,X))", "1 4 9", impl.OK, 36, "X=3"},
		{"and(back(X,to(1,3,1)),mul(X,X))", "1 4 9", impl.OK, 36, ""},
		{"limit(5,repeat(alt(1,2)))", "1 2 1 2 1", impl.OK, 27, ""},
		{"limit(1,alt(1,div(1,0)))", "1", impl.OK, 4, ""},
	})
	list, code := impl.StreamOf(impl.GenScope{}, gen(t, "to(1,100,1)"))
	checkList(t, "to(1,100,1)", list, integersTo(60))
	checkEqual(t, "to(1,100,1): ending", code, impl.ErrFull)
	list, code = impl.StreamOf(impl.GenScope{}, gen(t, "alt(1,div(1,0))"))
	checkList(t, "alt(1,div(1,0))", list, integersTo(1))
	checkEqual(t, "alt(1,div(1,0)): ending", code, impl.ErrDivision)
}

// TestControl has the kinds without operands, with Kids that fail, that have one or several results, and that end with a code.
func TestControl(t *testing.T) {
	checkGenCases(t, stepsFor(0, binding("X", integerOf(7))), []genCase{
		{"1", "1", impl.OK, 2, "X=7"},
		{`"a"`, `"a"`, impl.OK, 2, "X=7"},
		{"X", "7", impl.OK, 2, "X=7"},
		{"Y", `""`, impl.OK, 2, "X=7"},
		{"x", `""`, impl.OK, 2, "X=7"},
		{"fail", `""`, impl.OK, 2, "X=7"},
		{"fail()", "", impl.OK, 1, "X=7"},
		{"alt(1,2)", "1 2", impl.OK, 7, "X=7"},
		{"alt(fail(),2)", "2", impl.OK, 5, "X=7"},
		{"alt(1,fail())", "1", impl.OK, 5, "X=7"},
		{"alt(fail(),fail())", "", impl.OK, 3, "X=7"},
		{"alt(alt(1,2),alt(3,4))", "1 2 3 4", impl.OK, 19, "X=7"},
		{"alt(div(1,0),2)", "", impl.ErrDivision, 4, ""},
		{"alt(1,div(1,0))", "1", impl.ErrDivision, 7, ""},
		{"alt(1,alt(2,div(1,0)))", "1 2", impl.ErrDivision, 12, ""},
		{"and(1,2)", "2", impl.OK, 6, "X=7"},
		{"and(alt(1,2),3)", "3 3", impl.OK, 14, "X=7"},
		{"and(1,alt(2,3))", "2 3", impl.OK, 12, "X=7"},
		{"and(alt(1,2),alt(3,4))", "3 4 3 4", impl.OK, 26, "X=7"},
		{"and(fail(),div(1,0))", "", impl.OK, 2, "X=7"},
		{"and(alt(1,2),fail())", "", impl.OK, 10, "X=7"},
		{"and(div(1,0),2)", "", impl.ErrDivision, 4, ""},
		{"and(1,div(1,0))", "", impl.ErrDivision, 5, ""},
		{"and(alt(1,2),alt(3,div(1,0)))", "3", impl.ErrDivision, 11, ""},
		{"and(alt(1,div(1,0)),alt(3,4))", "3 4", impl.ErrDivision, 17, ""},
		{"limit(0,div(1,0))", "", impl.OK, 1, "X=7"},
		{"limit(0,1)", "", impl.OK, 1, "X=7"},
		{"limit(1,1)", "1", impl.OK, 3, "X=7"},
		{"limit(1,alt(1,2))", "1", impl.OK, 4, "X=7"},
		{"limit(2,alt(1,2))", "1 2", impl.OK, 8, "X=7"},
		{"limit(3,alt(1,2))", "1 2", impl.OK, 10, "X=7"},
		{"limit(60,alt(1,2))", "1 2", impl.OK, 10, "X=7"},
		{"limit(2,fail())", "", impl.OK, 2, "X=7"},
		{"limit(1,div(1,0))", "", impl.ErrDivision, 4, ""},
		{"limit(2,alt(1,div(1,0)))", "1", impl.ErrDivision, 9, ""},
		{"limit(2,limit(1,alt(1,2)))", "1", impl.OK, 6, "X=7"},
		{"not(fail())", `""`, impl.OK, 3, "X=7"},
		{"not(1)", "", impl.OK, 2, "X=7"},
		{"not(alt(1,div(1,0)))", "", impl.OK, 3, "X=7"},
		{"not(div(1,0))", "", impl.ErrDivision, 4, ""},
		{"not(alt(fail(),div(1,0)))", "", impl.ErrDivision, 6, ""},
		{"not(not(fail()))", "", impl.OK, 3, "X=7"},
		{"not(not(1))", `""`, impl.OK, 4, "X=7"},
		{"if(1,alt(2,3),div(1,0))", "2 3", impl.OK, 11, "X=7"},
		{"if(alt(1,div(1,0)),2,3)", "2", impl.OK, 6, "X=7"},
		{"if(fail(),div(1,0),alt(2,3))", "2 3", impl.OK, 11, "X=7"},
		{"if(1,fail(),2)", "", impl.OK, 3, "X=7"},
		{"if(fail(),2,fail())", "", impl.OK, 3, "X=7"},
		{"if(div(1,0),2,3)", "", impl.ErrDivision, 4, ""},
		{"if(1,div(1,0),3)", "", impl.ErrDivision, 5, ""},
		{"if(1,alt(2,div(1,0)),3)", "2", impl.ErrDivision, 10, ""},
		{"if(fail(),2,alt(3,div(1,0)))", "3", impl.ErrDivision, 10, ""},
		{"every(alt(1,2),3)", "", impl.OK, 10, "X=7"},
		{"every(alt(1,2),fail())", "", impl.OK, 10, "X=7"},
		{"every(alt(1,2),alt(3,div(1,0)))", "", impl.OK, 12, "X=7"},
		{"every(fail(),div(1,0))", "", impl.OK, 2, "X=7"},
		{"every(1,div(1,0))", "", impl.ErrDivision, 5, ""},
		{"every(div(1,0),1)", "", impl.ErrDivision, 4, ""},
		{"every(alt(1,div(1,0)),3)", "", impl.ErrDivision, 9, ""},
		{"every(set(Y,to(1,4,1)),set(Z,add(Z,Y)))", "", impl.OK, 33, "X=7 Y=4 Z=10"},
		{"limit(3,repeat(1))", "1 1 1", impl.OK, 12, "X=7"},
		{"limit(4,repeat(alt(1,2)))", "1 2 1 2", impl.OK, 21, "X=7"},
		{"repeat(fail())", "", impl.OK, 3, "X=7"},
		{"repeat(div(1,0))", "", impl.ErrDivision, 4, ""},
		{"repeat(alt(1,div(1,0)))", "1", impl.ErrDivision, 9, ""},
		{"limit(3,repeat(limit(2,back(Y,add(Y,1)))))", "1 1 1", impl.OK, 32, "X=7 Y=1"},
		{"repeat(and(gt(3,X),set(X,add(X,1))))", "", impl.OK, 13, "X=7"},
		{"repeat(and(gt(9,X),set(X,add(X,1))))", "8 9", impl.OK, 41, "X=9"},
	})
}

// TestOperands has combinations of operands in their order.
func TestOperands(t *testing.T) {
	checkGenCases(t, impl.GenScope{}, []genCase{
		{"add(1,2)", "3", impl.OK, 6, ""},
		{"add(alt(10,20),alt(1,2))", "11 12 21 22", impl.OK, 26, ""},
		{"cat(alt(1,2),alt(3,4))", `"13" "14" "23" "24"`, impl.OK, 26, ""},
		{"lt(alt(1,5),3)", "3", impl.OK, 13, ""},
		{"add(fail(),div(1,0))", "", impl.OK, 2, ""},
		{"add(alt(1,2),fail())", "", impl.OK, 10, ""},
		{"add(div(1,0),fail())", "", impl.ErrDivision, 4, ""},
		{"add(1,div(1,0))", "", impl.ErrDivision, 5, ""},
		{"add(alt(1,2),alt(3,div(1,0)))", "4", impl.ErrDivision, 11, ""},
		{"to(1,3,1)", "1 2 3", impl.OK, 10, ""},
		{"to(alt(1,3),alt(2,4),1)", "1 2 1 2 3 4 3 4", impl.OK, 38, ""},
		{"to(1,fail(),div(1,0))", "", impl.OK, 4, ""},
		{"each(\"ab\")", `"a" "b"`, impl.OK, 5, ""},
		{"each(alt(\"ab\",12))", `"a" "b" "1" "2"`, impl.OK, 12, ""},
		{"each(fail())", "", impl.OK, 2, ""},
		{"index(\"ab\",alt(1,2))", `"a" "b"`, impl.OK, 12, ""},
		{"set(X,alt(1,2))", "1 2", impl.OK, 10, "X=2"},
		{"set(X,fail())", "", impl.OK, 2, ""},
		{"back(X,alt(1,2))", "1 2", impl.OK, 10, ""},
		{"back(X,fail())", "", impl.OK, 2, ""},
		// The Kid before the one that fails is resumed, and those after it see what it has changed.
		{"add(set(X,to(1,3,1)),set(Y,mul(X,10)))", "11 22 33", impl.OK, 42, "X=3 Y=30"},
		{"cat(cat(set(X,alt(1,2)),set(Y,cat(X,\"-\"))),Y)", `"11-1-" "22-2-"`, impl.OK, 36, `X=2 Y="2-"`},
		{"add(X,set(X,add(X,1)))", "1", impl.OK, 12, "X=1"},
		{"add(set(X,5),X)", "10", impl.OK, 8, "X=5"},
	})
}

// TestOperators has each operator with each sort of operands, at the limits too.
func TestOperators(t *testing.T) {
	long := strings.Repeat("x", 200)
	s := objectScope()
	s.Vars = append(s.Vars, binding("a", stringOf(long)), binding("b", stringOf(long[1:])))
	rows := map[string]string{
		"add(2,3)": "5", "add(999999999999,1)": "1000000000000", "add(-999999999999,-1)": "-1000000000000", "add(1000000000000,1)": "range", "add(-1000000000000,-1)": "range", `add("+2","")`: "2", `add("2 ",1)`: "type", "add(1,L)": "type", "add(P,1)": "type", "add(N,D)": "type", "add(1,1000000000001)": "",
		"sub(2,3)": "-1", "sub(-1000000000000,1)": "range", "sub(-999999999999,1)": "-1000000000000", `sub("","-5")`: "5", "sub(R,1)": "type",
		"mul(-2,3)": "-6", "mul(1000000,1000000)": "1000000000000", "mul(1000001,1000000)": "range", "mul(-1000000000000,1000000000000)": "range", "mul(1000000000000,1000000000000)": "range", "mul(T,0)": "type",
		"div(-7,2)": "-3", "div(7,-2)": "-3", "div(1,0)": "division", `div(1,"")`: "division", "div(L,0)": "type", "div(1000000000000,-1)": "-1000000000000",
		`cat("a","b")`: `"ab"`, "cat(1,-2)": `"1-2"`, `cat("","")`: `""`, `cat("",1)`: `"1"`, `cat("",L)`: "type", "cat(L,Y)": "type", "cat(P,1)": "type", "cat(1,N)": "type", "cat(1,D)": "type", "cat(R,T)": "type", "cat(b,1)": `"` + long[1:] + `1"`, "cat(a,Y)": `"` + long + `"`, "cat(a,1)": "range", "cat(1,a)": "range", "cat(b,10)": "range", "cat(a,L)": "type",
		"lt(1,2)": "2", "lt(2,2)": "-", "lt(3,2)": "-", `lt("1","02")`: `"02"`, `lt("",1)`: "1", `lt("a",1)`: "type", "lt(1,L)": "type", "lt(P,1)": "type",
		"le(1,2)": "2", "le(2,2)": "2", "le(3,2)": "-", "le(2,T)": "type",
		"eq(1,2)": "-", `eq(2,"+2")`: `"+2"`, `eq(0,"")`: `""`, "eq(3,2)": "-", "eq(L,L)": "type",
		"ne(1,2)": "2", `ne(2,"2")`: "-", "ne(3,2)": "2", "ne(R,R)": "type",
		"gt(1,2)": "-", "gt(2,2)": "-", "gt(3,2)": "2", "gt(D,2)": "type",
		"ge(1,2)": "-", "ge(2,2)": "2", "ge(3,2)": "2", "ge(2,N)": "type",
		`seq("a","a")`: `"a"`, `seq("a","b")`: "-", `seq("1",1)`: "1", `seq(1,"01")`: "-", `seq("","")`: `""`, "seq(L,L)": "type", "seq(1,P)": "type", `seq(N,"X")`: "type",
		`sne("a","a")`: "-", `sne("a","b")`: `"b"`, `sne(1,"1")`: "-", `sne(1,"01")`: `"01"`, "sne(D,1)": "type",
		`slt("a","b")`: `"b"`, `slt("b","a")`: "-", `slt("a","a")`: "-", `slt(10,9)`: "9", `slt("","a")`: `"a"`, `slt("a","")`: "-", `slt("B","a")`: `"a"`, `slt("a","aa")`: `"aa"`, "slt(1,T)": "type",
		"is(1,1)": "1", `is(1,"1")`: "-", "is(L,L)": "array#1", "is(L,Z)": "-", "is(P,P)": "<rem>", "is(N,N)": ".X", "is(D,D)": "*X", "is(N,D)": "-", `is(Y,"")`: `""`, "is(T,R)": "-",
	}
	seen := map[string]bool{}
	for text, want := range rows {
		e, ok := impl.ReadGen(text)
		if want == "" {
			checkEqual(t, text+" is read", ok, false)
			continue
		}
		seen[e.Text] = true
		list, last := seriesOf(s, gen(t, text), 10)
		got := formsOf(list)
		switch {
		case last.code != impl.OK:
			got += impl.CodeName(last.code)
		case len(list) == 0:
			got = "-"
		}
		checkEqual(t, text, got, want)
		checkEqual(t, text+": list", len(list) <= 1, true)
	}
	checkEqual(t, "operators", len(seen), len(genOperators))
}

// TestOperatorsWithManyValues compares each operator with the model for all pairs of values.
func TestOperatorsWithManyValues(t *testing.T) {
	var values []impl.Value
	for _, v := range operands() {
		if impl.ValidValue(v) && !impl.IsReference(v) {
			values = append(values, v)
		}
	}
	values = append(values, arrayRef(1), tableRef(2), recordRef(4))
	s := objectScope()
	codes := map[int64]int{}
	for _, operator := range genOperators {
		e := genNamed(impl.GnOp, operator, genVar("X"), genVar("Y"))
		for _, a := range values {
			for _, b := range values {
				s.Vars = nil
				for _, x := range []impl.Binding{binding("X", a), binding("Y", b)} {
					if !impl.IsNull(x.Value) {
						s.Vars = append(s.Vars, x)
					}
				}
				got := resumed(impl.Resume(s, e, impl.Cursor{}))
				codes[got.code]++
				v, found, code := modelOperate(operator, a, b)
				if got.code != code || got.found != found || got.v != v {
					t.Errorf("%s of %.50q and %.50q: got %.100q", operator, fmt.Sprint(a), fmt.Sprint(b), fmt.Sprint(got.v, got.found, got.code))
				}
			}
		}
	}
	for _, code := range []int64{impl.OK, impl.ErrType, impl.ErrRange, impl.ErrDivision} {
		if codes[code] < 100 {
			t.Errorf("the code %d was returned only %d times", code, codes[code])
		}
	}
}

// modelOperate returns the result of an operator, whether there is one, and the code.
func modelOperate(operator string, a, b impl.Value) (v impl.Value, found bool, code int64) {
	result := protected(func() genResult {
		v, found := (&genRun{}).operate(operator, a, b)
		return genResult{v: v, found: found}
	})
	if !result.found {
		result.v = impl.Value{}
	}
	return result.v, result.found, result.code
}

func TestTo(t *testing.T) {
	s := objectScope()
	for _, c := range []struct{ text, want string }{
		{"to(1,3,1)", "1 2 3"}, {"to(1,3,2)", "1 3"}, {"to(1,4,2)", "1 3"}, {"to(1,3,3)", "1"}, {"to(1,3,100)", "1"}, {"to(3,3,1)", "3"}, {"to(4,3,1)", ""}, {"to(4,3,100)", ""}, {"to(-1,1,1)", "-1 0 1"},
		{"to(3,1,-1)", "3 2 1"}, {"to(3,1,-2)", "3 1"}, {"to(4,1,-2)", "4 2"}, {"to(3,1,-3)", "3"}, {"to(3,3,-1)", "3"}, {"to(3,4,-1)", ""}, {"to(3,4,-100)", ""}, {"to(1,-1,-1)", "1 0 -1"},
		{"to(0,0,1)", "0"}, {"to(0,0,-1)", "0"}, {`to("","2","+1")`, "0 1 2"}, {`to("-01","1","")`, "range"}, {"to(1,3,0)", "range"}, {"to(3,1,0)", "range"}, {"to(1,1,0)", "range"},
		{"to(L,1,1)", "type"}, {"to(1,T,1)", "type"}, {"to(1,1,R)", "type"}, {"to(L,1,0)", "type"}, {"to(1,P,0)", "type"}, {`to("a",1,0)`, "type"}, {`to(1,1,"1.")`, "type"}, {"to(N,D,P)", "type"},
		{"to(999999999999,1000000000000,1)", "999999999999 1000000000000"}, {"to(-999999999999,-1000000000000,-1)", "-999999999999 -1000000000000"}, {"to(-1000000000000,1000000000000,1000000000000)", "-1000000000000 0 1000000000000"}, {"to(1000000000000,-1000000000000,-1000000000000)", "1000000000000 0 -1000000000000"},
		{"to(1,1000000000000,999999999999)", "1 1000000000000"}, {"to(2,1000000000000,999999999999)", "2"}, {"to(alt(1,L),1,1)", "1type"}, {"to(1,2,alt(1,0))", "1 2range"},
	} {
		list, last := seriesOf(s, gen(t, c.text), 100)
		got := formsOf(list)
		if last.code != impl.OK {
			got += impl.CodeName(last.code)
		}
		checkEqual(t, c.text, got, c.want)
	}
}

// toCase is a cursor of GnTo that was made by hand: three values and a Count.
type toCase struct {
	a, b, c impl.Value
	count   int64
	// want is the next result, or the name of a code, and empty if there is none.
	want string
}

func TestToResumed(t *testing.T) {
	e := gen(t, "to(fail(),fail(),fail())")
	checkEqual(t, "a cursor of Kids that fail", impl.ValidState(impl.GenScope{}, e, impl.Cursor{Phase: 1, Count: 1, Vals: integersTo(3), Kids: make([]impl.Cursor, 3)}), false)
	e = gen(t, "to(1,1,1)")
	const most, great = 2000000000001, 1000000000000
	for _, c := range []toCase{
		{integerOf(1), integerOf(9), integerOf(2), 1, "3"}, {integerOf(1), integerOf(9), integerOf(2), 4, "9"}, {integerOf(1), integerOf(9), integerOf(2), 5, ""}, {integerOf(1), integerOf(8), integerOf(2), 4, ""},
		{integerOf(9), integerOf(1), integerOf(-2), 4, "1"}, {integerOf(9), integerOf(1), integerOf(-2), 5, ""}, {integerOf(9), integerOf(2), integerOf(-2), 4, ""}, {integerOf(9), integerOf(1), integerOf(2), 1, ""}, {integerOf(1), integerOf(9), integerOf(-2), 1, ""},
		{integerOf(-great), integerOf(great), integerOf(1), 2 * great, "1000000000000"}, {integerOf(-great), integerOf(great), integerOf(1), 2*great - 1, "999999999999"}, {integerOf(-great), integerOf(great), integerOf(1), most, ""},
		{integerOf(great), integerOf(-great), integerOf(-1), 2 * great, "-1000000000000"}, {integerOf(great), integerOf(-great), integerOf(-1), most, ""}, {integerOf(-great), integerOf(great), integerOf(great), 2, "1000000000000"}, {integerOf(-great), integerOf(great), integerOf(great), most, ""}, {integerOf(great), integerOf(great), integerOf(great), most, ""}, {integerOf(great), integerOf(-great), integerOf(-great), most, ""}, {integerOf(-great), integerOf(-great), integerOf(great), 1, ""},
		{stringOf("5"), stringOf("+9"), stringOf("2"), 1, "7"}, {stringOf(""), integerOf(0), integerOf(1), 1, ""}, {integerOf(1), integerOf(9), integerOf(0), 1, "range"}, {integerOf(1), integerOf(9), stringOf(""), most, "range"}, {stringOf("x"), integerOf(9), integerOf(1), 1, "type"}, {integerOf(1), patternOf("rem"), integerOf(0), 1, "type"}, {integerOf(1), integerOf(1), nameOf("X"), 9, "type"},
	} {
		cursor := operandCursor(c.count, c.a, c.b, c.c)
		want := genResult{s: stepsFor(9), c: operandCursor(c.count+1, c.a, c.b, c.c), found: true}
		switch c.want {
		case "type":
			want = genResult{code: impl.ErrType}
		case "range":
			want = genResult{code: impl.ErrRange}
		case "":
			// The operands have no other combination.
			want = genResult{s: stepsFor(6)}
		default:
			want.v, _ = impl.ReadValue(c.want)
		}
		checkGenResult(t, fmt.Sprint(c), resumed(impl.Resume(stepsFor(10), e, cursor)), want)
	}
}

func TestEach(t *testing.T) {
	s := objectScope()
	for _, c := range []struct{ text, want string }{
		{`each("ab")`, `"a" "b"`}, {`each("")`, ""}, {"each(Y)", ""}, {"each(120)", `"1" "2" "0"`}, {"each(-5)", `"-" "5"`}, {"each(L)", `7 "x" array#1`}, {"each(T)", `1 table#2 ""`}, {"each(R)", "5 record#4"}, {"each(Z)", ""},
		{"each(P)", "type"}, {"each(N)", "type"}, {"each(D)", "type"}, {"each(alt(L,P))", `7 "x" array#1type`}, {`each(each("ab"))`, `"a" "b"`}, {"each(alt(Z,R))", "5 record#4"},
	} {
		list, last := seriesOf(s, gen(t, c.text), 100)
		got := formsOf(list)
		if last.code != impl.OK {
			got += impl.CodeName(last.code)
		}
		checkEqual(t, c.text, got, c.want)
	}
	bytes := strings.Join(allBytes()[56:], "")
	s.Vars = []impl.Binding{binding("S", stringOf(bytes))}
	list, last := seriesOf(s, gen(t, "each(S)"), 300)
	checkEqual(t, "all bytes", len(list), 200)
	checkEqual(t, "all bytes: steps", last.s.Steps, 1000-203)
	for i, v := range list {
		checkEqual(t, "a byte", v, stringOf(allBytes()[56+i]))
	}
}

func TestEachResumed(t *testing.T) {
	s := objectScope()
	s.Steps = 10
	e := gen(t, "each(1)")
	for _, c := range []struct {
		v     impl.Value
		count int64
		want  string
	}{
		{stringOf("abc"), 1, `"b"`}, {stringOf("abc"), 2, `"c"`}, {stringOf("abc"), 3, ""}, {stringOf("abc"), 200, ""}, {stringOf(strings.Repeat("x", 200)), 199, `"x"`}, {stringOf(strings.Repeat("x", 200)), 200, ""}, {stringOf(""), 1, ""}, {integerOf(-25), 2, `"5"`}, {integerOf(-25), 3, ""},
		{arrayRef(1), 2, "array#1"}, {arrayRef(1), 3, ""}, {arrayRef(1), 200, ""}, {tableRef(2), 1, "table#2"}, {tableRef(2), 3, ""}, {recordRef(4), 1, "record#4"}, {recordRef(4), 2, ""}, {arrayRef(8), 1, ""},
		{patternOf("rem"), 1, "type"}, {nameOf("X"), 200, "type"}, {deferOf("X"), 1, "type"},
	} {
		want := genResult{s: copyGenScope(s), c: operandCursor(c.count+1, c.v), found: true}
		want.s.Steps = 9
		switch c.want {
		case "type":
			want = genResult{code: impl.ErrType}
		case "":
			want.s.Steps = 8
			want = genResult{s: want.s}
		default:
			want.v, _ = impl.ReadValue(c.want)
		}
		checkGenResult(t, fmt.Sprint(c), resumed(impl.Resume(s, e, operandCursor(c.count, c.v))), want)
	}
}

// TestChangesBetweenResults has objects that change between two results of GnEach, or between two operands of GnIndex.
func TestChangesBetweenResults(t *testing.T) {
	s := objectScope()
	for _, c := range []struct{ text, want string }{
		{"and(set(X,each(L)),and(store(L,1,cat(\"y\",X)),X))", `7 "x" "yx"`},
		{"and(set(X,each(R)),and(store(R,\"B\",8),X))", "5 8"},
		{"and(set(X,each(T)),if(lt(count,6),and(set(count,add(count,1)),and(store(T,cat(\"n\",count),count),X)),X))", `1 table#2 "" 1 2 3 4 5 6`},
		{"index(L,and(store(L,0,\"new\"),0))", `"new"`},
		{"index(L,and(store(L,set(X,1),33),X))", "33"},
		{"and(each(Z),1)", ""},
	} {
		list, last := seriesOf(s, gen(t, c.text), 100)
		checkEqual(t, c.text, formsOf(list), c.want)
		checkEqual(t, c.text+": code", last.code, impl.OK)
	}
	// The scope can also be another one when the expression is resumed.
	e := gen(t, "each(L)")
	_, c, _, _, _ := impl.Resume(s, e, impl.Cursor{})
	for count, want := range []string{"", "", "2", "2", "2"} {
		s.Heap.Objects[0].Vals = integersTo(count)
		s.Vars = nil
		_, _, v, found, code := impl.Resume(s, e, c)
		checkEqual(t, fmt.Sprint("an array of ", count), fmt.Sprint(impl.ValueText(v), found, code), fmt.Sprint(want, want != "", impl.OK))
	}
}

func TestIndex(t *testing.T) {
	s := objectScope()
	for _, c := range []struct{ text, want string }{
		{"index(L,-1)", "7"}, {"index(L,0)", `"x"`}, {"index(L,1)", "array#1"}, {"index(L,2)", "-"}, {"index(L,-2)", "-"}, {`index(L,"0")`, "-"}, {`index(L,"")`, "-"}, {"index(L,L)", "-"}, {"index(Z,1)", "-"}, {"index(L,P)", "-"}, {"index(L,1000000000000)", "-"},
		{`index(T,"k")`, "1"}, {"index(T,1)", "table#2"}, {`index(T,"1")`, "9"}, {"index(T,P)", `""`}, {"index(T,N)", "9"}, {"index(T,T)", "9"}, {`index(T,"")`, "9"},
		{`index(R,"A")`, "5"}, {`index(R,"B")`, "record#4"}, {`index(R,"C")`, "-"}, {`index(R,"a")`, "-"}, {`index(R,"")`, "-"}, {"index(R,1)", "-"}, {"index(R,N)", "-"}, {"index(R,R)", "-"}, {"and(set(A,5),index(R,A))", "-"},
		{`index("abc",1)`, `"a"`}, {`index("abc",3)`, `"c"`}, {`index("abc",0)`, "-"}, {`index("abc",4)`, "-"}, {`index("abc",-1)`, "-"}, {`index("abc","+02")`, `"b"`}, {`index("abc","")`, "-"}, {`index("abc","x")`, "type"}, {`index("abc",L)`, "type"}, {`index("abc",P)`, "type"}, {`index("",1)`, "-"}, {`index("",L)`, "type"}, {`index("abc",1000000000000)`, "-"}, {`index("abc",-1000000000000)`, "-"},
		{"index(-25,1)", `"-"`}, {"index(-25,3)", `"5"`}, {"index(-25,4)", "-"}, {"index(1000000000000,13)", `"0"`}, {"index(5,N)", "type"},
		{"index(P,1)", "type"}, {"index(N,1)", "type"}, {"index(D,1)", "type"}, {"index(P,L)", "type"}, {"index(index(L,1),0)", `"x"`}, {"index(alt(L,alt(R,P)),alt(0,\"A\"))", `"x" 5type`},
	} {
		list, last := seriesOf(s, gen(t, c.text), 100)
		got := formsOf(list)
		switch {
		case last.code != impl.OK:
			got += impl.CodeName(last.code)
		case got == "":
			got = "-"
			want := copyGenScope(s)
			want.Steps, want.Vars = last.s.Steps, last.s.Vars
			checkGenResult(t, c.text, last, genResult{s: want})
		}
		checkEqual(t, c.text, got, c.want)
	}
}

func TestStore(t *testing.T) {
	s := objectScope()
	null := stringOf("")
	for _, c := range []struct {
		text, want string
		// id is that of the object that is changed to o.
		id int
		o  impl.Object
	}{
		{"store(L,-1,8)", "8", 0, impl.Object{Low: -1, Vals: []impl.Value{integerOf(8), stringOf("x"), arrayRef(1)}}},
		{"store(L,1,Y)", `""`, 0, impl.Object{Low: -1, Vals: []impl.Value{integerOf(7), stringOf("x"), null}}},
		{"store(L,0,P)", "<rem>", 0, impl.Object{Low: -1, Vals: []impl.Value{integerOf(7), patternOf("rem"), arrayRef(1)}}},
		{"store(L,alt(2,0),R)", "record#4", 0, impl.Object{Low: -1, Vals: []impl.Value{integerOf(7), recordRef(4), arrayRef(1)}}},
		{"store(L,2,8)", "-", -1, impl.Object{}},
		{"store(L,-2,8)", "-", -1, impl.Object{}},
		{`store(L,"0",8)`, "-", -1, impl.Object{}},
		{"store(Z,1,8)", "-", -1, impl.Object{}},
		{`store(T,"k",8)`, "8", 1, tableWith(2, integerOf(9), stringOf("k"), integerOf(8), integerOf(1), tableRef(2), patternOf("rem"), null)},
		{"store(T,1,Z)", "array#8", 1, tableWith(2, integerOf(9), stringOf("k"), integerOf(1), integerOf(1), arrayRef(8), patternOf("rem"), null)},
		{`store(T,alt("1",L),8)`, "8 8", 1, tableWith(2, integerOf(9), stringOf("k"), integerOf(1), integerOf(1), tableRef(2), patternOf("rem"), null, stringOf("1"), integerOf(8), arrayRef(1), integerOf(8))},
		{`store(R,"A",8)`, "8", 2, recordWith(4, "NODE", integerOf(8), recordRef(4))},
		{`store(R,alt("C","B"),alt(8,9))`, "8 9", 2, recordWith(4, "NODE", integerOf(5), integerOf(9))},
		{`store(R,"C",8)`, "-", -1, impl.Object{}},
		{`store(R,"",8)`, "-", -1, impl.Object{}},
		{"store(R,1,8)", "-", -1, impl.Object{}},
		{"store(R,L,8)", "-", -1, impl.Object{}},
		{"and(set(N,\"NODE\"),store(R,N,8))", "-", -1, impl.Object{}},
		{"store(P,1,8)", "type", -1, impl.Object{}},
		{"store(N,1,8)", "type", -1, impl.Object{}},
		{"store(D,1,8)", "type", -1, impl.Object{}},
		{`store("abc",1,"x")`, "type", -1, impl.Object{}},
		{"store(1,1,1)", "type", -1, impl.Object{}},
		{"store(Y,L,P)", "type", -1, impl.Object{}},
		{"store(alt(L,1),0,1)", "1type", -1, impl.Object{}},
	} {
		list, last := seriesOf(s, gen(t, c.text), 100)
		got := formsOf(list)
		if last.code != impl.OK {
			got += impl.CodeName(last.code)
			checkEqual(t, c.text, got, c.want)
			continue
		}
		want := copyGenScope(s)
		want.Steps, want.Vars = last.s.Steps, last.s.Vars
		if c.id >= 0 {
			o := &want.Heap.Objects[c.id]
			o.Low, o.Keys, o.Vals = c.o.Low, c.o.Keys, c.o.Vals
			checkEqual(t, c.text, got, c.want)
		} else {
			checkEqual(t, c.text, got+"-", c.want)
		}
		checkGenResult(t, c.text, last, genResult{s: want})
	}
	full := impl.GenScope{Heap: heapWith(1, tableWith(1, null, pairsTo(29)...)), Vars: []impl.Binding{binding("T", tableRef(1))}, Steps: 100}
	list, last := seriesOf(full, gen(t, "store(T,to(28,31,1),T)"), 100)
	checkEqual(t, "MaxElements keys", formsOf(list)+impl.CodeName(last.code), "table#1 table#1 table#1full")
	checkGenResult(t, "a key more", last, genResult{code: impl.ErrFull})
}

// fullVars returns MaxVars variables, from N000 to N039.
func fullVars() []impl.Binding {
	var list []impl.Binding
	for i, name := range namesTo(40) {
		list = append(list, binding(name, integerOf(int64(i))))
	}
	return list
}

func TestAssignments(t *testing.T) {
	checkGenCases(t, stepsFor(0, binding("B", integerOf(1)), binding("D", integerOf(2))), []genCase{
		{"set(A,3)", "3", impl.OK, 4, "A=3 B=1 D=2"},
		{"set(B,3)", "3", impl.OK, 4, "B=3 D=2"},
		{"set(C,3)", "3", impl.OK, 4, "B=1 C=3 D=2"},
		{"set(d,3)", "3", impl.OK, 4, "B=1 D=2 d=3"},
		{`set(B,"")`, `""`, impl.OK, 4, "D=2"},
		{"set(B,Y)", `""`, impl.OK, 4, "D=2"},
		{`set(C,"")`, `""`, impl.OK, 4, "B=1 D=2"},
		{"set(B,B)", "1", impl.OK, 4, "B=1 D=2"},
		{"set(B,set(C,D))", "2", impl.OK, 6, "B=2 C=2 D=2"},
		{"back(A,3)", "3", impl.OK, 4, "B=1 D=2"},
		{"back(B,3)", "3", impl.OK, 4, "B=1 D=2"},
		{`back(B,"")`, `""`, impl.OK, 4, "B=1 D=2"},
		{"and(back(B,alt(3,4)),set(C,B))", "3 4", impl.OK, 21, "B=1 C=4 D=2"},
		{"limit(1,back(B,3))", "3", impl.OK, 4, "B=3 D=2"},
		{"not(back(B,3))", "", impl.OK, 3, "B=3 D=2"},
		{"if(back(B,3),B,4)", "3", impl.OK, 6, "B=3 D=2"},
		{"every(back(B,alt(3,4)),set(C,cat(C,B)))", "", impl.OK, 19, `B=1 C="34" D=2`},
		{"every(alt(3,4),back(B,add(B,1)))", "", impl.OK, 16, "B=3 D=2"},
		// Between the result and the next one, the variable is changed: the previous value is assigned all the same.
		{"and(back(B,3),set(B,4))", "4", impl.OK, 10, "B=1 D=2"},
		{`and(back(B,3),set(B,""))`, `""`, impl.OK, 10, "B=1 D=2"},
		{"and(back(B,3),and(set(B,4),back(B,5)))", "5", impl.OK, 16, "B=1 D=2"},
		// The operand can change the variable, too: what it is then is the previous value.
		{"back(B,set(B,5))", "5", impl.OK, 6, "B=5 D=2"},
		{"back(B,back(B,5))", "5", impl.OK, 6, "B=1 D=2"},
		{"and(back(B,add(B,alt(1,2))),B)", "2 3", impl.OK, 22, "B=1 D=2"},
		{"and(back(B,alt(3,4)),and(back(C,B),B))", "3 4", impl.OK, 29, "B=1 D=2"},
	})
	checkEqual(t, "a value of any kind", varTexts(resumed(impl.Resume(objectScope(), gen(t, "and(set(A,P),and(set(B,N),set(C,D)))"), impl.Cursor{})).s.Vars), "A=<rem> B=.X C=*X D=*X L=array#1 N=.X P=<rem> R=record#4 T=table#2 Z=array#8")
}

func TestAssignmentsWithManyVariables(t *testing.T) {
	full := fullVars()
	for _, c := range []struct{ text, want string }{
		{"set(N000,5)", "5"}, {"set(N039,5)", "5"}, {"set(A,5)", "full"}, {"set(Z,5)", "full"}, {`set(Z,"")`, `""`}, {`and(set(N005,""),set(Z,5))`, "5"}, {`and(set(N005,""),alt(set(Z,5),set(N005,6)))`, "5full"}, {"set(Z,alt(Y,5))", `""full`},
		{"back(N000,5)", "5"}, {"back(A,5)", "full"}, {`back(Z,"")`, `""`}, {`and(back(N005,""),set(Z,5))`, "5full"}, {`and(back(N005,""),and(set(Z,5),set(Z,"")))`, `""`}, {`and(back(N005,""),back(Z,5))`, "5"}, {`and(back(N005,""),set(N005,7))`, "7"},
	} {
		list, last := seriesOf(stepsFor(100, full...), gen(t, c.text), 100)
		got := formsOf(list)
		if last.code != impl.OK {
			got += impl.CodeName(last.code)
			checkGenResult(t, c.text, last, genResult{code: last.code})
		}
		checkEqual(t, c.text, got, c.want)
	}
	first := resumed(impl.Resume(stepsFor(9, full[:39]...), gen(t, "set(Z,1)"), impl.Cursor{}))
	checkGenResult(t, "the last variable", first, genResult{s: stepsFor(7, append(full[:39:39], binding("Z", integerOf(1)))...), c: operandCursor(0, integerOf(1)), v: integerOf(1), found: true})
	back := operandCursor(0, integerOf(1))
	back.Vals = append(back.Vals, integerOf(7))
	checkGenResult(t, "a previous value for which there is no place", resumed(impl.Resume(stepsFor(9, full...), gen(t, "back(Z,1)"), back)), genResult{code: impl.ErrFull})
	checkGenResult(t, "a previous value", resumed(impl.Resume(stepsFor(9, full[:39]...), gen(t, "back(Z,1)"), back)), genResult{s: stepsFor(7, append(full[:39:39], binding("Z", integerOf(7)))...)})
}

// coWith returns a co-expression that has not delivered a result.
func coWith(t *testing.T, id int64, body string, vars ...impl.Binding) impl.Coexpr {
	t.Helper()
	return impl.Coexpr{Id: id, Body: gen(t, body), Start: vars, Vars: vars}
}

func coScope(list ...impl.Coexpr) impl.GenScope {
	return impl.GenScope{Cos: list, Vars: []impl.Binding{binding("X", integerOf(50))}, Steps: 200}
}

// coTexts tells of each co-expression how many results it has delivered, whether it is done, and its variables.
func coTexts(list []impl.Coexpr) string {
	var texts []string
	for _, x := range list {
		texts = append(texts, fmt.Sprint(x.Id, ":", x.Count, map[bool]string{true: "!"}[x.Done], "(", varTexts(x.Vars), ")"))
	}
	return strings.Join(texts, " ")
}

func TestActivate(t *testing.T) {
	s := coScope(coWith(t, 2, "set(X,to(1,3,1))"), coWith(t, 5, "add(X,activate(2))", binding("X", integerOf(10))), coWith(t, 7, "fail()"), coWith(t, 9, "div(1,X)"), coWith(t, 11, "activate(9)"))
	for _, c := range []struct {
		text, results, want string
		steps               int64
	}{
		{"activate(2)", "1", "2:1(X=1)", 9},
		{`activate("2")`, "1", "2:1(X=1)", 9},
		{"activate(alt(2,2))", "1 2", "2:2(X=2)", 17},
		{"limit(2,repeat(activate(2)))", "1 2", "2:2(X=2)", 18},
		{"repeat(activate(2))", "1 2 3", "2:3!(X=3)", 33},
		{"and(activate(2),X)", "50", "2:1(X=1)", 13},
		{"activate(5)", "11", "2:1(X=1) 5:1(X=10)", 13},
		{"activate(alt(5,alt(2,5)))", "11 2", "2:2(X=2) 5:1!(X=10)", 31},
		{"activate(7)", "", "7:0!()", 4},
		{"activate(alt(7,7))", "", "7:0!()", 9},
		{"activate(9)", "", "division", 5},
		{"activate(11)", "", "division", 7},
		{"activate(alt(7,9))", "", "division", 0},
		{"activate(1)", "", "not-found", 2},
		{"activate(0)", "", "not-found", 2},
		{"activate(-2)", "", "not-found", 2},
		{`activate("")`, "", "not-found", 2},
		{"activate(1000000000000)", "", "not-found", 2},
		{`activate("x")`, "", "type", 2},
		{"activate(fail())", "", "", 2},
		{"activate(alt(2,3))", "1", "not-found", 0},
	} {
		s.Steps = 200
		e := gen(t, c.text)
		list, last := seriesOf(s, e, 100)
		checkEqual(t, c.text+": results", formsOf(list), c.results)
		if last.code != impl.OK {
			checkEqual(t, c.text, impl.CodeName(last.code), c.want)
		} else {
			want := map[string]string{}
			for _, text := range append(strings.Split(coTexts(s.Cos), " "), strings.Split(c.want, ") ")...) {
				id, _, _ := strings.Cut(text, ":")
				want[id] = strings.TrimSuffix(text, ")")
			}
			for _, text := range strings.Split(coTexts(last.s.Cos), " ") {
				id, _, _ := strings.Cut(text, ":")
				checkEqual(t, c.text+": co-expression", strings.TrimSuffix(text, ")"), want[id])
			}
			checkEqual(t, c.text+": variables", varTexts(last.s.Vars), "X=50")
			checkEqual(t, c.text+": steps", 200-last.s.Steps, c.steps)
			for i, x := range last.s.Cos {
				checkEqual(t, c.text+": body and start", equalGens(x.Body, s.Cos[i].Body) && slices.Equal(x.Start, s.Cos[i].Start), true)
				checkEqual(t, c.text+": cursor", isZeroCursor(x.Cursor), x.Done || x.Count == 0)
			}
		}
		if c.steps > 0 {
			s.Steps = c.steps - 1
			_, last = seriesOf(s, e, 100)
			checkGenResult(t, c.text+" with a step less", last, genResult{code: impl.ErrSteps})
		}
	}
	for _, v := range []impl.Value{arrayRef(1), patternOf("rem"), nameOf("X"), deferOf("X")} {
		s := objectScope()
		s.Vars = []impl.Binding{binding("X", v)}
		checkGenResult(t, "activate(X)", resumed(impl.Resume(s, gen(t, "activate(X)"), impl.Cursor{})), genResult{code: impl.ErrType})
	}
}

// TestActivateCursors has the states that an activation leaves behind.
func TestActivateCursors(t *testing.T) {
	s := coScope(coWith(t, 3, "alt(X,each(L))", binding("L", arrayRef(1)), binding("X", integerOf(5))))
	s.Heap = heapWith(1, arrayWith(1, stringOf("a"), integerOf(8)))
	e := gen(t, "activate(3)")
	wantCo := copyCo(s.Cos[0])
	for i, c := range []struct {
		v      impl.Value
		cursor impl.Cursor
		steps  int64
	}{
		{integerOf(5), phase(1, phase(1)), 4},
		{stringOf("a"), phase(2, operandCursor(1, arrayRef(1))), 6},
		{integerOf(8), phase(2, operandCursor(2, arrayRef(1))), 4},
	} {
		wantCo.Count, wantCo.Cursor = int64(i+1), c.cursor
		want := copyGenScope(s)
		want.Steps -= c.steps
		want.Cos = []impl.Coexpr{wantCo}
		got := resumed(impl.Resume(s, e, impl.Cursor{}))
		checkGenResult(t, fmt.Sprint("result ", i+1), got, genResult{s: want, c: operandCursor(0, integerOf(3)), v: c.v, found: true})
		s = got.s
	}
	wantCo.Done, wantCo.Cursor = true, impl.Cursor{}
	want := copyGenScope(s)
	want.Cos = []impl.Coexpr{wantCo}
	want.Steps -= 2 + 3 + 1
	got := resumed(impl.Resume(s, e, impl.Cursor{}))
	checkGenResult(t, "no result", got, genResult{s: want})
	want.Steps -= 3
	checkGenResult(t, "done", resumed(impl.Resume(got.s, e, impl.Cursor{})), genResult{s: want})
}

// TestEffectsOfActivations has a heap and steps in common, and variables of its own.
func TestEffectsOfActivations(t *testing.T) {
	s := coScope(coWith(t, 1, "and(store(L,1,X),and(set(X,add(X,1)),activate(2)))", binding("L", arrayRef(1)), binding("X", integerOf(5))), coWith(t, 2, "repeat(set(Y,cat(Y,index(L,1))))", binding("L", arrayRef(1))))
	s.Heap = heapWith(1, arrayWith(1, stringOf("a")))
	s.Vars = append([]impl.Binding{binding("L", arrayRef(1))}, s.Vars...)
	list, last := seriesOf(s, gen(t, "cat(activate(alt(2,alt(1,2))),index(L,1))"), 100)
	checkEqual(t, "results", formsOf(list), `"aa" "a55" "a555"`)
	checkEqual(t, "co-expressions", coTexts(last.s.Cos), `1:1(L=array#1 X=6) 2:3(L=array#1 Y="a55")`)
	checkEqual(t, "variables", varTexts(last.s.Vars), "L=array#1 X=50")
	checkHeap(t, "heap", last.s.Heap, heapWith(1, arrayWith(1, integerOf(5))))
}

// TestVariablesOfActivations has MaxVars variables in the scope, and in a co-expression.
func TestVariablesOfActivations(t *testing.T) {
	s := coScope(coWith(t, 1, "set(X,1)"), coWith(t, 2, "set(X,1)", fullVars()...))
	s.Vars = fullVars()
	list, last := seriesOf(s, gen(t, "activate(1)"), 10)
	checkEqual(t, "a full scope", formsOf(list)+" "+varTexts(last.s.Cos[0].Vars), "1 X=1")
	checkList(t, "the variables of the scope", last.s.Vars, fullVars())
	checkGenResult(t, "a full co-expression", resumed(impl.Resume(s, gen(t, "activate(2)"), impl.Cursor{})), genResult{code: impl.ErrFull})
}

func TestActivationsThatAreActive(t *testing.T) {
	const chain = "activate(%d)"
	var list []impl.Coexpr
	for id := range int64(8) {
		list = append(list, coWith(t, id+1, fmt.Sprintf(chain, id)))
	}
	list[0].Body = gen(t, "set(X,1)")
	s := coScope(list...)
	for id := range int64(8) {
		got := resumed(impl.Resume(s, gen(t, fmt.Sprintf(chain, id+1)), impl.Cursor{}))
		if id >= 6 {
			checkGenResult(t, fmt.Sprint(id+1, " co-expressions"), got, genResult{code: impl.ErrStack})
			continue
		}
		checkEqual(t, fmt.Sprint(id+1, " co-expressions"), got.v, integerOf(1))
		for _, x := range got.s.Cos {
			checkEqual(t, fmt.Sprint(x.Id, ": count"), x.Count, map[bool]int64{true: 1}[x.Id <= id+1])
		}
	}
	for _, c := range []struct {
		bodies []string
		code   int64
	}{
		{[]string{"activate(1)"}, impl.ErrState},
		{[]string{"alt(fail(),activate(1))"}, impl.ErrState},
		{[]string{"activate(2)", "activate(1)"}, impl.ErrState},
		{[]string{"activate(2)", "activate(2)"}, impl.ErrState},
		{[]string{"activate(2)", "activate(3)", "activate(4)", "activate(5)", "activate(6)", "activate(1)"}, impl.ErrState},
		{[]string{"activate(2)", "activate(3)", "activate(4)", "activate(5)", "activate(6)", "activate(6)"}, impl.ErrState},
		{[]string{"activate(2)", "activate(3)", "activate(4)", "activate(5)", "activate(6)", "activate(7)", "1"}, impl.ErrStack},
		{[]string{"activate(2)", "activate(3)", "activate(4)", "activate(5)", "activate(6)", "activate(8)"}, impl.ErrNotFound},
		{[]string{"activate(2)", "activate(3)", "activate(4)", "activate(5)", "activate(6)", "activate(\"x\")"}, impl.ErrType},
	} {
		var list []impl.Coexpr
		for i, body := range c.bodies {
			list = append(list, coWith(t, int64(i+1), body))
		}
		checkGenResult(t, fmt.Sprint(c.bodies), resumed(impl.Resume(coScope(list...), gen(t, "activate(1)"), impl.Cursor{})), genResult{code: c.code})
	}
	// One that is done is an error all the same if it is one too many.
	done := append(list[:6:6], coWith(t, 7, "activate(6)"))
	done[0].Done = true
	checkGenResult(t, "a chain to one that is done", resumed(impl.Resume(coScope(done...), gen(t, "activate(7)"), impl.Cursor{})), genResult{code: impl.ErrStack})
	// An activation that has ended is not part of another one.
	s = coScope(coWith(t, 1, "1"), coWith(t, 2, "add(activate(1),alt(activate(3),activate(1)))"), coWith(t, 3, "2"))
	values, last := seriesOf(s, gen(t, "and(activate(alt(3,alt(2,2))),1)"), 10)
	checkEqual(t, "one after the other", formsOf(values)+coTexts(last.s.Cos), "11:1!() 2:0!() 3:1!()")
}

func TestActivateAtTheLimitOfCount(t *testing.T) {
	s := coScope(coWith(t, 1, "alt(1,2)"))
	s.Cos[0].Cursor, s.Cos[0].Count = phase(1, phase(1)), 999999
	e := gen(t, "activate(1)")
	s, _, v, _, code := impl.Resume(s, e, impl.Cursor{})
	checkEqual(t, "the last result", fmt.Sprint(v.Num, code, s.Cos[0].Count), "2 0 1000000")
	failed := resumed(impl.Resume(s, e, impl.Cursor{}))
	checkEqual(t, "a failure", fmt.Sprint(failed.found, failed.code, failed.s.Cos[0].Count, failed.s.Cos[0].Done), "false 0 1000000 true")
	s.Cos[0].Cursor = phase(1, phase(1))
	checkGenResult(t, "a result more", resumed(impl.Resume(s, e, impl.Cursor{})), genResult{code: impl.ErrFull})
	s.Cos[0].Body = gen(t, "alt(1,div(1,0))")
	checkGenResult(t, "another error", resumed(impl.Resume(s, e, impl.Cursor{})), genResult{code: impl.ErrDivision})
}

func TestAllResultsUpToALimit(t *testing.T) {
	e := gen(t, "set(X,to(1,100,1))")
	for _, limit := range []int64{0, 1, 2, 59, 60} {
		s := stepsFor(1000)
		want := genResult{s: stepsFor(1000), list: integersTo(int(limit))}
		if limit > 0 {
			want.s = stepsFor(1000-3-2*limit, binding("X", integerOf(limit)))
		}
		checkGenResult(t, fmt.Sprint("a limit of ", limit), allOf(impl.AllResults(s, e, limit)), want)
		if limit > 0 {
			s.Steps = 3 + 2*limit
			want.s.Steps = 0
			checkGenResult(t, fmt.Sprint("a limit of ", limit, " with just enough steps"), allOf(impl.AllResults(s, e, limit)), want)
			s.Steps--
			checkGenResult(t, fmt.Sprint("a limit of ", limit, " with a step less"), allOf(impl.AllResults(s, e, limit)), genResult{code: impl.ErrSteps})
		}
	}
	for _, limit := range []int64{-1, 61, math.MinInt64, math.MaxInt64, 1 << 32} {
		checkGenResult(t, fmt.Sprint("a limit of ", limit), allOf(impl.AllResults(stepsFor(0), e, limit)), genResult{code: impl.ErrRange})
		checkGenResult(t, fmt.Sprint("a limit of ", limit, " and an invalid scope"), allOf(impl.AllResults(stepsFor(-1), e, limit)), genResult{code: impl.ErrInvalid})
		checkGenResult(t, fmt.Sprint("a limit of ", limit, " and an invalid expression"), allOf(impl.AllResults(stepsFor(9), impl.Gen{}, limit)), genResult{code: impl.ErrInvalid})
	}
	two := gen(t, "alt(1,2)")
	checkGenResult(t, "a limit that is reached", allOf(impl.AllResults(stepsFor(9), two, 2)), genResult{s: stepsFor(4), list: integersTo(2)})
	checkGenResult(t, "a limit that is not reached", allOf(impl.AllResults(stepsFor(9), two, 3)), genResult{s: stepsFor(2), list: integersTo(2), found: true})
	checkGenResult(t, "no results", allOf(impl.AllResults(stepsFor(9), gen(t, "fail()"), 1)), genResult{s: stepsFor(8), found: true})
	checkGenResult(t, "a limit of 0 without steps", allOf(impl.AllResults(stepsFor(0), gen(t, "fail()"), 0)), genResult{s: stepsFor(0)})
	checkGenResult(t, "an error behind the limit", allOf(impl.AllResults(stepsFor(9), gen(t, "alt(1,div(1,0))"), 1)), genResult{s: stepsFor(7), list: integersTo(1)})
	checkGenResult(t, "an error before the limit", allOf(impl.AllResults(stepsFor(9), gen(t, "alt(1,div(1,0))"), 2)), genResult{code: impl.ErrDivision})
	sixty := gen(t, "limit(60,repeat(1))")
	checkEqual(t, "as many results as possible", allOf(impl.AllResults(stepsFor(1000), sixty, 60)).found, false)
}

// TestGeneratorStepsAtTheirLimit has an expression that needs all steps that a scope can have.
func TestGeneratorStepsAtTheirLimit(t *testing.T) {
	// 1 + 4 steps, and then 1 for each further number and for the second Kid.
	count := func(n int64) impl.Gen { return gen(t, fmt.Sprintf("every(to(1,%d,1),fail())", n)) }
	got := resumed(impl.Resume(stepsFor(20000), count(9996), impl.Cursor{}))
	checkGenResult(t, "20000 steps", got, genResult{s: stepsFor(0)})
	checkGenResult(t, "20002 steps", resumed(impl.Resume(stepsFor(20000), count(9997), impl.Cursor{})), genResult{code: impl.ErrSteps})
	checkGenResult(t, "an endless loop", resumed(impl.Resume(stepsFor(20000), gen(t, "every(repeat(1),fail())"), impl.Cursor{})), genResult{code: impl.ErrSteps})
	checkGenResult(t, "a step too many", resumed(impl.Resume(stepsFor(20001), gen(t, "1"), impl.Cursor{})), genResult{code: impl.ErrInvalid})
}
