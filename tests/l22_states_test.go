package tests

import (
	"fmt"
	"math"
	"math/rand"
	"slices"
	"strings"
	"testing"

	"loop.example/g00873/impl"
)

// The tests of this file are about text forms, and about the validity of expressions, cursors and scopes.

// genTexts returns the text forms of expressions of each kind, and the expressions.
func genTexts() map[string]impl.Gen {
	one, x, fail := genValue(integerOf(1)), genVar("X"), genNode(impl.GnFail)
	texts := map[string]impl.Gen{
		`"a""b"`: genValue(stringOf(`a"b`)), `""`: genValue(stringOf("")), `""""`: genValue(stringOf(`"`)), `"(,) "`: genValue(stringOf("(,) ")), "\"\x00\xff\n\"": genValue(stringOf("\x00\xff\n")), `"fail()"`: genValue(stringOf("fail()")),
		"1": one, "0": genValue(integerOf(0)), "-5": genValue(integerOf(-5)), "1000000000000": genValue(integerOf(1000000000000)), "-1000000000000": genValue(integerOf(-1000000000000)),
		"array#1": genValue(arrayRef(1)), "table#1000000": genValue(tableRef(1000000)), "record#22": genValue(recordRef(22)),
		"X": x, "x_1": genVar("x_1"), "ABCDEFGHIJKL": genVar("ABCDEFGHIJKL"), "fail": genVar("fail"), "alt": genVar("alt"), "add": genVar("add"), "set": genVar("set"), "array": genVar("array"), "limit": genVar("limit"),
		"fail()": fail, "alt(1,X)": genNode(impl.GnAlt, one, x), "and(X,fail())": genNode(impl.GnAnd, x, fail), "every(fail,fail())": genNode(impl.GnEvery, genVar("fail"), fail),
		"limit(0,1)": genLimit(0, one), "limit(60,X)": genLimit(60, x), "not(1)": genNode(impl.GnNot, one), "repeat(X)": genNode(impl.GnRepeat, x), `each("ab")`: genNode(impl.GnEach, genValue(stringOf("ab"))), "activate(3)": genNode(impl.GnActivate, genValue(integerOf(3))),
		"if(1,X,fail())": genNode(impl.GnIf, one, x, fail), "to(1,X,fail())": genNode(impl.GnTo, one, x, fail), "store(X,1,array#7)": genNode(impl.GnStore, x, one, genValue(arrayRef(7))), "index(X,1)": genNode(impl.GnIndex, x, one),
		"set(X,1)": genNamed(impl.GnSet, "X", one), "back(x_1,X)": genNamed(impl.GnBack, "x_1", x), "set(set,set)": genNamed(impl.GnSet, "set", genVar("set")), "back(ABCDEFGHIJKL,1)": genNamed(impl.GnBack, "ABCDEFGHIJKL", one),
		"and(set(X,to(1,3,1)),gt(X,1))": genNode(impl.GnAnd, genNamed(impl.GnSet, "X", genNode(impl.GnTo, one, genValue(integerOf(3)), one)), genNamed(impl.GnOp, "gt", x, one)),
		"not(not(not(not(X))))":         stacking(4, x), `"` + strings.Repeat("x", 200) + `"`: genValue(stringOf(strings.Repeat("x", 200))), `"` + strings.Repeat(`""`, 200) + `"`: genValue(stringOf(strings.Repeat(`"`, 200))),
		strings.Repeat("not(", 59) + "X" + strings.Repeat(")", 59): stacking(59, x),
	}
	for _, operator := range genOperators {
		texts[operator+"(1,X)"] = genNamed(impl.GnOp, operator, one, x)
	}
	return texts
}

func TestGeneratorTexts(t *testing.T) {
	for text, e := range genTexts() {
		checkEqual(t, text+" is valid", impl.ValidGen(e), true)
		checkEqual(t, "text form", impl.GenText(e), text)
		got, ok := impl.ReadGen(text)
		checkEqual(t, text+" is read", ok && equalGens(got, e), true)
		_, form := modelGen(e)
		checkEqual(t, "text form of the model", form, text)
		isPure := !strings.Contains(text, "store(") && !strings.Contains(text, "set(") && !strings.Contains(text, "back(") && !strings.Contains(text, "activate(")
		checkEqual(t, text+" is pure", impl.IsPureGen(e), isPure)
		checkEqual(t, text+" in others is pure", impl.IsPureGen(gen(t, "every(not(1),if(1,2,1))")) && impl.IsPureGen(genNode(impl.GnEvery, genNode(impl.GnNot, gen(t, "1")), genNode(impl.GnIf, gen(t, "1"), e, gen(t, "1")))), isPure && len(genNodes(e)) < 55)
		for other := range genTexts() {
			checkEqual(t, text+" and "+other, impl.SameGen(e, gen(t, other)), text == other)
		}
	}
}

// noGenTexts returns texts that are no text forms.
func noGenTexts() []string {
	list := []string{
		"", " ", "X ", " X", "1 ", "01", "+1", "-0", "--1", "-", "1000000000001", "-1000000000001", "99999999999999999999", "1X", "X1Y2Z3A4B5C6D", "_", "_X", "X.", "X-Y", "\xff", "X\xff", "X\x00", "é",
		`"`, `"a`, `a"`, `"a"b"`, `"a"""b"`, `"""`, `'a'`, `"a"X`, `"a" `, `"a"()`, `"` + strings.Repeat("x", 201) + `"`,
		"array#0", "array#01", "array#1000001", "array#-1", "array#", "array#X", "Array#1", "list#1", "array#1()", "array #1", "#1", "<rem>", ".X", "*X", "<alt(rem,arb)>",
		"fail( )", "fail(", "fail)", "fail()()", "fail(1)", "fail()1", "FAIL()", "Fail()", "()", "(X)", "X()", "X(1)", "1()", "1(1,2)", "(", ")", ",", "(,)",
		"alt(1,2", "alt(1,2))", "alt1,2)", "alt(1 ,2)", "alt(1, 2)", "alt (1,2)", "alt(1,2) ", "alt(,)", "alt(1,)", "alt(,1)", "alt(1)", "alt()", "alt(1,2,3)", "alt(1;2)", "alt(1,2,)", "alt(alt(1,2)", "ALT(1,2)", "alts(1,2)",
		"and(1)", "and(1,2,3)", "every(1)", "every(1,2,3)", "not()", "not(1,2)", "repeat()", "repeat(1,2)", "each()", "each(1,2)", "activate()", "activate(1,2)",
		"if(1,2)", "if(1,2,3,4)", "to(1,3)", "to(1,2,3,4)", "store(1,2)", "store(1,2,3,4)", "index(1)", "index(1,2,3)",
		"limit(61,X)", "limit(-1,X)", "limit(01,X)", "limit(00,X)", "limit(+1,X)", "limit(,X)", "limit(X)", "limit(X,X)", "limit(1)", "limit(1,)", "limit(1,2,3)", `limit("1",X)`, "limit(1.,X)", "limit(99999999999999999999,X)", "limit(18446744073709551617,X)", "limit(limit(1,X),X)", "limit( 1,X)", "limit(1 ,X)",
		"set(1,X)", "set(X)", "set(X,)", "set(,X)", "set(X,1,2)", "set(X(),1)", "set(_X,1)", `set("X",1)`, "set(ABCDEFGHIJKLM,1)", "set( X,1)", "set(X ,1)", "set(X.Y,1)", "set(\xff,1)", "set(array#1,1)", "back(1,X)", "back(X)", "back(X,1,2)", "back(,1)", "back(ABCDEFGHIJKLM,1)",
		"add(1)", "add(1,2,3)", "add()", "Add(1,2)", "mod(1,2)", "sgt(1,2)", "sle(1,2)", "isnt(1,2)", "value(1)", "var(X)", "op(add,1,2)", "(1,2)", "<(1,2)", "+(1,2)", "1(2,3)", `"add"(1,2)`, "add(1,2)add(1,2)", "ABCDEFGHIJKLM", "ABCDEFGHIJKLM(1,2)",
		"alt(1,2)X", "alt(1,<rem>)", "alt(1,.X)", "alt(*X,1)", "not(_)", "each(\"a)", "not(not(X)", strings.Repeat("not(", 60) + "X" + strings.Repeat(")", 60),
		strings.Repeat("alt(1,", 30) + "1" + strings.Repeat(")", 30), strings.Repeat("not(", 1000000), strings.Repeat("(", 1000000), strings.Repeat("X", 1000000), `"` + strings.Repeat("x", 1000000), "limit(" + strings.Repeat("9", 1000000) + ",X)",
	}
	for kind := range genRows {
		list = append(list, fmt.Sprint(kind, "(1,2)"))
	}
	return list
}

func TestNoGeneratorTexts(t *testing.T) {
	for _, s := range noGenTexts() {
		for _, text := range []string{s, "not(" + s + ")", "alt(1," + s + ")"} {
			e, ok := impl.ReadGen(text)
			if ok || !equalGens(e, impl.Gen{}) {
				t.Errorf("ReadGen(%.100q): got %.200q", text, fmt.Sprint(e, ok))
			}
		}
	}
	// One node less than in the list above.
	text := strings.Repeat("alt(1,", 29) + "1" + strings.Repeat(")", 29)
	e, ok := impl.ReadGen(text)
	checkEqual(t, "59 nodes", ok && impl.GenText(e) == text, true)
	text = strings.Repeat("alt(1,", 29) + "not(1)" + strings.Repeat(")", 29)
	e, ok = impl.ReadGen(text)
	checkEqual(t, "60 nodes", ok && impl.GenText(e) == text, true)
	_, ok = impl.ReadGen(strings.Repeat("alt(1,", 29) + "not(not(1))" + strings.Repeat(")", 29))
	checkEqual(t, "61 nodes", ok, false)
}

// TestManyTexts checks for random texts that only text forms are read, and each as what it is.
func TestManyTextsOfGenerators(t *testing.T) {
	pieces := []string{"alt(", "fail()", "limit(", "set(", "add(", "not(", "X", "X", "1", "1", `"a"`, "array#1", ",", ",", ",", ")", ")", ")", " ", "0", "-", `"`, "#", "<", "fail", "to("}
	read := 0
	for _, s := range randomTexts(221, 300000, 8, pieces) {
		e, ok := impl.ReadGen(s)
		if !ok {
			checkEqual(t, s, equalGens(e, impl.Gen{}), true)
			continue
		}
		read++
		_, text := modelGen(e)
		if text != s || !isModelGen(e) {
			t.Errorf("ReadGen(%q): got %+v", s, e)
		}
	}
	if read < 10000 {
		t.Errorf("only %d texts were read", read)
	}
	// Texts that differ from a text form in one byte.
	r := rand.New(rand.NewSource(222))
	for text := range genTexts() {
		for range 2000 {
			changed := []byte(text)
			at := r.Intn(len(changed))
			switch r.Intn(3) {
			case 0:
				changed[at] = "(),\"X1a#- "[r.Intn(10)]
			case 1:
				changed = slices.Delete(changed, at, at+1)
			case 2:
				changed = slices.Insert(changed, at, "(),\"X1a#- "[r.Intn(10)])
			}
			e, ok := impl.ReadGen(string(changed))
			if _, form := modelGen(e); ok && form != string(changed) {
				t.Errorf("ReadGen(%q): got %+v", changed, e)
			}
		}
	}
}

// TestValidGenerators compares expressions with any fields with the model.
func TestValidGenerators(t *testing.T) {
	values := []impl.Value{{}, stringOf(""), integerOf(-3), arrayRef(1), tableRef(1), recordRef(1000000), patternOf("rem"), nameOf("X"), deferOf("X"), {Kind: 9}, integerOf(1000000000001), stringOf(strings.Repeat("x", 201)), arrayRef(0)}
	texts := []string{"", "X", "add", "is", "ADD", "1", "_", "ABCDEFGHIJKLM", "mod", "fail", "\xff"}
	numbers := []int64{0, 1, 60, 61, -1, math.MinInt64, math.MaxInt64, 1 << 32}
	kids := []impl.Gen{genValue(integerOf(1)), genVar("X"), genNode(impl.GnFail), genVar("Y")}
	bad := []impl.Gen{genVar("X"), {}, genVar("Y"), {}}
	valid := 0
	check := func(e impl.Gen) {
		nodes, text := modelGen(e)
		isValid := nodes <= 60
		if isValid {
			valid++
		}
		got, ok := impl.ReadGen(text)
		if impl.ValidGen(e) != isValid || impl.GenText(e) != text || impl.IsPureGen(e) != (isValid && e.Kind < impl.GnStore) || isValid && (!ok || !equalGens(got, e)) {
			t.Errorf("%.300q: valid: %t, text form: %q", fmt.Sprintf("%+v", e), impl.ValidGen(e), impl.GenText(e))
		}
	}
	kinds := []int64{math.MinInt64, -1, 1 << 32, 1<<32 + 1, math.MaxInt64}
	for kind := range int64(21) {
		kinds = append(kinds, kind)
	}
	for _, kind := range kinds {
		for _, n := range numbers {
			for _, text := range texts {
				for _, v := range values {
					for count := range 5 {
						check(impl.Gen{Kind: kind, Num: n, Text: text, Value: v, Kids: kids[:count]})
					}
					check(impl.Gen{Kind: kind, Num: n, Text: text, Value: v, Kids: bad[:genRows[kind].kids]})
				}
			}
		}
	}
	// By kind; those that have at most one Kid are found twice.
	want := 2*5 + 2*6 + 2*1 + 1 + 1 + 2*3 + 2*1 + 1 + 1 + 2*1 + 2 + 1 + 2*1 + 1 + 1 + 2*6 + 2*6 + 2*1
	checkEqual(t, "valid expressions", valid, want)
}

func TestGeneratorsThatAreTooLarge(t *testing.T) {
	x := genVar("X")
	pair := genNode(impl.GnAlt, x, x)
	wide := x
	for range 29 {
		wide = genNode(impl.GnAlt, wide, x)
	}
	for _, c := range []struct {
		what  string
		e     impl.Gen
		valid bool
	}{
		{"60 nodes", stacking(59, x), true}, {"61 nodes", stacking(60, x), false}, {"59 nodes", wide, true}, {"60 nodes", stacking(1, wide), true}, {"61 nodes", genNode(impl.GnAlt, wide, x), false},
		{"a very deep expression", stacking(1000000, x), false}, {"shared Kids", sharedGen(200), false}, {"endless Kids", endlessGen(1), false}, {"more endless Kids", endlessGen(100), false},
		{"very many Kids", genNode(impl.GnAlt, make([]impl.Gen, 1000000)...), false}, {"a Kid too deep", stacking(58, pair), false}, {"an invalid node at the end", stacking(57, genNode(impl.GnAlt, x, impl.Gen{})), false}, {"a valid node at the end", stacking(57, pair), true},
	} {
		checkEqual(t, c.what+" are valid", impl.ValidGen(c.e), c.valid)
		checkEqual(t, c.what+" are pure", impl.IsPureGen(c.e), c.valid)
		checkEqual(t, c.what+" have a text form", impl.GenText(c.e) != "", c.valid)
		checkEqual(t, c.what+" can be resumed", impl.ValidState(stepsFor(9), c.e, impl.Cursor{}), c.valid)
		if !c.valid {
			checkInvalidState(t, c.what, stepsFor(9), c.e, impl.Cursor{})
		}
	}
}

// sharedGen returns an expression with 2^depth leaves, in which both Kids of each node are the same.
func sharedGen(depth int) impl.Gen {
	e := genVar("X")
	for range depth {
		e = genNode(impl.GnAlt, e, e)
	}
	return e
}

// endlessGen returns an expression without end: a chain of length nodes, the last of which contains the first.
func endlessGen(length int) impl.Gen {
	first := []impl.Gen{{Kind: impl.GnNot}}
	last := first
	for range length - 1 {
		kids := []impl.Gen{{Kind: impl.GnNot}}
		last[0].Kids = kids
		last = kids
	}
	last[0].Kids = first
	return first[0]
}

// endlessCursor returns a cursor that contains itself.
func endlessCursor() impl.Cursor {
	kids := []impl.Cursor{phase(1)}
	kids[0].Kids = kids
	return kids[0]
}

func TestSameGen(t *testing.T) {
	base := impl.Gen{Kind: 5, Num: 7, Text: "x", Value: integerOf(1), Kids: []impl.Gen{{Kind: 99}, {Kids: []impl.Gen{{Num: -1}}}}}
	checkEqual(t, "an invalid one", impl.SameGen(base, copyGen(base)), true)
	checkEqual(t, "the zero one", impl.SameGen(impl.Gen{}, impl.Gen{Kids: []impl.Gen{}}), true)
	for i, change := range []func(e *impl.Gen){
		func(e *impl.Gen) { e.Kind++ }, func(e *impl.Gen) { e.Num++ }, func(e *impl.Gen) { e.Text = "" }, func(e *impl.Gen) { e.Value.Num++ }, func(e *impl.Gen) { e.Value.Kind++ }, func(e *impl.Gen) { e.Value.Text = "x" }, func(e *impl.Gen) { e.Value.Ref = 1 },
		func(e *impl.Gen) { e.Kids = e.Kids[:1] }, func(e *impl.Gen) { e.Kids = append(e.Kids, impl.Gen{}) }, func(e *impl.Gen) { e.Kids = nil }, func(e *impl.Gen) { e.Kids[0].Num = 1 }, func(e *impl.Gen) { e.Kids[1].Kids[0].Num = 0 }, func(e *impl.Gen) { e.Kids[1].Kids = nil }, func(e *impl.Gen) { e.Kids[0], e.Kids[1] = e.Kids[1], e.Kids[0] },
	} {
		other := copyGen(base)
		change(&other)
		checkEqual(t, fmt.Sprint("change ", i), impl.SameGen(base, other), false)
		checkEqual(t, fmt.Sprint("change ", i, ", exchanged"), impl.SameGen(other, base), false)
		checkEqual(t, fmt.Sprint("change ", i, ", twice"), impl.SameGen(other, copyGen(other)), true)
	}
	for _, c := range []struct {
		what string
		a, b impl.Gen
		same bool
	}{
		{"endless ones of different lengths", endlessGen(2), endlessGen(3), true}, {"an endless and a long one", endlessGen(3), stacking(1000, genVar("X")), false}, {"a long and an endless one", stacking(1000, genVar("X")), endlessGen(1), false},
		{"shared Kids", sharedGen(200), sharedGen(200), true}, {"shared Kids of different depths", sharedGen(200), sharedGen(201), false}, {"very deep ones", stacking(1000000, genVar("X")), stacking(1000000, genVar("X")), true}, {"very deep ones with different ends", stacking(1000000, genVar("X")), stacking(1000000, genVar("Y")), false},
	} {
		checkEqual(t, c.what, impl.SameGen(c.a, c.b), c.same)
	}
}

// checkInvalidState checks that nothing can be done with a state.
func checkInvalidState(t *testing.T, what string, s impl.GenScope, e impl.Gen, c impl.Cursor) {
	t.Helper()
	checkEqual(t, what+": valid state", impl.ValidState(s, e, c), false)
	checkGenResult(t, what+": Resume", resumed(impl.Resume(s, e, c)), genResult{code: impl.ErrInvalid})
	if isZeroCursor(c) {
		checkGenResult(t, what+": AllResults", allOf(impl.AllResults(s, e, 1)), genResult{code: impl.ErrInvalid})
		checkGenResult(t, what+": AllResults up to no limit", allOf(impl.AllResults(s, e, -1)), genResult{code: impl.ErrInvalid})
		list, code := impl.StreamOf(s, e)
		checkEqual(t, what+": StreamOf", list == nil && code == impl.ErrInvalid, true)
	}
}

// namedGenScope is a scope with a description.
type namedGenScope struct {
	what string
	s    impl.GenScope
}

// suspendedCo returns a co-expression that has delivered two results.
func suspendedCo(t *testing.T, id int64) impl.Coexpr {
	x := coWith(t, id, "alt(1,each(L))", binding("L", arrayRef(1)))
	x.Vars = []impl.Binding{binding("L", arrayRef(8)), binding("X", recordRef(4))}
	x.Count, x.Cursor = 2, phase(2, operandCursor(1, arrayRef(1)))
	return x
}

// suspendedScope returns a scope with objects, variables, and co-expressions in each state.
func suspendedScope(t *testing.T) impl.GenScope {
	s := objectScope()
	done := coWith(t, 3, "to(1,array#1,X)", binding("A", stringOf("x")))
	done.Done, done.Count, done.Vars = true, 1000000, nil
	s.Cos = []impl.Coexpr{coWith(t, 1, "set(X,each(X))", binding("X", tableRef(2))), suspendedCo(t, 2), done, suspendedCo(t, 1000000)}
	s.Cos[0].Done = true
	return s
}

func validGenScopes(t *testing.T) []namedGenScope {
	many := make([]impl.Coexpr, 8)
	for i := range many {
		many[i] = suspendedCo(t, int64(999993+i))
	}
	full := impl.GenScope{Vars: fullVars(), Heap: objectScope().Heap, Cos: many, Steps: 20000}
	for i := range full.Cos {
		full.Cos[i].Start, full.Cos[i].Vars, full.Cos[i].Count = fullVars(), fullVars(), 1000000
	}
	return []namedGenScope{
		{"the zero scope", impl.GenScope{}}, {"steps", stepsFor(20000)}, {"empty lists", impl.GenScope{Vars: []impl.Binding{}, Heap: impl.Heap{Objects: []impl.Object{}}, Cos: []impl.Coexpr{}}},
		{"objects of all kinds", objectScope()}, {"co-expressions of all sorts", suspendedScope(t)}, {"as much as possible", full}, {"a full heap", impl.GenScope{Heap: fullHeap()}},
		{"a co-expression with the same names as the scope", coScope(coWith(t, 7, "X", binding("X", integerOf(1))))}, {"the last Id", coScope(coWith(t, 1000000, "X"))}, {"similar names", stepsFor(1, binding("A", integerOf(1)), binding("A0", integerOf(1)), binding("AA", integerOf(1)), binding("A_", integerOf(1)), binding("a", integerOf(1)))},
	}
}

// changedGenScope returns a suspended scope with a change.
func changedGenScope(t *testing.T, change func(s *impl.GenScope)) impl.GenScope {
	s := copyGenScope(suspendedScope(t))
	change(&s)
	return s
}

func invalidGenScopes(t *testing.T) []namedGenScope {
	var list []namedGenScope
	add := func(what string, change func(s *impl.GenScope)) {
		list = append(list, namedGenScope{what, changedGenScope(t, change)})
	}
	// co changes the second co-expression, which is suspended.
	co := func(what string, change func(x *impl.Coexpr)) {
		add(what, func(s *impl.GenScope) { change(&s.Cos[1]) })
	}
	for _, steps := range []int64{-1, 20001, math.MinInt64, math.MaxInt64} {
		add(fmt.Sprint(steps, " steps"), func(s *impl.GenScope) { s.Steps = steps })
	}
	for _, id := range []int64{0, -1, 1, 3, 4, 1000001, math.MinInt64, math.MaxInt64} {
		co(fmt.Sprint("the Id ", id), func(x *impl.Coexpr) { x.Id = id })
	}
	add("a first Id of 0", func(s *impl.GenScope) { s.Cos[0].Id = 0 })
	add("a last Id that is too large", func(s *impl.GenScope) { s.Cos[3].Id = 1000001 })
	add("equal Ids", func(s *impl.GenScope) { s.Cos[3].Id = 3 })
	add("another order", func(s *impl.GenScope) { slices.Reverse(s.Cos) })
	add("a co-expression more", func(s *impl.GenScope) {
		s.Cos = nil
		for id := range int64(9) {
			s.Cos = append(s.Cos, suspendedCo(t, id+1))
		}
	})
	add("very many co-expressions", func(s *impl.GenScope) { s.Cos = make([]impl.Coexpr, 1000000) })
	add("a zero co-expression", func(s *impl.GenScope) { s.Cos = append(s.Cos[:3], impl.Coexpr{}) })
	for _, count := range []int64{-1, 1000001, math.MinInt64, math.MaxInt64} {
		co(fmt.Sprint("a Count of ", count), func(x *impl.Coexpr) { x.Count = count })
		add(fmt.Sprint("a Count of ", count, " of one that is done"), func(s *impl.GenScope) { s.Cos[2].Count = count })
	}
	co("a Count of 0 with a suspended cursor", func(x *impl.Coexpr) { x.Count = 0 })
	co("Done with a suspended cursor", func(x *impl.Coexpr) { x.Done = true })
	co("a Count without a suspended cursor", func(x *impl.Coexpr) { x.Cursor = impl.Cursor{} })
	co("a cursor of another expression", func(x *impl.Coexpr) { x.Cursor = operandCursor(1, arrayRef(1)) })
	co("a cursor with another phase", func(x *impl.Coexpr) { x.Cursor.Phase = 1 })
	co("a cursor with another value", func(x *impl.Coexpr) { x.Cursor.Kids[0].Vals[0] = arrayRef(2) })
	co("a cursor with an invalid value", func(x *impl.Coexpr) { x.Cursor.Kids[0].Vals[0] = impl.Value{} })
	for i, cursor := range []impl.Cursor{{Phase: 1}, {Count: 1}, {Vals: integersTo(1)}, {Kids: make([]impl.Cursor, 1)}} {
		add(fmt.Sprint("a cursor that is not zero ", i), func(s *impl.GenScope) { s.Cos[2].Cursor = cursor })
	}
	for i, body := range []impl.Gen{{}, genVar(""), stacking(60, genVar("X")), genNode(impl.GnAlt, genVar("X")), endlessGen(1), genNode(impl.GnAlt, genVar("X"), genValue(impl.Value{}))} {
		co(fmt.Sprint("an invalid body ", i), func(x *impl.Coexpr) { x.Body, x.Count, x.Cursor = body, 0, impl.Cursor{} })
		add(fmt.Sprint("an invalid body of one that is done ", i), func(s *impl.GenScope) { s.Cos[2].Body = body })
	}
	for _, v := range strayValues() {
		what := impl.ValueText(v)
		co(what+" in a body", func(x *impl.Coexpr) {
			x.Body, x.Count, x.Cursor = genNode(impl.GnAlt, genVar("X"), genNode(impl.GnEach, genValue(v))), 0, impl.Cursor{}
		})
		co(what+" in Start", func(x *impl.Coexpr) { x.Start = []impl.Binding{binding("A", integerOf(1)), binding("B", v)} })
		co(what+" in Vars", func(x *impl.Coexpr) { x.Vars = []impl.Binding{binding("A", integerOf(1)), binding("B", v)} })
		co(what+" in a cursor", func(x *impl.Coexpr) { x.Cursor.Kids[0].Vals[0] = v })
		add(what+" in the scope", func(s *impl.GenScope) { s.Vars = []impl.Binding{binding("A", integerOf(1)), binding("B", v)} })
		add(what+" in the first variable", func(s *impl.GenScope) { s.Vars[0].Value = v })
	}
	for _, x := range invalidScopes() {
		if len(x.s.Vars) > 0 {
			co(x.what+" in Start", func(co *impl.Coexpr) { co.Start = x.s.Vars })
			co(x.what+" in Vars", func(co *impl.Coexpr) { co.Vars = x.s.Vars })
			add(x.what, func(s *impl.GenScope) { s.Vars = x.s.Vars })
		}
	}
	for _, x := range invalidHeaps() {
		list = append(list, namedGenScope{x.what, impl.GenScope{Heap: x.h, Steps: 1}})
	}
	return list
}

// strayValues returns valid values that do not fit the heap of objectScope.
func strayValues() []impl.Value {
	return []impl.Value{arrayRef(2), tableRef(1), recordRef(1), arrayRef(3), tableRef(4), recordRef(2), arrayRef(9), recordRef(5), arrayRef(1000000)}
}

func TestGenScopes(t *testing.T) {
	for _, c := range validGenScopes(t) {
		checkEqual(t, c.what, impl.ValidGenScope(c.s), true)
		checkEqual(t, c.what+", model", isModelGenScope(c.s), true)
		checkEqual(t, c.what+": state", impl.ValidState(c.s, genVar("X"), impl.Cursor{}), true)
		want := genResult{s: copyGenScope(c.s), c: phase(1), v: integerOf(1), found: true}
		want.s.Steps--
		if c.s.Steps == 0 {
			want = genResult{code: impl.ErrSteps}
		}
		checkGenResult(t, c.what, resumed(impl.Resume(c.s, gen(t, "1"), impl.Cursor{})), want)
	}
	for _, c := range invalidGenScopes(t) {
		checkEqual(t, c.what, impl.ValidGenScope(c.s), false)
		if len(c.s.Cos) < 100 && !strings.HasPrefix(c.what, "an invalid body") {
			checkEqual(t, c.what+", model", isModelGenScope(c.s), false)
		}
		checkInvalidState(t, c.what, c.s, gen(t, "1"), impl.Cursor{})
		checkInvalidState(t, c.what+", suspended", c.s, gen(t, "1"), phase(1))
	}
}

// TestCursors compares cursors with any fields with the model, for expressions of each kind.
func TestCursors(t *testing.T) {
	s := objectScope()
	counts := []int64{0, 1, 2, 3, 4, 199, 200, 201, 2000000000000, 2000000000001, 2000000000002, -1, math.MinInt64, math.MaxInt64}
	valid := map[string]int{}
	for _, text := range []string{"1", "X", "fail()", "alt(1,2)", "and(1,2)", "limit(3,1)", "limit(0,1)", "limit(60,1)", "not(1)", "if(1,2,3)", "every(1,2)", "repeat(1)", "add(1,2)", "to(1,2,3)", "each(1)", "index(1,2)", "store(1,2,3)", "set(X,1)", "back(X,1)", "activate(1)"} {
		e := gen(t, text)
		for n := range int64(7) {
			for _, count := range counts {
				for vals := range 5 {
					for kids := range 5 {
						c := impl.Cursor{Phase: n - 2, Count: count, Vals: integersTo(vals), Kids: slices.Repeat([]impl.Cursor{phase(1)}, kids)}
						isValid := isZeroCursor(c) || isModelCursor(s.Heap.Objects, e, c)
						if isValid {
							valid[text]++
						}
						if impl.ValidState(s, e, c) != isValid {
							t.Errorf("%s: %+v: valid: %t", text, c, !isValid)
						}
						if code := resumed(impl.Resume(s, e, c)).code; (code == impl.ErrInvalid) != !isValid {
							t.Errorf("%s: %+v: code %d", text, c, code)
						}
					}
				}
			}
		}
	}
	want := map[string]int{"1": 2, "X": 2, "fail()": 1, "alt(1,2)": 3, "and(1,2)": 2, "limit(3,1)": 4, "limit(0,1)": 1, "limit(60,1)": 5, "not(1)": 2, "if(1,2,3)": 3, "every(1,2)": 1, "repeat(1)": 2, "add(1,2)": 2, "to(1,2,3)": 10, "each(1)": 7, "index(1,2)": 2, "store(1,2,3)": 2, "set(X,1)": 2, "back(X,1)": 2, "activate(1)": 2}
	checkEqual(t, "valid cursors", fmt.Sprint(valid), fmt.Sprint(want))
}

// TestInvalidCursors has cursors that are invalid in one place, also far below.
func TestInvalidCursors(t *testing.T) {
	s := objectScope()
	e := gen(t, "alt(1,limit(2,and(each(L),add(1,back(X,if(1,2,repeat(index(L,array#1))))))))")
	leaf := operandCursor(0, arrayRef(1), arrayRef(1))
	back := impl.Cursor{Phase: 1, Vals: []impl.Value{nameOf("X"), stringOf("")}, Kids: []impl.Cursor{phase(3, phase(1, leaf))}}
	sum := impl.Cursor{Phase: 1, Vals: []impl.Value{patternOf("rem"), deferOf("X")}, Kids: []impl.Cursor{phase(1), back}}
	valid := phase(2, impl.Cursor{Phase: 1, Count: 2, Kids: []impl.Cursor{phase(1, operandCursor(200, recordRef(4)), sum)}})
	checkEqual(t, "a valid cursor", impl.ValidState(s, e, valid), true)
	cursors := func(c *impl.Cursor) []*impl.Cursor {
		var list []*impl.Cursor
		var add func(c *impl.Cursor)
		add = func(c *impl.Cursor) {
			list = append(list, c)
			for i := range c.Kids {
				add(&c.Kids[i])
			}
		}
		add(c)
		return list
	}
	changes := map[string]func(c *impl.Cursor){
		"no phase": func(c *impl.Cursor) { c.Phase = 0 }, "a phase more": func(c *impl.Cursor) { c.Phase += 2 }, "a negative phase": func(c *impl.Cursor) { c.Phase = -c.Phase }, "a Count": func(c *impl.Cursor) { c.Count += 201 }, "a negative Count": func(c *impl.Cursor) { c.Count = -1 },
		"a value more": func(c *impl.Cursor) { c.Vals = append(c.Vals, integerOf(1)) }, "very many values": func(c *impl.Cursor) { c.Vals = integersTo(100000) }, "a Kid more": func(c *impl.Cursor) { c.Kids = append(c.Kids, phase(1)) }, "very many Kids": func(c *impl.Cursor) { c.Kids = make([]impl.Cursor, 100000) },
		"the zero cursor": func(c *impl.Cursor) { *c = impl.Cursor{} }, "an endless cursor": func(c *impl.Cursor) { *c = endlessCursor() },
	}
	for what, change := range changes {
		for at := range cursors(&valid) {
			c := copyCursor(valid)
			change(cursors(&c)[at])
			isValid := what == "the zero cursor" && at == 0
			if isValid != isZeroCursor(c) {
				t.Errorf("%s at %d", what, at)
			}
			if !isValid {
				checkInvalidState(t, fmt.Sprint(what, " at ", at), s, e, c)
			}
		}
	}
	invalid := append(strayValues(), invalidValues()...)
	for at, c := range cursors(&valid) {
		for i := range c.Vals {
			for _, v := range invalid {
				c := copyCursor(valid)
				cursors(&c)[at].Vals[i] = v
				checkInvalidState(t, fmt.Sprintf("the value %.50q at %d", fmt.Sprint(v), at), s, e, c)
			}
			c := copyCursor(valid)
			cursors(&c)[at].Vals = cursors(&c)[at].Vals[1:]
			checkInvalidState(t, fmt.Sprint("a value less at ", at), s, e, c)
		}
		for range c.Kids {
			c := copyCursor(valid)
			cursors(&c)[at].Kids = cursors(&c)[at].Kids[1:]
			checkInvalidState(t, fmt.Sprint("a Kid less at ", at), s, e, c)
		}
	}
	for _, v := range strayValues() {
		for i, e := range []impl.Gen{genValue(v), genNode(impl.GnNot, genValue(v)), genNode(impl.GnAlt, genVar("X"), genNode(impl.GnEach, genValue(v))), genNode(impl.GnAlt, genNode(impl.GnFail), genNamed(impl.GnOp, "is", genVar("X"), genValue(v)))} {
			checkEqual(t, "a valid expression", impl.ValidGen(e), true)
			checkInvalidState(t, fmt.Sprint(impl.ValueText(v), " in expression ", i), s, e, impl.Cursor{})
		}
	}
	for _, v := range []impl.Value{arrayRef(1), tableRef(2), recordRef(4), arrayRef(8)} {
		checkEqual(t, impl.ValueText(v), impl.ValidState(s, genNode(impl.GnNot, genValue(v)), impl.Cursor{}), true)
	}
}

// TestCursorsWithAnyValues has values in cursors that no evaluation of these Kids would deliver.
func TestCursorsWithAnyValues(t *testing.T) {
	s := objectScope()
	s.Steps = 10
	s.Cos = []impl.Coexpr{coWith(t, 1, "77")}
	values := []impl.Value{stringOf(""), stringOf("x"), integerOf(1), patternOf("rem"), nameOf("X"), deferOf("X"), arrayRef(1), tableRef(2), recordRef(4)}
	for _, text := range []string{"add(1,2)", "index(\"a\",1)", "set(A,1)", "store(1,2,3)", "activate(1)"} {
		e := gen(t, text)
		for _, v := range values {
			// The operands were used: with the next combination, they are forgotten.
			c := operandCursor(0, slices.Repeat([]impl.Value{v}, len(e.Kids))...)
			want := genResult{s: copyGenScope(s)}
			want.s.Steps -= int64(1 + len(e.Kids))
			checkGenResult(t, fmt.Sprint(text, v), resumed(impl.Resume(s, e, c)), want)
		}
	}
	for _, v := range values {
		want := genResult{s: copyGenScope(s)}
		want.s.Steps -= 2
		if v != stringOf("") {
			want.s.Vars = append([]impl.Binding{binding("A", v)}, want.s.Vars...)
		}
		checkGenResult(t, fmt.Sprint("back to ", v), resumed(impl.Resume(s, gen(t, "back(A,1)"), impl.Cursor{Phase: 1, Vals: []impl.Value{values[3], v}, Kids: []impl.Cursor{phase(1)}})), want)
	}
	// A new operand takes the place of the old one, and the others remain.
	e := gen(t, "cat(1,alt(2,3))")
	got := resumed(impl.Resume(s, e, impl.Cursor{Phase: 1, Vals: []impl.Value{stringOf("old"), arrayRef(1)}, Kids: []impl.Cursor{phase(1), phase(1, phase(1))}}))
	checkEqual(t, "the next combination", got.v, stringOf("old3"))
	checkEqual(t, "its cursor", equalCursors(got.c, impl.Cursor{Phase: 1, Vals: []impl.Value{stringOf("old"), integerOf(3)}, Kids: []impl.Cursor{phase(1), phase(2, phase(1))}}), true)
}
