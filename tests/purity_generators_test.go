package tests

import (
	"fmt"
	"maps"
	"math"
	"slices"
	"strings"
	"testing"

	"loop.example/g00873/impl"
)

// The tests of this file are promise 1 for the functions of chapter 22.

// genCaseOf has arguments of these functions.
type genCaseOf struct {
	s     impl.GenScope
	e     impl.Gen
	other impl.Gen
	c     impl.Cursor
	text  string
	limit int64
}

// pureGenResult is all that a function returns.
type pureGenResult struct {
	genResult
	e    impl.Gen
	rest string
}

// generatorFunctions are all functions of chapter 22.
func generatorFunctions() map[string]func(c genCaseOf) pureGenResult {
	answer := func(list ...any) pureGenResult { return pureGenResult{rest: fmt.Sprint(list...)} }
	return map[string]func(c genCaseOf) pureGenResult{
		"ValidGen":  func(c genCaseOf) pureGenResult { return answer(impl.ValidGen(c.e)) },
		"SameGen":   func(c genCaseOf) pureGenResult { return answer(impl.SameGen(c.e, c.e), impl.SameGen(c.e, c.other)) },
		"IsPureGen": func(c genCaseOf) pureGenResult { return answer(impl.IsPureGen(c.e)) },
		"GenText":   func(c genCaseOf) pureGenResult { return answer(impl.GenText(c.e)) },
		"ReadGen": func(c genCaseOf) pureGenResult {
			e, ok := impl.ReadGen(c.text)
			return pureGenResult{e: e, rest: fmt.Sprint(ok)}
		},
		"ValidGenScope": func(c genCaseOf) pureGenResult { return answer(impl.ValidGenScope(c.s)) },
		"ValidState":    func(c genCaseOf) pureGenResult { return answer(impl.ValidState(c.s, c.e, c.c)) },
		"Resume": func(c genCaseOf) pureGenResult {
			return pureGenResult{genResult: resumed(impl.Resume(c.s, c.e, c.c))}
		},
		"Resume from the beginning": func(c genCaseOf) pureGenResult {
			return pureGenResult{genResult: resumed(impl.Resume(c.s, c.e, impl.Cursor{}))}
		},
		"AllResults": func(c genCaseOf) pureGenResult {
			return pureGenResult{genResult: allOf(impl.AllResults(c.s, c.e, c.limit))}
		},
		"StreamOf": func(c genCaseOf) pureGenResult {
			list, code := impl.StreamOf(c.s, c.e)
			return pureGenResult{genResult: genResult{list: list, code: code}}
		},
	}
}

func equalPureGenResults(a, b pureGenResult) bool {
	return equalGenResults(a.genResult, b.genResult) && equalGens(a.e, b.e) && a.rest == b.rest
}

// sharedGenScope returns a scope whose lists share memory with each other, also behind their ends, and an
// expression and a cursor of it that share memory with the scope.
func sharedGenScope() (impl.GenScope, impl.Gen, impl.Cursor) {
	values := []impl.Value{arrayRef(1), arrayRef(2), arrayRef(1), integerOf(2)}
	vars := []impl.Binding{binding("L", arrayRef(1)), binding("M", arrayRef(2)), binding("X", integerOf(1)), binding("Y", integerOf(2))}
	kids := []impl.Gen{genVar("X"), genVar("Y"), genVar("L")}
	pair := genNode(impl.GnAlt, kids[:2]...)
	body := genNode(impl.GnAlt, pair, pair)
	cursors := []impl.Cursor{phase(1), phase(1), phase(1)}
	inner := phase(2, cursors[:1]...)
	s := impl.GenScope{
		Vars:  vars[:3],
		Heap:  heapWith(3, impl.Object{Id: 1, Kind: impl.ObArray, Vals: values}, impl.Object{Id: 2, Kind: impl.ObArray, Vals: values[:2]}, impl.Object{Id: 3, Kind: impl.ObTable, Keys: values[:2], Vals: values[1:3], Default: integerOf(1)}),
		Cos:   []impl.Coexpr{{Id: 1, Body: body, Start: vars, Vars: vars, Count: 2, Cursor: phase(2, inner)}, {Id: 2, Body: body, Start: vars[:2], Vars: vars[1:3], Count: 1, Cursor: phase(1, inner)}, {Id: 3, Body: pair, Start: vars, Vars: vars[:1]}},
		Steps: 100,
	}
	e := genNode(impl.GnAnd, genNode(impl.GnStore, kids[2], genValue(integerOf(0)), kids[0]), genNode(impl.GnAlt, genNode(impl.GnActivate, pair), body))
	c := impl.Cursor{Phase: 1, Kids: []impl.Cursor{{Phase: 1, Vals: values[1:4], Kids: cursors}, phase(1, impl.Cursor{Phase: 1, Vals: values[3:], Kids: []impl.Cursor{inner}})}}
	return s, e, c
}

// genCases returns arguments, valid and invalid ones, and some that share memory with each other.
func genCases(t *testing.T) []genCaseOf {
	var cases []genCaseOf
	texts := append(slices.Sorted(maps.Keys(genTexts())), noGenTexts()[:40]...)
	add := func(s impl.GenScope, e, other impl.Gen, c impl.Cursor) {
		cases = append(cases, genCaseOf{s, e, other, c, texts[len(cases)%len(texts)], int64(len(cases)%9) - 1})
	}
	shared, e, c := sharedGenScope()
	for range 5 {
		add(shared, e, shared.Cos[0].Body, c)
		add(shared, e, e, impl.Cursor{})
		add(shared, shared.Cos[0].Body, shared.Cos[1].Body, shared.Cos[0].Cursor)
		add(suspendedScope(t), gen(t, "alt(1,each(L))"), gen(t, "alt(1,each(X))"), suspendedCo(t, 1).Cursor)
		add(suspendedScope(t), gen(t, "fail()"), gen(t, "fail()"), impl.Cursor{})
		add(impl.GenScope{}, gen(t, "1"), gen(t, "2"), impl.Cursor{})
	}
	m := newGenMaker(310)
	for range 250 {
		s, e := m.scope(t), m.gen(10, anyResult)
		c, _ := m.cursor(e)
		add(s, e, m.gen(3, anyResult), c)
		if m.Intn(3) == 0 {
			s, e, c = copyGenScope(s), copyGen(e), copyCursor(c)
			m.spoil(&s, &e, &c)
			add(s, e, copyGen(e), c)
		}
	}
	m.isPure = true
	for range 50 {
		e := m.gen(10, anyResult)
		add(m.scope(t), e, copyGen(e), impl.Cursor{})
	}
	for i, x := range invalidGenScopes(t) {
		if i%9 == 0 && len(x.s.Cos) < 100 && len(x.s.Heap.Objects) < 100 && len(x.s.Vars) < 100 && !strings.Contains(x.what, "body") {
			add(x.s, gen(t, "alt(1,X)"), impl.Gen{}, phase(1, phase(1)))
		}
	}
	return cases
}

func copyGenCase(c genCaseOf) genCaseOf {
	c.s, c.e, c.other, c.c, c.text = copyGenScope(c.s), copyGen(c.e), copyGen(c.other), copyCursor(c.c), strings.Clone(c.text)
	return c
}

// roomyGen, roomyCursor and roomyGenScope return equal things, each of whose lists has unused elements behind it.
func roomyGen(e impl.Gen) impl.Gen {
	e.Kids, _ = backing(e.Kids, genVar("unused"))
	for i, kid := range e.Kids {
		e.Kids[i] = roomyGen(kid)
	}
	return e
}

func roomyCursor(c impl.Cursor) impl.Cursor {
	c.Vals, _ = backing(c.Vals, integerOf(77))
	c.Kids, _ = backing(c.Kids, phase(77))
	for i, kid := range c.Kids {
		c.Kids[i] = roomyCursor(kid)
	}
	return c
}

func roomyGenScope(s impl.GenScope) impl.GenScope {
	unused := binding("unused", integerOf(77))
	roomy, _, _ := withRoom(heapCase{h: s.Heap})
	s.Heap = roomy.h
	s.Vars, _ = backing(s.Vars, unused)
	s.Cos, _ = backing(s.Cos, impl.Coexpr{Id: 77})
	for i, x := range s.Cos {
		s.Cos[i].Body, s.Cos[i].Cursor = roomyGen(x.Body), roomyCursor(x.Cursor)
		s.Cos[i].Start, _ = backing(x.Start, unused)
		s.Cos[i].Vars, _ = backing(x.Vars, unused)
	}
	return s
}

func roomyGenCase(c genCaseOf) genCaseOf {
	c.s, c.e, c.other, c.c = roomyGenScope(c.s), roomyGen(c.e), roomyGen(c.other), roomyCursor(c.c)
	return c
}

// turnedGen, turnedCursor and turnedGenCase return equal things with nil for each empty list, and an empty list for each nil.
func turnedGen(e impl.Gen) impl.Gen {
	e.Kids = otherEmpty(e.Kids)
	for i, kid := range e.Kids {
		e.Kids[i] = turnedGen(kid)
	}
	return e
}

func turnedCursor(c impl.Cursor) impl.Cursor {
	c.Vals, c.Kids = otherEmpty(c.Vals), otherEmpty(c.Kids)
	for i, kid := range c.Kids {
		c.Kids[i] = turnedCursor(kid)
	}
	return c
}

func turnedGenCase(c genCaseOf) genCaseOf {
	c.e, c.other, c.c = turnedGen(c.e), turnedGen(c.other), turnedCursor(c.c)
	c.s.Heap = emptied(heapCase{h: c.s.Heap}).h
	c.s.Vars, c.s.Cos = otherEmpty(c.s.Vars), otherEmpty(c.s.Cos)
	for i, x := range c.s.Cos {
		c.s.Cos[i].Body, c.s.Cos[i].Cursor = turnedGen(x.Body), turnedCursor(x.Cursor)
		c.s.Cos[i].Start, c.s.Cos[i].Vars = otherEmpty(x.Start), otherEmpty(x.Vars)
	}
	return c
}

func (w *watcher) watchGen(e impl.Gen) {
	watch(w, e.Kids, func(a, b impl.Gen) bool {
		return a.Kind == b.Kind && a.Num == b.Num && a.Text == b.Text && a.Value == b.Value && isSame(a.Kids, b.Kids)
	})
	for _, kid := range e.Kids {
		w.watchGen(kid)
	}
}

func (w *watcher) watchCursor(c impl.Cursor) {
	watch(w, c.Vals, sameElement)
	watch(w, c.Kids, sameCursorMemory)
	for _, kid := range c.Kids {
		w.watchCursor(kid)
	}
}

func sameCursorMemory(a, b impl.Cursor) bool {
	return a.Phase == b.Phase && a.Count == b.Count && isSame(a.Vals, b.Vals) && isSame(a.Kids, b.Kids)
}

func watchGenCase(w *watcher, c genCaseOf) {
	w.watchHeap(c.s.Heap)
	watch(w, c.s.Vars, sameElement)
	watch(w, c.s.Cos, func(a, b impl.Coexpr) bool {
		return a.Id == b.Id && a.Count == b.Count && a.Done == b.Done && isSame(a.Start, b.Start) && isSame(a.Vars, b.Vars) && sameCursorMemory(a.Cursor, b.Cursor) && equalGens(a.Body, b.Body) && isSame(a.Body.Kids, b.Body.Kids)
	})
	for _, x := range c.s.Cos {
		w.watchGen(x.Body)
		w.watchCursor(x.Cursor)
		watch(w, x.Start, sameElement)
		watch(w, x.Vars, sameElement)
	}
	w.watchGen(c.e)
	w.watchGen(c.other)
	w.watchCursor(c.c)
}

// addGen, addCursor and addGenScope add the memory of lists, and report whether none of it was there before.
func (m patternMemory) addGen(e impl.Gen) bool {
	fresh := isNew(m, e.Kids)
	for _, kid := range e.Kids {
		fresh = m.addGen(kid) && fresh
	}
	return fresh
}

func (m patternMemory) addCursor(c impl.Cursor) bool {
	fresh := isNew(m, c.Vals)
	fresh = isNew(m, c.Kids) && fresh
	for _, kid := range c.Kids {
		fresh = m.addCursor(kid) && fresh
	}
	return fresh
}

func (m patternMemory) addGenScope(s impl.GenScope) bool {
	fresh := m.addHeap(s.Heap)
	fresh = isNew(m, s.Vars) && fresh
	fresh = isNew(m, s.Cos) && fresh
	for _, x := range s.Cos {
		fresh = m.addGen(x.Body) && fresh
		fresh = m.addCursor(x.Cursor) && fresh
		fresh = isNew(m, x.Start) && fresh
		fresh = isNew(m, x.Vars) && fresh
	}
	return fresh
}

func (m patternMemory) addGenCase(c genCaseOf) {
	m.addGenScope(c.s)
	m.addGen(c.e)
	m.addGen(c.other)
	m.addCursor(c.c)
}

func (m patternMemory) addGenResult(r pureGenResult) bool {
	fresh := m.addGenScope(r.s)
	fresh = m.addGen(r.e) && fresh
	fresh = m.addCursor(r.c) && fresh
	return isNew(m, r.list) && fresh
}

func overwriteGen(e impl.Gen) {
	for _, kid := range e.Kids {
		overwriteGen(kid)
	}
	overwriteAll(e.Kids, genVar("changed"))
}

func overwriteCursor(c impl.Cursor) {
	for _, kid := range c.Kids {
		overwriteCursor(kid)
	}
	overwriteAll(c.Vals, integerOf(77))
	overwriteAll(c.Kids, phase(77))
}

func overwriteGenResult(r pureGenResult) {
	overwriteBuiltinResult(builtinResult{callResult: callResult{heap: r.s.Heap}})
	changed := binding("changed", integerOf(77))
	for _, x := range r.s.Cos {
		overwriteGen(x.Body)
		overwriteCursor(x.Cursor)
		overwriteAll(x.Start, changed)
		overwriteAll(x.Vars, changed)
	}
	overwriteAll(r.s.Cos, impl.Coexpr{Id: 77})
	overwriteAll(r.s.Vars, changed)
	overwriteGen(r.e)
	overwriteCursor(r.c)
	overwriteAll(r.list, integerOf(77))
}

func TestGeneratorFunctionsArePure(t *testing.T) {
	p := purity[genCaseOf, pureGenResult]{
		functions: generatorFunctions(), cases: genCases(t), equal: equalPureGenResults,
		copied: copyGenCase, roomy: roomyGenCase, turned: turnedGenCase, watch: watchGenCase,
		addCase: patternMemory.addGenCase, addResult: patternMemory.addGenResult, overwrite: overwriteGenResult,
	}
	p.checkAll(t, map[string]int{"ReadGen": 500, "Resume": 5000, "Resume from the beginning": 5000, "AllResults": 5000, "StreamOf": 500})
}

// TestFailuresOfGeneratorFunctions checks that nothing but the code is left of a call with an error, and nothing but the scope of one that fails.
func TestFailuresOfGeneratorFunctions(t *testing.T) {
	codes := map[string]int{}
	for what, call := range generatorFunctions() {
		for i, c := range genCases(t) {
			r := call(c)
			codes[fmt.Sprint(what, r.code)]++
			if r.code != impl.OK && what != "StreamOf" {
				checkGenResult(t, fmt.Sprintf("%s: case %d", what, i), r.genResult, genResult{code: r.code})
			}
			if !r.found && (!isZeroCursor(r.c) || r.v != impl.Value{}) {
				t.Errorf("%s: case %d: a result of an expression that fails", what, i)
			}
			if r.rest == "false" && !equalGens(r.e, impl.Gen{}) {
				t.Errorf("%s: case %d: an expression that was not read", what, i)
			}
		}
	}
	for _, what := range []string{"Resume", "Resume from the beginning", "AllResults", "StreamOf"} {
		for _, code := range []int64{impl.OK, impl.ErrInvalid, impl.ErrType} {
			if codes[fmt.Sprint(what, code)] < 3 {
				t.Errorf("%s returned the code %d only %d times", what, code, codes[fmt.Sprint(what, code)])
			}
		}
	}
}

// TestOldStatesCanBeUsedAgain resumes an expression twice from each state, in both orders.
func TestOldStatesCanBeUsedAgain(t *testing.T) {
	m := newGenMaker(311)
	for range 300 {
		s, e := m.scope(t), m.gen(12, anyResult)
		states := resumedAll(s, e, 6)
		for i := len(states) - 2; i >= 0; i-- {
			checkGenResult(t, fmt.Sprint(impl.GenText(e), " again from result ", i+1), resumed(impl.Resume(states[i].s, e, states[i].c)), states[i+1])
		}
		checkGenResult(t, impl.GenText(e)+" again", resumed(impl.Resume(s, e, impl.Cursor{})), states[0])
	}
}

// TestGeneratorFunctionsWithVeryLargeArguments has lists and texts far beyond all limits, expressions and cursors without end, and the least and the greatest numbers.
func TestGeneratorFunctionsWithVeryLargeArguments(t *testing.T) {
	long := strings.Repeat("x", 1000000)
	vars := slices.Repeat([]impl.Binding{binding(long, stringOf(long))}, 100000)
	gens := []impl.Gen{endlessGen(1), endlessGen(100), sharedGen(200), stacking(1000000, genVar("X")), genNode(impl.GnAlt, make([]impl.Gen, 300000)...), genVar(long), genValue(stringOf(long)), genLimit(math.MaxInt64, genVar("X")), {Kind: math.MinInt64, Num: math.MaxInt64, Text: long}, gen(t, "to(1,1000000000000,1)"), gen(t, "alt(1,2)")}
	cursors := []impl.Cursor{{}, endlessCursor(), {Phase: math.MinInt64, Count: math.MaxInt64}, {Phase: 1, Vals: slices.Repeat([]impl.Value{stringOf(long)}, 300000)}, {Phase: 1, Kids: make([]impl.Cursor, 300000)}, operandCursor(math.MaxInt64, integersTo(3)...), phase(1, endlessCursor())}
	scopes := []impl.GenScope{{}, {Steps: math.MaxInt64}, {Steps: 100}, {Vars: vars}, {Heap: heapWith(math.MaxInt64, arraysTo(300000)...)}, {Cos: make([]impl.Coexpr, 300000)}}
	for _, e := range gens {
		for _, c := range cursors[:5] {
			scopes = append(scopes, impl.GenScope{Cos: []impl.Coexpr{{Id: 1, Body: e, Start: vars, Vars: vars, Cursor: c, Count: 1}}}, impl.GenScope{Cos: []impl.Coexpr{{Id: math.MaxInt64, Body: e, Cursor: c, Count: math.MinInt64, Done: true}}}, impl.GenScope{Cos: []impl.Coexpr{{Id: 1, Body: e, Cursor: c, Count: 1}}})
		}
	}
	texts := []string{long, strings.Repeat("alt(", 300000), "\"" + long, "limit(" + strings.Repeat("9", 300000), strings.Repeat("not(", 59) + "X" + strings.Repeat(")", 59)}
	for what, call := range generatorFunctions() {
		for i := range 200 {
			if what == "SameGen" && i >= 40 {
				break
			}
			c := genCaseOf{scopes[i%len(scopes)], gens[i/3%len(gens)], gens[i%len(gens)], cursors[i/2%len(cursors)], texts[i%5], []int64{math.MinInt64, -1, 0, 60, 61, math.MaxInt64}[i%6]}
			if !equalPureGenResults(call(c), call(c)) {
				t.Errorf("%s: another result for the case %d", what, i)
			}
		}
	}
}
