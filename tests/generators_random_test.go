package tests

import (
	"fmt"
	"math/rand"
	"slices"
	"testing"

	"loop.example/g00873/impl"
)

// The tests of this file compare the functions of chapter 22 with the model.

// genMaker makes the same expressions, cursors and scopes in every run.
type genMaker struct {
	*rand.Rand
	// isPure and isLasting restrict the expressions: to pure ones, or to those
	// that end only after all their Kids have failed.
	isPure, isLasting bool
}

func newGenMaker(seed int64) genMaker {
	return genMaker{Rand: rand.New(rand.NewSource(seed))}
}

func pick[T any](m genMaker, list ...T) T {
	return list[m.Intn(len(list))]
}

// Sorts of results that an expression has, in most cases.
const (
	anyResult = iota
	integerResult
	textResult
	objectResult
	coResult
)

// leaf returns an expression of one node.
func (m genMaker) leaf(sort int) impl.Gen {
	if m.Intn(12) == 0 {
		return genNode(impl.GnFail)
	}
	switch sort {
	case integerResult:
		return pick(m, genValue(integerOf(int64(m.Intn(5)-1))), genValue(integerOf(int64(m.Intn(3)))), genVar("X"), genVar("Y"), genValue(stringOf("2")), genVar("new"))
	case textResult:
		return pick(m, genValue(stringOf("ab")), genValue(stringOf("")), genVar("S"), genValue(integerOf(12)), genVar("new"), genValue(stringOf("a\"\xff")))
	case objectResult:
		return pick(m, genVar("L"), genVar("T"), genVar("R"), genVar("Z"), genValue(arrayRef(1)), genValue(recordRef(4)))
	case coResult:
		return genValue(integerOf(int64(m.Intn(20) % 7 % 5)))
	}
	return m.leaf(pick(m, integerResult, integerResult, textResult, objectResult))
}

// gen returns an expression of at most budget nodes.
func (m genMaker) gen(budget, sort int) impl.Gen {
	if budget < 2 || m.Intn(8) == 0 {
		return m.leaf(sort)
	}
	if sort == anyResult || m.Intn(25) == 0 {
		sort = pick(m, integerResult, integerResult, textResult, objectResult)
	}
	kid := func(parts, sort int) impl.Gen { return m.gen((budget-1)/parts, sort) }
	switch m.Intn(18) {
	case 0, 1:
		return genNode(impl.GnAlt, kid(2, sort), kid(2, sort))
	case 2:
		return genNode(impl.GnAnd, kid(2, anyResult), kid(2, sort))
	case 3:
		return genNode(impl.GnIf, m.abandoned(kid(3, anyResult)), kid(3, sort), kid(3, sort))
	case 4:
		return genNode(impl.GnEvery, kid(2, anyResult), m.abandoned(kid(2, anyResult)))
	case 5, 6, 7:
		return m.limited(kid(2, sort))
	case 8, 9, 10, 11:
		if !m.isPure {
			return m.effect(kid, sort)
		}
	}
	return m.typed(kid, sort)
}

// abandoned returns an expression that does not have to fail.
func (m genMaker) abandoned(e impl.Gen) impl.Gen {
	if m.isLasting && !isModelPure(e) {
		return genNode(impl.GnFail)
	}
	return e
}

func (m genMaker) limited(e impl.Gen) impl.Gen {
	if m.isLasting && !isModelPure(e) {
		return e
	}
	switch m.Intn(5) {
	case 0:
		return genNode(impl.GnNot, e)
	case 1:
		return genNode(impl.GnRepeat, e)
	case 2:
		return genLimit(int64(m.Intn(8)), genNode(impl.GnRepeat, e))
	}
	return genLimit(int64(m.Intn(4)), e)
}

// effect returns an expression with an effect, if this is possible.
func (m genMaker) effect(kid func(parts, sort int) impl.Gen, sort int) impl.Gen {
	name := map[int]string{integerResult: pick(m, "X", "Y"), textResult: pick(m, "S", "new"), objectResult: pick(m, "L", "Z"), coResult: "X"}[sort]
	n := m.Intn(8)
	switch {
	case m.isLasting || n < 2:
		return genNamed(impl.GnBack, name, kid(1, sort))
	case n < 4:
		return genNamed(impl.GnSet, name, kid(1, sort))
	case n < 6:
		return genNode(impl.GnStore, kid(3, objectResult), kid(3, pick(m, integerResult, textResult)), kid(3, sort))
	}
	return genNode(impl.GnActivate, kid(1, coResult))
}

// typed returns an expression whose operands are of the sorts that it needs.
func (m genMaker) typed(kid func(parts, sort int) impl.Gen, sort int) impl.Gen {
	switch sort {
	case integerResult:
		if m.Intn(2) == 0 {
			return genNode(impl.GnTo, kid(3, sort), kid(3, sort), pick(m, genValue(integerOf(1)), genValue(integerOf(-1)), genValue(integerOf(2)), kid(3, sort)))
		}
		return genNamed(impl.GnOp, pick(m, "add", "sub", "mul", "div", "lt", "le", "eq", "ne", "gt", "ge"), kid(2, sort), kid(2, sort))
	case textResult:
		switch m.Intn(4) {
		case 0:
			return genNode(impl.GnEach, kid(1, sort))
		case 1:
			return genNode(impl.GnIndex, kid(2, sort), kid(2, integerResult))
		}
		return genNamed(impl.GnOp, pick(m, "cat", "cat", "seq", "sne", "slt", "is"), kid(2, sort), kid(2, sort))
	case objectResult:
		if m.Intn(2) == 0 {
			return genNode(impl.GnEach, kid(1, sort))
		}
		return genNode(impl.GnIndex, kid(2, sort), kid(2, pick(m, integerResult, textResult)))
	}
	return m.leaf(sort)
}

// vars returns variables with values that fit the heap of objectScope.
func (m genMaker) vars() []impl.Binding {
	all := []impl.Binding{binding("L", arrayRef(1)), binding("R", recordRef(4)), binding("S", stringOf("xyz")), binding("T", tableRef(2)), binding("X", integerOf(int64(m.Intn(4)+1))), binding("Y", stringOf("3")), binding("Z", pick(m, arrayRef(8), tableRef(2), patternOf("rem")))}
	return slices.DeleteFunc(all, func(impl.Binding) bool { return m.Intn(8) == 0 })
}

// scope returns a scope with objects, and co-expressions in all sorts of states.
func (m genMaker) scope(t *testing.T) impl.GenScope {
	s := objectScope()
	s.Vars = m.vars()
	s.Steps = 200
	id := int64(0)
	for range m.Intn(4) {
		id += int64(m.Intn(2) + 1)
		body := m.gen(8, anyResult)
		if m.Intn(4) == 0 {
			body = genNode(impl.GnAlt, genNode(impl.GnActivate, genValue(integerOf(id+int64(m.Intn(3)-1)))), body)
		}
		s.Cos = append(s.Cos, impl.Coexpr{Id: id, Body: body, Start: m.vars(), Vars: m.vars()})
	}
	for range m.Intn(5) {
		if len(s.Cos) > 0 {
			next := resumed(impl.Resume(s, genNode(impl.GnActivate, genValue(integerOf(pick(m, s.Cos...).Id))), impl.Cursor{}))
			if next.code == impl.OK {
				s = next.s
			}
		}
	}
	s.Steps = int64(pick(m, 300, 300, 300, m.Intn(60)))
	return s
}

// cursor returns a suspended cursor of an expression, and whether there is one.
func (m genMaker) cursor(e impl.Gen) (impl.Cursor, bool) {
	row := genRows[e.Kind]
	if len(row.kept) == 0 || e.Kind == impl.GnLimit && e.Num == 0 {
		return impl.Cursor{}, false
	}
	var c impl.Cursor
	for c.Phase = int64(m.Intn(3) + 1); ; c.Phase = c.Phase%3 + 1 {
		if _, isPhase := row.kept[c.Phase]; isPhase {
			break
		}
	}
	for _, at := range row.kept[c.Phase] {
		kid, ok := m.cursor(e.Kids[at])
		if !ok {
			return impl.Cursor{}, false
		}
		c.Kids = append(c.Kids, kid)
	}
	for range row.vals {
		c.Vals = append(c.Vals, pick(m, integerOf(1), integerOf(3), stringOf("2"), stringOf("ab"), stringOf(""), arrayRef(1), tableRef(2), recordRef(4), patternOf("rem")))
	}
	if e.Kind == impl.GnTo && m.Intn(3) > 0 {
		c.Vals = []impl.Value{integerOf(1), integerOf(5), integerOf(1)}
	}
	switch {
	case e.Kind == impl.GnLimit:
		c.Count = 1 + m.Int63n(e.Num)
	case row.count != 0:
		c.Count = pick(m, 1, 2, 3, row.count, 1+m.Int63n(row.count))
	}
	return c, true
}

// genTally counts what happened in a test.
type genTally map[string]int

func (c genTally) expect(t *testing.T, least int, list ...string) {
	t.Helper()
	for _, what := range list {
		if c[what] < least {
			t.Errorf("%s: only %d times", what, c[what])
		}
	}
}

func (c genTally) note(r genResult) {
	switch {
	case r.code != impl.OK:
		c[impl.CodeName(r.code)]++
	case r.found:
		c["found"]++
	default:
		c["failed"]++
	}
}

// checkSeries compares the results of resuming again and again with those of the model, which goes on from
// each of them, and also begins at some of them.
func checkSeries(t *testing.T, counts genTally, s impl.GenScope, e impl.Gen, c impl.Cursor, limit int) {
	t.Helper()
	what := impl.GenText(e)
	for i, want := range modelSeries(s, e, c, limit) {
		got := resumed(impl.Resume(s, e, c))
		counts.note(got)
		checkGenResult(t, fmt.Sprint(what, ", result ", i+1), got, want)
		if i%3 == 1 {
			checkGenResult(t, fmt.Sprint(what, ", result ", i+1, " alone"), got, modelResume(s, e, c))
		}
		if t.Failed() || !got.found {
			return
		}
		checkEqual(t, what+": valid state", impl.ValidState(got.s, e, got.c) && isModelState(got.s, e, got.c), true)
		for _, node := range genNodes(e) {
			counts[fmt.Sprint("kind ", node.Kind)]++
		}
		s, c = got.s, got.c
	}
}

func TestGeneratorsAgainstModel(t *testing.T) {
	for part := range int64(6) {
		t.Run(fmt.Sprint(part), func(t *testing.T) {
			t.Parallel()
			m := newGenMaker(220 + part)
			counts := genTally{}
			for range 2000 {
				s, e := m.scope(t), m.gen(pick(m, 3, 6, 10, 14), anyResult)
				checkSeries(t, counts, s, e, impl.Cursor{}, 8)
				limit := int64(m.Intn(9))
				checkGenResult(t, "AllResults: "+impl.GenText(e), allOf(impl.AllResults(s, e, limit)), modelAll(s, e, limit))
				if c, ok := m.cursor(e); ok {
					counts["cursor"]++
					checkSeries(t, counts, s, e, c, 4)
				}
				if t.Failed() {
					return
				}
			}
			counts.expect(t, 100, "found", "failed", "cursor", "type")
			counts.expect(t, 10, "range", "steps", "not-found")
			counts.expect(t, 1, "state", "division")
			for kind := range genRows {
				counts.expect(t, 30, fmt.Sprint("kind ", kind))
			}
		})
	}
}

// TestGeneratorsOfFewNodes compares all small expressions with the model.
func TestGeneratorsOfFewNodes(t *testing.T) {
	s := objectScope()
	s.Vars = append(s.Vars[:6:6], binding("X", integerOf(2)))
	s.Cos = []impl.Coexpr{coWith(t, 1, "to(1,3,1)"), coWith(t, 2, "activate(1)")}
	s.Steps = 60
	leaves := []impl.Gen{genNode(impl.GnFail), genValue(integerOf(1)), genVar("X")}
	pairs := append(slices.Clone(leaves), gen(t, "alt(1,X)"), gen(t, "alt(X,div(1,0))"), gen(t, "to(1,3,1)"), genVar("L"), gen(t, "set(X,1)"))
	var small []impl.Gen
	for _, a := range pairs {
		for kind, row := range genRows {
			one := impl.Gen{Kind: kind, Kids: []impl.Gen{a}}
			switch {
			case row.number:
				one.Num = 2
			case row.name:
				one.Text = "X"
			}
			if row.kids == 1 {
				small = append(small, one)
			}
			for _, b := range pairs {
				two := impl.Gen{Kind: kind, Kids: []impl.Gen{a, b}}
				if kind == impl.GnOp {
					two.Text = "add"
				}
				if row.kids == 2 {
					small = append(small, two)
				}
				for _, c := range pairs {
					if row.kids == 3 {
						small = append(small, genNode(kind, a, b, c))
					}
				}
			}
		}
	}
	counts := genTally{}
	for i, e := range small {
		checkSeries(t, counts, s, e, impl.Cursor{}, 8)
		for kind, row := range genRows {
			if row.kids == 1 && i%5 == 0 {
				checkSeries(t, counts, s, impl.Gen{Kind: kind, Num: map[bool]int64{true: 3}[row.number], Text: map[bool]string{true: "X"}[row.name], Kids: []impl.Gen{e}}, impl.Cursor{}, 6)
			}
		}
		if t.Failed() {
			return
		}
	}
	counts.expect(t, 300, "found", "failed", "type", "division")
	counts.expect(t, 10, "steps", "not-found")
}

// TestStatesAgainstModel changes valid states in one place.
func TestStatesAgainstModel(t *testing.T) {
	m := newGenMaker(230)
	valid, count := 0, 0
	for range 4000 {
		s, e := m.scope(t), m.gen(8, anyResult)
		c, ok := m.cursor(e)
		if !ok {
			continue
		}
		count++
		s, e = copyGenScope(s), copyGen(e)
		m.spoil(&s, &e, &c)
		isValid := isModelState(s, e, c)
		if isValid {
			valid++
		}
		checkEqual(t, fmt.Sprintf("%.300q", fmt.Sprintf("%+v", e)), impl.ValidState(s, e, c), isValid)
		checkEqual(t, fmt.Sprintf("%.300q", fmt.Sprintf("%+v", s)), impl.ValidGenScope(s), isModelGenScope(s))
		checkEqual(t, "expression", impl.ValidGen(e), isModelGen(e))
		checkGenResult(t, "changed state", resumed(impl.Resume(s, e, c)), modelResume(s, e, c))
	}
	if valid < count/10 || valid > count*9/10 {
		t.Errorf("%d of %d states are valid", valid, count)
	}
}

// spoil changes a state in one place.
func (m genMaker) spoil(s *impl.GenScope, e *impl.Gen, c *impl.Cursor) {
	v := pick(m, append(invalidValues(), append(strayValues(), integerOf(1), stringOf(""), arrayRef(8))...)...)
	list := pick(m, genNodePointers(e)...)
	cursor := pick(m, cursorPointers(c)...)
	switch m.Intn(12) {
	case 0:
		list.Kind = int64(m.Intn(20))
	case 1:
		list.Num = int64(m.Intn(3))
	case 2:
		list.Value = v
	case 3:
		list.Text = pick(m, "", "X", "add", "1")
	case 4:
		list.Kids = list.Kids[:m.Intn(len(list.Kids)+1)]
	case 5:
		cursor.Phase = int64(m.Intn(4))
	case 6:
		cursor.Count = int64(m.Intn(4))
	case 7:
		if len(cursor.Vals) > 0 {
			cursor.Vals[m.Intn(len(cursor.Vals))] = v
		}
	case 8:
		cursor.Kids = cursor.Kids[:m.Intn(len(cursor.Kids)+1)]
	case 9:
		s.Heap = heapMaker{m.Rand}.spoil(s.Heap)
	case 10:
		s.Vars = append(s.Vars, binding(pick(m, "a", "A", "1"), v))
	case 11:
		if len(s.Cos) > 0 {
			m.spoilCo(&s.Cos[m.Intn(len(s.Cos))], v)
		}
	}
}

func (m genMaker) spoilCo(x *impl.Coexpr, v impl.Value) {
	switch m.Intn(8) {
	case 0:
		x.Id += int64(m.Intn(5) - 2)
	case 1:
		x.Count = int64(m.Intn(3))
	case 2:
		x.Done = !x.Done
	case 3:
		pick(m, genNodePointers(&x.Body)...).Value = v
	case 4:
		x.Start = append(x.Start, binding("a", v))
	case 5:
		x.Vars = append(x.Vars, binding("a", v))
	case 6:
		pick(m, cursorPointers(&x.Cursor)...).Phase = int64(m.Intn(3))
	case 7:
		pick(m, cursorPointers(&x.Cursor)...).Vals = []impl.Value{v}
	}
}

func genNodePointers(e *impl.Gen) []*impl.Gen {
	list := []*impl.Gen{e}
	for i := range e.Kids {
		list = append(list, genNodePointers(&e.Kids[i])...)
	}
	return list
}

func cursorPointers(c *impl.Cursor) []*impl.Cursor {
	list := []*impl.Cursor{c}
	for i := range c.Kids {
		list = append(list, cursorPointers(&c.Kids[i])...)
	}
	return list
}

// checkStream compares a stream with the model.
func checkStream(t *testing.T, counts genTally, s impl.GenScope, e impl.Gen) {
	t.Helper()
	list, code := impl.StreamOf(s, e)
	want, wantCode := modelStreamOf(s, e)
	counts[impl.CodeName(code)]++
	if !slices.Equal(list, want) || code != wantCode || code == impl.ErrInvalid && list != nil {
		t.Errorf("%.500s: got %.300q and %d, want %.300q and %d", impl.GenText(e), fmt.Sprint(list), code, fmt.Sprint(want), wantCode)
	}
}

func TestStreamsAgainstModel(t *testing.T) {
	m := newGenMaker(231)
	m.isPure = true
	counts := genTally{}
	for range 10000 {
		checkStream(t, counts, m.scope(t), m.gen(pick(m, 3, 6, 10, 14, 30), anyResult))
	}
	m.isPure = false
	for range 2000 {
		checkStream(t, counts, m.scope(t), m.gen(6, anyResult))
	}
	counts.expect(t, 50, "ok", "full", "type", "range", "division", "invalid")
	// All pairs of streams of all lengths and endings.
	s := impl.GenScope{}
	var parts []impl.Gen
	for _, text := range []string{"fail()", "1", "to(2,3,1)", "div(1,0)", "alt(1,div(1,0))", "add(1,\"x\")", "limit(59,repeat(1))", "limit(60,repeat(1))", "to(1,100,1)", "alt(limit(59,repeat(1)),div(1,0))", "alt(limit(60,repeat(1)),div(1,0))", "alt(limit(60,repeat(1)),fail())", "every(to(1,100,1),1)", "to(1,60,1)", "to(1,61,1)"} {
		parts = append(parts, gen(t, text))
	}
	counts = genTally{}
	for _, a := range parts {
		for _, n := range []int64{0, 1, 2, 59, 60} {
			checkStream(t, counts, s, genLimit(n, a))
		}
		checkStream(t, counts, s, genNode(impl.GnNot, a))
		checkStream(t, counts, s, genNode(impl.GnRepeat, a))
		checkStream(t, counts, s, genNode(impl.GnEach, a))
		for _, b := range parts {
			for _, kind := range []int64{impl.GnAlt, impl.GnAnd, impl.GnEvery, impl.GnIndex} {
				checkStream(t, counts, s, genNode(kind, a, b))
			}
			checkStream(t, counts, s, genNamed(impl.GnOp, "lt", a, b))
			checkStream(t, counts, s, genNamed(impl.GnOp, "add", a, b))
			for _, c := range parts {
				checkStream(t, counts, s, genNode(impl.GnIf, a, b, c))
				checkStream(t, counts, s, genNode(impl.GnTo, a, b, c))
			}
		}
	}
	counts.expect(t, 100, "ok", "full", "type", "division")
}

func TestStreams(t *testing.T) {
	s := objectScope()
	s.Steps = 0
	for _, c := range []struct{ text, want string }{
		{"1", "1 ok"}, {"X", `"" ok`}, {"L", "array#1 ok"}, {"P", "<rem> ok"}, {"fail()", "ok"}, {"alt(1,2)", "1 2 ok"}, {"alt(1,div(1,0))", "1 division"}, {"alt(div(1,0),1)", "division"}, {"alt(fail(),fail())", "ok"},
		{"and(alt(1,2),alt(3,4))", "3 4 3 4 ok"}, {"and(alt(1,2),alt(3,div(1,0)))", "3 division"}, {"and(alt(1,div(1,0)),alt(3,4))", "3 4 division"}, {"and(fail(),div(1,0))", "ok"}, {"and(alt(1,2),fail())", "ok"}, {"and(alt(1,div(1,0)),fail())", "division"},
		{"limit(0,div(1,0))", "ok"}, {"limit(1,alt(1,div(1,0)))", "1 ok"}, {"limit(2,alt(1,div(1,0)))", "1 division"}, {"limit(1,div(1,0))", "division"}, {"limit(3,repeat(1))", "1 1 1 ok"}, {"limit(3,alt(1,2))", "1 2 ok"},
		{"not(1)", "ok"}, {"not(fail())", `"" ok`}, {"not(div(1,0))", "division"}, {"not(alt(1,div(1,0)))", "ok"}, {"not(every(to(1,99,1),1))", "full"}, {"not(repeat(1))", "ok"},
		{"if(1,2,div(1,0))", "2 ok"}, {"if(fail(),div(1,0),alt(2,3))", "2 3 ok"}, {"if(div(1,0),1,2)", "division"}, {"if(alt(1,div(1,0)),1,2)", "1 ok"}, {"if(repeat(1),1,2)", "1 ok"}, {"if(every(to(1,99,1),1),2,3)", "full"}, {"if(1,alt(2,div(1,0)),3)", "2 division"}, {"if(fail(),2,alt(3,div(1,0)))", "3 division"},
		{"every(alt(1,2),3)", "ok"}, {"every(fail(),div(1,0))", "ok"}, {"every(1,div(1,0))", "division"}, {"every(alt(1,add(1,\"x\")),div(1,0))", "division"}, {"every(alt(1,add(1,\"x\")),alt(1,div(1,0)))", "type"}, {"every(repeat(1),2)", "full"}, {"every(repeat(1),div(1,0))", "division"}, {"every(repeat(1),fail())", "full"},
		{"repeat(fail())", "ok"}, {"repeat(div(1,0))", "division"}, {"repeat(alt(1,div(1,0)))", "1 division"},
		{"add(alt(10,20),alt(1,2))", "11 12 21 22 ok"}, {"add(alt(10,div(1,0)),alt(1,2))", "11 12 division"}, {"add(alt(10,20),alt(1,div(1,0)))", "11 division"}, {"add(fail(),div(1,0))", "ok"}, {"add(alt(1,L),1)", "2 type"}, {"lt(alt(1,5),alt(0,7))", "7 7 ok"},
		{"to(1,alt(2,3),1)", "1 2 1 2 3 ok"}, {"to(1,2,alt(1,0))", "1 2 range"}, {"to(3,1,alt(1,-1))", "3 2 1 ok"}, {"each(alt(L,R))", `7 "x" array#1 5 record#4 ok`}, {"each(alt(\"ab\",P))", `"a" "b" type`}, {"index(alt(L,T),alt(0,\"k\"))", `"x" 9 1 ok`}, {"index(\"ab\",to(0,3,1))", `"a" "b" ok`},
	} {
		list, code := impl.StreamOf(s, gen(t, c.text))
		got := impl.CodeName(code)
		if len(list) > 0 {
			got = formsOf(list) + " " + got
		}
		checkEqual(t, c.text, got, c.want)
	}
	for _, text := range []string{"set(X,1)", "back(X,1)", "store(L,1,2)", "activate(1)", "alt(1,set(X,1))", "not(not(back(X,1)))", "if(1,2,store(L,1,2))", "limit(0,activate(1))", "and(fail(),set(X,1))"} {
		list, code := impl.StreamOf(s, gen(t, text))
		checkEqual(t, text, list == nil && code == impl.ErrInvalid, true)
	}
}

// TestStreamsAtTheirLimit has streams of exactly MaxResults values, and of one more.
func TestStreamsAtTheirLimit(t *testing.T) {
	for _, c := range []struct {
		text  string
		count int
		code  int64
	}{
		{"to(1,59,1)", 59, impl.OK}, {"to(1,60,1)", 60, impl.OK}, {"to(1,61,1)", 60, impl.ErrFull}, {"to(-1000000000000,1000000000000,1)", 60, impl.ErrFull},
		{"alt(to(1,59,1),1)", 60, impl.OK}, {"alt(to(1,60,1),fail())", 60, impl.OK}, {"alt(to(1,60,1),1)", 60, impl.ErrFull}, {"alt(to(1,60,1),div(1,0))", 60, impl.ErrDivision}, {"alt(to(1,61,1),div(1,0))", 60, impl.ErrFull}, {"alt(to(1,60,1),alt(1,div(1,0)))", 60, impl.ErrFull},
		{"and(to(1,6,1),to(1,10,1))", 60, impl.OK}, {"and(to(1,6,1),to(1,11,1))", 60, impl.ErrFull}, {"and(alt(to(1,6,1),div(1,0)),to(1,10,1))", 60, impl.ErrDivision}, {"and(repeat(1),fail())", 0, impl.ErrFull}, {"and(fail(),repeat(1))", 0, impl.OK}, {"and(1,repeat(1))", 60, impl.ErrFull},
		{"add(to(1,6,1),to(1,10,1))", 60, impl.OK}, {"add(to(1,61,1),1)", 60, impl.ErrFull}, {"gt(to(1,61,1),100)", 0, impl.ErrFull}, {"gt(to(1,60,1),100)", 0, impl.OK}, {"gt(1,to(1,61,1))", 0, impl.ErrFull},
		{"limit(60,to(1,61,1))", 60, impl.OK}, {"limit(60,repeat(1))", 60, impl.OK}, {"limit(60,to(1,60,1))", 60, impl.OK}, {"limit(60,to(1,59,1))", 59, impl.OK}, {"limit(59,repeat(1))", 59, impl.OK},
		{"repeat(to(1,60,1))", 60, impl.ErrFull}, {"repeat(to(1,61,1))", 60, impl.ErrFull}, {"repeat(to(1,7,1))", 60, impl.ErrFull}, {"repeat(every(to(1,61,1),1))", 0, impl.ErrFull}, {"every(to(1,60,1),1)", 0, impl.OK}, {"every(to(1,61,1),1)", 0, impl.ErrFull},
		{"to(to(1,60,1),2,1)", 3, impl.OK}, {"to(to(1,61,1),2,1)", 3, impl.ErrFull}, {"to(to(1,60,1),to(1,60,1),to(1,60,1))", 60, impl.ErrFull}, {"to(to(100,159,1),to(1,60,1),to(1,60,1))", 0, impl.OK},
	} {
		list, code := impl.StreamOf(impl.GenScope{}, gen(t, c.text))
		checkEqual(t, c.text+": values", len(list), c.count)
		checkEqual(t, c.text+": ending", code, c.code)
	}
	text := strings60()
	list, code := impl.StreamOf(stepsFor(0, binding("S", stringOf(text))), gen(t, "each(S)"))
	checkEqual(t, "60 bytes", fmt.Sprint(len(list), code), "60 0")
	list, code = impl.StreamOf(stepsFor(0, binding("S", stringOf(text+"x"))), gen(t, "each(S)"))
	checkEqual(t, "61 bytes", fmt.Sprint(len(list), code), "60 6")
	// A stream in which nothing is found takes long only if Kids are evaluated again and again.
	nested := gen(t, "to(100,159,1)")
	for range 11 {
		nested = genNode(impl.GnTo, gen(t, "200"), nested, genNode(impl.GnAlt, gen(t, "1"), genNode(impl.GnFail)))
	}
	list, code = impl.StreamOf(impl.GenScope{}, nested)
	checkEqual(t, "nested", fmt.Sprint(len(list), code), "0 0")
	deep := gen(t, "limit(60,repeat(1))")
	for range 28 {
		deep = genNode(impl.GnAnd, deep, genNode(impl.GnFail))
	}
	list, code = impl.StreamOf(impl.GenScope{}, deep)
	checkEqual(t, "deep", fmt.Sprint(len(list), code), "0 0")
	other := gen(t, "limit(60,repeat(1))")
	for range 28 {
		other = genNode(impl.GnAnd, gen(t, "1"), other)
	}
	list, code = impl.StreamOf(impl.GenScope{}, other)
	checkEqual(t, "other", fmt.Sprint(len(list), code), "60 0")
}

// strings60 returns a text of 60 bytes.
func strings60() string {
	return string(slices.Repeat([]byte("ab"), 30))
}
