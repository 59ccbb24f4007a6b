package tests

import (
	"fmt"
	"slices"
	"testing"

	"loop.example/g00873/impl"
)

// The tests of this file are promise 30. They use no model.

// resumedAll resumes an expression up to a number of times, and returns what each time delivered.
func resumedAll(s impl.GenScope, e impl.Gen, limit int) []genResult {
	var list []genResult
	last := genResult{s: s, found: true}
	for last.found && len(list) < limit {
		last = resumed(impl.Resume(last.s, e, last.c))
		list = append(list, last)
	}
	return list
}

// valuesIn returns the results of a series.
func valuesIn(list []genResult) []impl.Value {
	var values []impl.Value
	for _, r := range list {
		if r.found {
			values = append(values, r.v)
		}
	}
	return values
}

func TestGeneratorsAreRestoredFromTheirTexts(t *testing.T) {
	m := newGenMaker(300)
	nodes := 0
	for range 20000 {
		e := m.gen(pick(m, 3, 8, 20, 60), anyResult)
		text := impl.GenText(e)
		got, ok := impl.ReadGen(text)
		if !ok || !impl.SameGen(got, e) || !equalGens(got, e) || impl.GenText(got) != text {
			t.Errorf("%s is read as %s", text, impl.GenText(got))
		}
		nodes = max(nodes, len(genNodes(e)))
	}
	if nodes < 40 {
		t.Errorf("the largest expression had only %d nodes", nodes)
	}
	for _, e := range genTexts() {
		got, ok := impl.ReadGen(impl.GenText(e))
		checkEqual(t, impl.GenText(e), ok && impl.SameGen(got, e), true)
	}
}

// TestAllResultsAreThoseOfResuming checks AllResults with each limit against a series of calls of Resume.
func TestAllResultsAreThoseOfResuming(t *testing.T) {
	m := newGenMaker(301)
	counts := genTally{}
	for range 3000 {
		s, e := m.scope(t), m.gen(12, anyResult)
		list := resumedAll(s, e, 6)
		values := valuesIn(list)
		last := list[len(list)-1]
		counts.note(last)
		for limit := range int64(7) {
			got := allOf(impl.AllResults(s, e, limit))
			want := genResult{s: s}
			switch {
			case limit == 0:
			case int(limit) <= len(values):
				want = genResult{s: list[limit-1].s, list: values[:limit]}
			case last.code != impl.OK:
				want = genResult{code: last.code}
			default:
				want = genResult{s: last.s, list: values, found: true}
			}
			checkGenResult(t, fmt.Sprint(impl.GenText(e), " up to ", limit), got, want)
		}
		if t.Failed() {
			return
		}
	}
	counts.expect(t, 40, "found", "failed", "type")
}

// checkStreamIsDelivered checks that a pure expression delivers its stream, and then fails or ends with its code.
func checkStreamIsDelivered(t *testing.T, counts genTally, s impl.GenScope, e impl.Gen) {
	t.Helper()
	s.Steps = 20000
	values, code := impl.StreamOf(s, e)
	list := resumedAll(s, e, 61)
	got, last := valuesIn(list), list[len(list)-1]
	what := impl.GenText(e)
	if last.code == impl.ErrSteps {
		counts["too long"]++
		return
	}
	counts[impl.CodeName(code)]++
	if code == impl.ErrFull {
		// Only the beginning is known.
		checkList(t, what, got[:min(len(got), len(values))], values)
		return
	}
	checkList(t, what, got, values)
	checkEqual(t, what+": ending", last.code, code)
	if code == impl.OK {
		checkEqual(t, what+": failed", last.found, false)
		if len(values) < 60 {
			all := allOf(impl.AllResults(s, e, 60))
			checkList(t, what+": all", all.list, values)
			checkEqual(t, what+": all have been delivered", all.found, true)
		}
		// A pure expression changes nothing but the steps.
		last.s.Steps = s.Steps
		checkEqual(t, what+": scope", equalGenScopes(last.s, s), true)
	}
}

func TestPureGeneratorsDeliverTheirStreams(t *testing.T) {
	m := newGenMaker(302)
	m.isPure = true
	counts := genTally{}
	for range 4000 {
		s, e := m.scope(t), m.gen(pick(m, 4, 8, 12), anyResult)
		checkStreamIsDelivered(t, counts, s, e)
	}
	for _, text := range []string{"to(1,60,1)", "to(1,61,1)", "limit(60,repeat(1))", "alt(to(1,60,1),div(1,0))", "every(to(1,61,1),1)", "not(every(to(1,61,1),1))", "and(to(1,10,1),to(1,6,1))", "and(to(1,10,1),to(1,7,1))", "repeat(alt(1,div(1,0)))", "if(repeat(1),1,2)", "gt(to(1,61,1),100)"} {
		checkStreamIsDelivered(t, counts, objectScope(), gen(t, text))
	}
	counts.expect(t, 10, "ok", "full", "type", "range", "division")
}

func isReversible(e impl.Gen) bool {
	return !slices.ContainsFunc(genNodes(e), func(node impl.Gen) bool {
		return slices.Contains([]int64{impl.GnStore, impl.GnSet, impl.GnActivate}, node.Kind)
	})
}

// TestReversibleAssignmentsAreUndone checks that nothing is left of assignments of
// GnBack in an expression that has failed, and whose Kids have all failed before.
func TestReversibleAssignmentsAreUndone(t *testing.T) {
	m := newGenMaker(303)
	m.isLasting = true
	failed, changed := 0, 0
	for range 8000 {
		s, e := m.scope(t), m.gen(pick(m, 6, 10, 14), anyResult)
		s.Steps = 3000
		if !isReversible(e) || isModelPure(e) {
			continue
		}
		list := resumedAll(s, e, 60)
		last := list[len(list)-1]
		if last.found || last.code != impl.OK {
			continue
		}
		failed++
		for _, r := range list {
			if !slices.Equal(r.s.Vars, s.Vars) {
				changed++
			}
		}
		checkList(t, impl.GenText(e), last.s.Vars, s.Vars)
	}
	if failed < 500 || changed < 300 {
		t.Errorf("only %d expressions failed, with %d other scopes before", failed, changed)
	}
	s := stepsFor(100, binding("X", integerOf(7)))
	for _, c := range []struct{ text, between string }{
		{"back(X,1)", "X=1"}, {"back(Y,1)", "X=7 Y=1"}, {`back(X,"")`, ""}, {"and(back(X,1),back(X,2))", "X=2"}, {"and(back(X,1),set(X,2))", "X=2"}, {"alt(back(X,1),2)", "X=1"}, {"if(1,back(X,1),2)", "X=1"}, {"add(back(X,1),back(Y,X))", "X=1 Y=1"},
	} {
		list := resumedAll(s, gen(t, c.text), 60)
		checkEqual(t, c.text+": after the first result", varTexts(list[0].s.Vars), c.between)
		checkEqual(t, c.text+": after the failure", varTexts(list[len(list)-1].s.Vars), "X=7")
	}
}

// TestMoreStepsDoNotChangeResults runs expressions with all numbers of steps up to more than enough.
func TestMoreStepsDoNotChangeResults(t *testing.T) {
	m := newGenMaker(304)
	counts := genTally{}
	for range 1500 {
		s, e := m.scope(t), m.gen(8, anyResult)
		s.Steps = 300
		whole := allOf(impl.AllResults(s, e, 4))
		if whole.code == impl.ErrSteps {
			continue
		}
		counts.note(whole)
		needed := int64(-1)
		for steps := range int64(60) {
			less := s
			less.Steps = steps
			got := allOf(impl.AllResults(less, e, 4))
			if needed < 0 && got.code == impl.ErrSteps {
				checkGenResult(t, "too few steps", got, genResult{code: impl.ErrSteps})
				continue
			}
			if needed < 0 {
				needed = steps
			}
			want := whole
			if whole.code == impl.OK {
				want.s.Steps = steps - needed
				checkEqual(t, "steps left", whole.s.Steps, 300-needed)
			}
			checkGenResult(t, fmt.Sprint(impl.GenText(e), " with ", steps, " steps"), got, want)
		}
		if t.Failed() {
			return
		}
	}
	counts.expect(t, 20, "found", "failed", "type")
}
