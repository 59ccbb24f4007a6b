package tests

import (
	"fmt"
	"math"
	"slices"
	"strings"
	"testing"

	"loop.example/g00873/impl"
)

// state returns a matcher with the status MtRun.
func state(subject string, pc, at int64) impl.Matcher {
	return impl.Matcher{Status: impl.MtRun, Subject: subject, PC: pc, Cursor: at}
}

// changed returns a copy of a matcher with a change.
func changed(m impl.Matcher, change func(m *impl.Matcher)) impl.Matcher {
	m = copyMatcher(m)
	if change != nil {
		change(&m)
	}
	return m
}

// marked and returning return frames.
func marked(below, num int64) impl.MatchFrame { return impl.MatchFrame{Below: below, Num: num} }
func returning(below, num int64) impl.MatchFrame {
	return impl.MatchFrame{Below: below, Num: num, Return: true}
}

// going, more and fence return choices.
func going(pc, at, top, conds int64) impl.MatchChoice {
	return impl.MatchChoice{Kind: impl.ChGo, PC: pc, Cursor: at, Top: top, Conds: conds}
}

func more(pc, at, top, conds, last int64) impl.MatchChoice {
	return impl.MatchChoice{Kind: impl.ChMore, PC: pc, Cursor: at, Top: top, Conds: conds, Last: last}
}

func fence(conds int64) impl.MatchChoice {
	return impl.MatchChoice{Kind: impl.ChAbort, Conds: conds}
}

// newMatcher returns a new matcher for valid arguments.
func newMatcher(t *testing.T, c impl.PatternCode, subject string, anchored bool) impl.Matcher {
	t.Helper()
	m, code := impl.NewMatcher(c, subject, anchored)
	if code != impl.OK {
		t.Fatalf("NewMatcher(%v, %.300q): code %d", c, subject, code)
	}
	return m
}

// stepped returns a matcher after a step that must be possible.
func stepped(t *testing.T, c impl.PatternCode, m impl.Matcher) impl.Matcher {
	t.Helper()
	m, code := impl.StepMatcher(c, m)
	if code != impl.OK {
		t.Fatalf("StepMatcher: code %d", code)
	}
	return m
}

func TestMatcherConstants(t *testing.T) {
	checkList(t, "limits", []int64{impl.MaxMachine, impl.MaxMachineSteps}, []int64{40000, 1000000})
	checkList(t, "states", []int64{impl.MtRun, impl.MtFound, impl.MtDone, impl.MtFault}, []int64{1, 2, 3, 4})
	checkList(t, "choices", []int64{impl.ChGo, impl.ChMore, impl.ChAbort}, []int64{1, 2, 3})
}

func TestMatcherExamples(t *testing.T) {
	c := compiled(t, nil, "arb")
	m := stepped(t, c, newMatcher(t, c, "ab", false))
	checkMatcher(t, "the first step", m, impl.Matcher{Status: impl.MtRun, Subject: "ab", PC: 1, Steps: 1, Choices: []impl.MatchChoice{more(0, 0, 0, 0, 0)}})
	m = stepped(t, c, m)
	checkMatcher(t, "the second step", m, impl.Matcher{Status: impl.MtFound, Subject: "ab", PC: 1, Steps: 2, Choices: []impl.MatchChoice{more(0, 0, 0, 0, 0)}})
	m = stepped(t, c, m)
	checkMatcher(t, "the third step", m, impl.Matcher{Status: impl.MtRun, Subject: "ab", Steps: 2, Resume: true})

	m = newMatcher(t, c, "ab", true)
	for end := range int64(3) {
		r := nextMatch(c, m, 100)
		checkEqual(t, "found", r.found, true)
		checkEqual(t, "code", r.code, impl.OK)
		checkEqual(t, "match", impl.SameMatch(r.match, matched(0, end)), true)
		m = r.m
	}
	checkNext(t, "the fourth call", nextMatch(c, m, 100), nextResult{m: impl.Matcher{Status: impl.MtDone, Subject: "ab", Anchored: true, Steps: 4}})

	first, found, steps, code := impl.FirstMatch(nil, readPattern(t, `cat(now(len(1),x),"b")`), "ac", false, 100)
	checkEqual(t, "FirstMatch", impl.SameMatch(first, matched(0, 0, now("x", "a", 1), now("x", "c", 2))), true)
	checkEqual(t, "FirstMatch: found", found, false)
	checkEqual(t, "FirstMatch: steps", steps, 11)
	checkEqual(t, "FirstMatch: code", code, impl.OK)
	_, _, _, code = impl.FirstMatch(nil, readPattern(t, "defer(x)"), "", false, 100)
	checkEqual(t, "FirstMatch: undefined", code, impl.ErrUndefined)
}

func TestNewMatcher(t *testing.T) {
	c := readCode(t, "step; mark; rem; cond x; end; y: return")
	for _, subject := range []string{"", "a", "\x00\xff", strings.Repeat("a", 199), strings.Repeat("a", 200)} {
		for _, anchored := range []bool{true, false} {
			m, code := impl.NewMatcher(c, subject, anchored)
			checkEqual(t, "code", code, impl.OK)
			checkMatcher(t, "new", m, impl.Matcher{Status: impl.MtRun, Subject: subject, Anchored: anchored})
			checkEqual(t, "valid", impl.ValidMatcher(c, m), true)
		}
	}
	fails := func(what string, c impl.PatternCode, subject string) {
		t.Helper()
		m, code := impl.NewMatcher(c, subject, true)
		checkEqual(t, what, code, impl.ErrInvalid)
		checkMatcher(t, what, m, impl.Matcher{})
	}
	fails("a long subject", c, strings.Repeat("a", 201))
	fails("a very long subject", c, strings.Repeat("a", 1000000))
	for _, s := range []string{"", "rem", "mark; end", "rem; return", "end; x: end", "jump 0; end"} {
		fails(s, readCode(t, s), "ab")
		fails(s, readCode(t, s), strings.Repeat("a", 201))
	}
}

// stepRow is a single step: the matcher before it, and what it changes.
type stepRow struct {
	what, code string
	before     impl.Matcher
	change     func(m *impl.Matcher)
}

func checkStepRows(t *testing.T, rows []stepRow) {
	t.Helper()
	for _, row := range rows {
		c := readCode(t, row.code)
		want := changed(row.before, row.change)
		got, code := impl.StepMatcher(c, row.before)
		checkEqual(t, row.what+": code", code, impl.OK)
		checkMatcher(t, row.what, got, want)
		checkState(t, row.what, c, row.before, 100)
		checkState(t, row.what+", afterwards", c, want, 100)
	}
}

// endsWith is a change: the matcher ends with a status.
func endsWith(status, fault, steps int64, captures ...impl.Capture) func(m *impl.Matcher) {
	return func(m *impl.Matcher) {
		*m = modelEnd(*m, status, fault)
		m.Steps += steps
		m.Now = append(m.Now, captures...)
	}
}

// restarts is a change: the matcher fails, and begins at the next start cursor.
func restarts(steps int64) func(m *impl.Matcher) {
	return func(m *impl.Matcher) {
		*m = modelEnd(*m, impl.MtRun, impl.OK)
		m.Steps += steps
		m.Start++
		m.Cursor = m.Start
	}
}

// moves is a change: a step to an address and a cursor.
func moves(steps, pc, at int64, choices ...impl.MatchChoice) func(m *impl.Matcher) {
	return func(m *impl.Matcher) {
		m.Steps += steps
		m.PC, m.Cursor, m.Resume, m.Last = pc, at, false, 0
		m.Choices = append(m.Choices, choices...)
	}
}

func TestControlSteps(t *testing.T) {
	loop := "step; choice 3; jump 5; mark; loop 0; end"
	atLoop := changed(state("abc", 4, 1), func(m *impl.Matcher) {
		m.Frames, m.Top = []impl.MatchFrame{marked(0, 0), marked(0, 1)}, 1
	})
	call := "defer(x); end; x: step; mark; cond y; return"
	inCall := changed(state("abc", 5, 2), func(m *impl.Matcher) {
		m.Frames, m.Top = []impl.MatchFrame{returning(0, 1), marked(1, 0)}, 1
	})
	checkStepRows(t, []stepRow{
		{"step", "step; rem; end", state("ab", 0, 1), moves(1, 1, 1)},
		{"choice", "choice 2; rem; end", state("ab", 0, 1), moves(0, 1, 1, going(2, 1, 0, 0))},
		{"choice with a stack and captures", "mark; choice 3; rem; cond x; end", changed(state("ab", 1, 1), func(m *impl.Matcher) {
			m.Frames, m.Top = []impl.MatchFrame{marked(0, 0)}, 1
			m.Conds = []impl.Capture{cond("y", "a", 1), cond("y", "a", 1)}
			m.Choices = []impl.MatchChoice{fence(1)}
		}), moves(0, 2, 1, going(3, 1, 1, 2))},
		{"jump", "jump 2; rem; end", state("ab", 0, 1), moves(0, 2, 1)},
		{"mark", "mark; cond x; end", state("ab", 0, 1), func(m *impl.Matcher) {
			m.PC, m.Top = 1, 1
			m.Frames = []impl.MatchFrame{marked(0, 1)}
		}},
		{"mark above others", "mark; mark; cond x; now y; end", changed(state("ab", 1, 2), func(m *impl.Matcher) {
			m.Frames, m.Top = []impl.MatchFrame{marked(0, 0), marked(0, 1), marked(2, 2)}, 2
		}), func(m *impl.Matcher) {
			m.PC, m.Top = 2, 4
			m.Frames = append(m.Frames, marked(2, 2))
		}},
		{"loop", loop, atLoop, func(m *impl.Matcher) { m.PC, m.Top = 0, 0 }},
		{"loop without progress", loop, changed(atLoop, func(m *impl.Matcher) { m.Top = 2 }), restarts(0)},
		{"loop without progress, with a choice", loop, changed(atLoop, func(m *impl.Matcher) {
			m.Top = 2
			m.Choices = []impl.MatchChoice{going(5, 0, 0, 0), going(4, 2, 1, 0)}
		}), func(m *impl.Matcher) { m.PC, m.Cursor, m.Top, m.Choices = 4, 2, 1, m.Choices[:1] }},
		{"loop in a loop", "step; mark; step; mark; loop 2; loop 0; end", changed(state("abc", 4, 2), func(m *impl.Matcher) {
			m.Frames, m.Top = []impl.MatchFrame{marked(0, 2), marked(1, 1)}, 2
		}), func(m *impl.Matcher) { m.PC, m.Top = 2, 1 }},
		{"return", call, inCall, func(m *impl.Matcher) { m.PC, m.Top = 1, 0 }},
		{"return to another call", "defer(x); end; x: defer(x); return", changed(state("abc", 3, 2), func(m *impl.Matcher) {
			m.Frames, m.Top = []impl.MatchFrame{returning(0, 1), returning(0, 1), returning(2, 3)}, 3
		}), func(m *impl.Matcher) { m.PC, m.Top = 3, 2 }},
		{"end", "rem; end", state("ab", 1, 2), func(m *impl.Matcher) { m.Status, m.Steps = impl.MtFound, 1 }},
		{"end with choices", "rem; end", changed(state("ab", 1, 2), func(m *impl.Matcher) { m.Choices = []impl.MatchChoice{going(0, 0, 0, 0), fence(0)} }), func(m *impl.Matcher) { m.Status, m.Steps = impl.MtFound, 1 }},
	})
}

func TestCaptureSteps(t *testing.T) {
	capture := func(word string) string { return "mark; mark; rem; " + word + " x; cond y; end" }
	before := changed(state("abcd", 3, 3), func(m *impl.Matcher) {
		m.Start, m.Top = 1, 2
		m.Frames = []impl.MatchFrame{marked(0, 1), marked(1, 2)}
		m.Now, m.Conds = []impl.Capture{now("u", "a", 1)}, []impl.Capture{cond("v", "b", 2)}
	})
	popped := func(m *impl.Matcher) { m.PC, m.Top = 4, 1 }
	with := func(num int64) impl.Matcher {
		return changed(before, func(m *impl.Matcher) { m.Frames[1].Num = num })
	}
	condHas := func(s string) func(m *impl.Matcher) {
		return func(m *impl.Matcher) { popped(m); m.Conds = append(m.Conds, cond("x", s, 3)) }
	}
	nowHas := func(s string) func(m *impl.Matcher) {
		return func(m *impl.Matcher) { popped(m); m.Now = append(m.Now, now("x", s, 3)) }
	}
	many := func(nows, conds int) func(m *impl.Matcher) {
		return func(m *impl.Matcher) {
			m.Now, m.Conds = slices.Repeat([]impl.Capture{now("u", "a", 0)}, nows), slices.Repeat([]impl.Capture{cond("v", "", 4)}, conds)
		}
	}
	checkStepRows(t, []stepRow{
		{"cond", capture("cond"), before, condHas("c")},
		{"now", capture("now"), before, nowHas("c")},
		{"cond of nothing", capture("cond"), with(3), condHas("")},
		{"now of nothing", capture("now"), with(3), nowHas("")},
		{"cond from Start", capture("cond"), with(1), condHas("bc")},
		{"now from Start", capture("now"), with(1), nowHas("bc")},
		{"cond with a mark behind the cursor", capture("cond"), with(4), condHas("")},
		{"now with a mark behind the cursor", capture("now"), with(4), nowHas("")},
		{"cond up to the limit", capture("cond"), changed(before, many(90, 9)), func(m *impl.Matcher) { condHas("c")(m) }},
		{"now up to the limit", capture("now"), changed(before, many(0, 99)), func(m *impl.Matcher) { nowHas("c")(m) }},
		{"cond beyond the limit", capture("cond"), changed(before, many(90, 10)), endsWith(impl.MtFault, impl.ErrFull, 0)},
		{"now beyond the limit", capture("now"), changed(before, many(90, 10)), endsWith(impl.MtFault, impl.ErrFull, 0, now("x", "c", 3))},
		{"now beyond the limit of immediate captures", capture("now"), changed(before, many(100, 0)), endsWith(impl.MtFault, impl.ErrFull, 0, now("x", "c", 3))},
		{"cond beyond the limit of conditional captures", capture("cond"), changed(before, many(0, 100)), endsWith(impl.MtFault, impl.ErrFull, 0)},
		{"cond beyond the limit of immediate captures", capture("cond"), changed(before, many(100, 0)), endsWith(impl.MtFault, impl.ErrFull, 0)},
		{"cursor", "cursor(x); end", changed(state("ab", 0, 1), nil), func(m *impl.Matcher) { m.PC, m.Steps, m.Now = 1, 1, []impl.Capture{cursor("x", 1)} }},
		{"cursor up to the limit", "cursor(x); end", changed(state("ab", 0, 2), func(m *impl.Matcher) { many(99, 0)(m); m.Now[3] = cursor("y", 2) }), func(m *impl.Matcher) { m.PC, m.Steps, m.Now = 1, 1, append(m.Now, cursor("x", 2)) }},
		{"cursor beyond the limit", "cursor(x); end", changed(state("abcd", 0, 2), many(50, 50)), endsWith(impl.MtFault, impl.ErrFull, 1, cursor("x", 2))},
	})
}

// TestKindSteps has a step for each kind of pattern without kids, at several cursors.
func TestKindSteps(t *testing.T) {
	code := func(s string) string { return "rem; " + s + "; end" }
	at := func(subject string, cursor int64) impl.Matcher { return state(subject, 1, cursor) }
	checkStepRows(t, []stepRow{
		{"a string", code(`"ab"`), at("xabx", 1), moves(1, 2, 3)},
		{"a string that is not there", code(`"ab"`), at("xabx", 0), restarts(1)},
		{"a string at the end", code(`"ab"`), at("xab", 1), moves(1, 2, 3)},
		{"a string behind the end", code(`"ab"`), at("xab", 2), restarts(1)},
		{"the empty string at the end", code(`""`), at("ab", 2), moves(1, 2, 2)},
		{"the empty string in an empty subject", code(`""`), at("", 0), moves(1, 2, 0)},
		{"a string in an empty subject", code(`"a"`), at("", 0), endsWith(impl.MtDone, impl.OK, 1)},
		{"any", code(`any("ab")`), at("xb", 1), moves(1, 2, 2)},
		{"any other", code(`any("ab")`), at("xb", 0), restarts(1)},
		{"any at the end", code(`any("ab")`), at("xb", 2), restarts(1)},
		{"notany", code(`notany("ab")`), at("xb", 0), moves(1, 2, 1)},
		{"notany of these", code(`notany("ab")`), at("xb", 1), restarts(1)},
		{"notany at the end", code(`notany("ab")`), at("xb", 2), restarts(1)},
		{"span", code(`span("ab")`), at("xabba.", 1), moves(1, 2, 5)},
		{"span to the end", code(`span("ab")`), at("xabba", 2), moves(1, 2, 5)},
		{"span of nothing", code(`span("ab")`), at("xab", 0), restarts(1)},
		{"span at the end", code(`span("ab")`), at("ab", 2), restarts(1)},
		{"break", code(`break("ab")`), at("xyb", 0), moves(1, 2, 2)},
		{"break of nothing", code(`break("ab")`), at("xyb", 2), moves(1, 2, 2)},
		{"break without such a byte", code(`break("ab")`), at("xyz", 1), restarts(1)},
		{"len", code("len(2)"), at("abc", 1), moves(1, 2, 3)},
		{"len(0) at the end", code("len(0)"), at("abc", 3), moves(1, 2, 3)},
		{"len beyond the end", code("len(2)"), at("abc", 2), restarts(1)},
		{"len(200)", code("len(200)"), at("abc", 3), restarts(1)},
		{"pos", code("pos(1)"), at("abc", 1), moves(1, 2, 1)},
		{"pos elsewhere", code("pos(1)"), at("abc", 2), restarts(1)},
		{"rpos", code("rpos(1)"), at("abc", 2), moves(1, 2, 2)},
		{"rpos elsewhere", code("rpos(1)"), at("abc", 3), restarts(1)},
		{"tab", code("tab(3)"), at("abc", 1), moves(1, 2, 3)},
		{"tab to here", code("tab(1)"), at("abc", 1), moves(1, 2, 1)},
		{"tab back", code("tab(0)"), at("abc", 1), restarts(1)},
		{"tab beyond the end", code("tab(4)"), at("abc", 1), restarts(1)},
		{"rtab", code("rtab(0)"), at("abc", 1), moves(1, 2, 3)},
		{"rtab to here", code("rtab(2)"), at("abc", 1), moves(1, 2, 1)},
		{"rtab back", code("rtab(3)"), at("abc", 1), restarts(1)},
		{"rtab before the beginning", code("rtab(4)"), at("abc", 0), restarts(1)},
		{"rem", code("rem"), at("abc", 1), moves(1, 2, 3)},
		{"rem at the end", code("rem"), at("abc", 3), moves(1, 2, 3)},
		{"fail", code("fail"), at("abc", 1), restarts(1)},
		{"abort", code("abort"), at("abc", 1), endsWith(impl.MtDone, impl.OK, 1)},
		{"abort with choices", code("abort"), changed(at("abc", 1), func(m *impl.Matcher) {
			m.Choices, m.Now, m.Conds = []impl.MatchChoice{going(0, 1, 0, 1)}, []impl.Capture{cursor("x", 1)}, []impl.Capture{cond("x", "a", 1)}
		}), endsWith(impl.MtDone, impl.OK, 1)},
		{"fence", code("fence"), at("abc", 1), moves(1, 2, 1, fence(0))},
		{"fence with captures", code("fence"), changed(at("abc", 1), func(m *impl.Matcher) { m.Conds = []impl.Capture{cond("x", "a", 1), cond("x", "", 1)} }), moves(1, 2, 1, fence(2))},
		{"fence with a stack", "mark; fence; cond x; end", changed(at("abc", 1), func(m *impl.Matcher) { m.Frames, m.Top = []impl.MatchFrame{marked(0, 0)}, 1 }), moves(1, 2, 1, fence(0))},
		{"succeed", code("succeed"), at("abc", 1), moves(1, 2, 1, more(1, 1, 0, 0, 0))},
		{"succeed at the end", code("succeed"), at("", 0), moves(1, 2, 0, more(1, 0, 0, 0, 0))},
		{"arb", code("arb"), at("abc", 1), moves(1, 2, 1, more(1, 1, 0, 0, 1))},
		{"arb before the last byte", code("arb"), at("abc", 2), moves(1, 2, 2, more(1, 2, 0, 0, 2))},
		{"arb at the end", code("arb"), at("abc", 3), moves(1, 2, 3)},
		{"arb in an empty subject", code("arb"), at("", 0), moves(1, 2, 0)},
		{"bal", code("bal"), at("ab", 0), moves(1, 2, 1, more(1, 0, 0, 0, 1))},
		{"bal with parentheses", code("bal"), at("(a)b", 0), moves(1, 2, 3, more(1, 0, 0, 0, 3))},
		{"bal up to the end", code("bal"), at("x(a)", 1), moves(1, 2, 4)},
		{"bal without an end", code("bal"), at("x(a", 1), restarts(1)},
		{"bal at a closing parenthesis", code("bal"), at("x)a", 1), restarts(1)},
		{"bal at the end", code("bal"), at("ab", 2), restarts(1)},
		{"defer", "rem; defer(x); end; y: return; x: return", at("abc", 1), func(m *impl.Matcher) {
			m.PC, m.Steps, m.Top, m.Frames = 4, 1, 1, []impl.MatchFrame{returning(0, 2)}
		}},
		{"defer with a stack", "mark; defer(x); cond y; end; x: return", changed(at("abc", 1), func(m *impl.Matcher) { m.Frames, m.Top = []impl.MatchFrame{marked(0, 0), marked(0, 1)}, 1 }), func(m *impl.Matcher) {
			m.PC, m.Steps, m.Top, m.Frames = 4, 1, 3, append(m.Frames, returning(1, 2))
		}},
		{"defer to nothing", code("defer(x)"), at("abc", 1), endsWith(impl.MtFault, impl.ErrUndefined, 1)},
		{"defer to nothing, with captures and choices", "rem; defer(x); end; X: return", changed(at("abc", 1), func(m *impl.Matcher) {
			m.Choices, m.Now, m.Conds = []impl.MatchChoice{fence(0)}, []impl.Capture{now("x", "a", 1)}, []impl.Capture{cond("x", "a", 1)}
		}), endsWith(impl.MtFault, impl.ErrUndefined, 1)},
	})
}

// TestResumedSteps has the instructions that can be resumed, with each Last at the bounds.
func TestResumedSteps(t *testing.T) {
	resumed := func(subject string, cursor, last int64) impl.Matcher {
		return changed(state(subject, 1, cursor), func(m *impl.Matcher) { m.Resume, m.Last, m.Steps = true, last, 7 })
	}
	code := func(s string) string { return "rem; " + s + "; end" }
	checkStepRows(t, []stepRow{
		{"arb", code("arb"), resumed("abc", 0, 0), moves(0, 2, 1, more(1, 0, 0, 0, 1))},
		{"arb, later", code("arb"), resumed("abc", 0, 1), moves(0, 2, 2, more(1, 0, 0, 0, 2))},
		{"arb for the last time", code("arb"), resumed("abc", 0, 2), moves(0, 2, 3)},
		{"arb from another cursor", code("arb"), resumed("abc", 2, 2), moves(0, 2, 3)},
		{"bal", code("bal"), resumed("abc", 0, 1), moves(0, 2, 2, more(1, 0, 0, 0, 2))},
		{"bal for the last time", code("bal"), resumed("abc", 0, 2), moves(0, 2, 3)},
		{"bal with parentheses", code("bal"), resumed("a(b)c", 0, 1), moves(0, 2, 4, more(1, 0, 0, 0, 4))},
		{"bal within parentheses", code("bal"), resumed("a(b)c", 0, 2), moves(0, 2, 4, more(1, 0, 0, 0, 4))},
		{"bal with a last end behind parentheses", code("bal"), resumed("a(b)", 0, 1), moves(0, 2, 4)},
		{"bal without a further end", code("bal"), resumed("a(b", 0, 1), restarts(0)},
		{"bal before a closing parenthesis", code("bal"), resumed("a)b", 0, 1), restarts(0)},
		{"bal behind a closing parenthesis", code("bal"), resumed("a)bc", 0, 3), restarts(0)},
		{"succeed", code("succeed"), resumed("abc", 2, 0), moves(1, 2, 2, more(1, 2, 0, 0, 0))},
		{"arb with a stack and captures", "mark; arb; cond x; end", changed(resumed("abc", 1, 1), func(m *impl.Matcher) {
			m.Frames, m.Top, m.Conds, m.Choices = []impl.MatchFrame{marked(0, 0), marked(0, 1)}, 2, []impl.Capture{cond("y", "", 1)}, []impl.MatchChoice{fence(1)}
		}), moves(0, 2, 2, more(1, 1, 2, 1, 2))},
	})
}

// TestFailing has the ways to fail, of a match that was found and of an instruction.
func TestFailing(t *testing.T) {
	code := "arb; bal; succeed; fail; end"
	for _, from := range []struct {
		what   string
		status int64
		pc     int64
		steps  int64
	}{{"a match", impl.MtFound, 4, 0}, {"an instruction", impl.MtRun, 3, 1}} {
		before := func(change func(m *impl.Matcher)) impl.Matcher {
			return changed(impl.Matcher{Status: from.status, Subject: "abcd", Start: 1, PC: from.pc, Cursor: 2, Steps: 5}, func(m *impl.Matcher) {
				m.Now = []impl.Capture{now("x", "a", 1), cursor("x", 0)}
				m.Conds = []impl.Capture{cond("x", "b", 2), cond("y", "", 2), cond("z", "", 2)}
				change(m)
			})
		}
		returns := func(count int, change func(m *impl.Matcher)) func(m *impl.Matcher) {
			return func(m *impl.Matcher) {
				m.Status, m.Choices = impl.MtRun, m.Choices[:count]
				m.Steps += from.steps
				change(m)
			}
		}
		with := func(choices ...impl.MatchChoice) impl.Matcher {
			return before(func(m *impl.Matcher) { m.Choices = choices })
		}
		checkStepRows(t, []stepRow{
			{from.what + " without choices", code, with(), restarts(from.steps)},
			{from.what + " at the last start", code, before(func(m *impl.Matcher) { m.Start, m.Cursor, m.Conds = 4, 4, nil }), endsWith(impl.MtDone, impl.OK, from.steps)},
			{from.what + " before the last start", code, before(func(m *impl.Matcher) { m.Start, m.Cursor, m.Conds = 3, 4, nil }), restarts(from.steps)},
			{from.what + ", anchored", code, before(func(m *impl.Matcher) { m.Start, m.Anchored = 0, true }), endsWith(impl.MtDone, impl.OK, from.steps)},
			{from.what + ", anchored, with a choice", code, before(func(m *impl.Matcher) {
				m.Start, m.Anchored, m.Choices = 0, true, []impl.MatchChoice{going(1, 0, 0, 0)}
			}), returns(0, func(m *impl.Matcher) { m.PC, m.Cursor, m.Conds = 1, 0, nil })},
			{from.what + " to a choice", code, with(going(2, 3, 0, 3)), returns(0, func(m *impl.Matcher) { m.PC, m.Cursor = 2, 3 })},
			{from.what + " to the last choice", code, with(going(2, 3, 0, 0), going(1, 1, 0, 1)), returns(1, func(m *impl.Matcher) { m.PC, m.Cursor, m.Conds = 1, 1, m.Conds[:1] })},
			{from.what + " to a choice without captures", code, with(fence(0), going(0, 4, 0, 0)), returns(1, func(m *impl.Matcher) { m.PC, m.Cursor, m.Conds = 0, 4, nil })},
			{from.what + " to an arb", code, with(more(0, 1, 0, 2, 3)), returns(0, func(m *impl.Matcher) { m.PC, m.Cursor, m.Resume, m.Last, m.Conds = 0, 1, true, 3, m.Conds[:2] })},
			{from.what + " to a bal", code, with(more(1, 2, 0, 0, 3)), returns(0, func(m *impl.Matcher) { m.PC, m.Cursor, m.Resume, m.Last, m.Conds = 1, 2, true, 3, nil })},
			{from.what + " to a succeed", code, with(more(2, 4, 0, 1, 0)), returns(0, func(m *impl.Matcher) { m.PC, m.Cursor, m.Resume, m.Conds = 2, 4, true, m.Conds[:1] })},
			{from.what + " to a fence", code, with(going(2, 3, 0, 0), fence(1)), endsWith(impl.MtDone, impl.OK, from.steps)},
			{from.what + " to a fence alone", code, with(fence(3)), endsWith(impl.MtDone, impl.OK, from.steps)},
			{from.what + " to a choice above a fence", code, with(fence(0), going(2, 3, 0, 0)), returns(1, func(m *impl.Matcher) { m.PC, m.Cursor, m.Conds = 2, 3, nil })},
		})
	}
	frames := "mark; arb; cond x; end"
	checkStepRows(t, []stepRow{
		{"the frames remain", frames, changed(impl.Matcher{Status: impl.MtFound, Subject: "ab", PC: 3}, func(m *impl.Matcher) {
			m.Frames = []impl.MatchFrame{marked(0, 0), marked(0, 1), marked(1, 2)}
			m.Choices = []impl.MatchChoice{more(1, 0, 2, 0, 1)}
		}), func(m *impl.Matcher) {
			m.Status, m.PC, m.Top, m.Resume, m.Last, m.Choices = impl.MtRun, 1, 2, true, 1, nil
		}},
		{"the frames are removed at the next start", frames, changed(impl.Matcher{Status: impl.MtFound, Subject: "ab", PC: 3}, func(m *impl.Matcher) { m.Frames = []impl.MatchFrame{marked(0, 0), marked(0, 1)} }), restarts(0)},
		{"in an empty subject", frames, impl.Matcher{Status: impl.MtFound, PC: 3}, endsWith(impl.MtDone, impl.OK, 0)},
	})
}

// stateRow is a change of a valid matcher, and whether the result is valid.
type stateRow struct {
	what   string
	change func(m *impl.Matcher)
	valid  bool
}

func checkStateRows(t *testing.T, what string, c impl.PatternCode, base impl.Matcher, rows []stateRow) {
	t.Helper()
	checkEqual(t, what+": the matcher that is changed", impl.ValidMatcher(c, base), true)
	for _, row := range rows {
		m := changed(base, row.change)
		checkEqual(t, what+": "+row.what, impl.ValidMatcher(c, m), row.valid)
		checkState(t, what+": "+row.what, c, m, 100)
	}
}

// around returns rows for a field from low to high: the values at the bounds are valid, those beyond are not.
func around(what string, low, high int64, field func(m *impl.Matcher) *int64) []stateRow {
	var rows []stateRow
	for _, n := range []int64{math.MinInt64, -1 << 32, low - 1, low, low + 1, high - 1, high, high + 1, 1 << 32, 1<<32 + low, math.MaxInt64} {
		rows = append(rows, stateRow{fmt.Sprint(what, " ", n), func(m *impl.Matcher) { *field(m) = n }, n >= low && n <= high})
	}
	return rows
}

// calling returns code with a reference, and a matcher within what is referred to.
//
//	0 step, 1 mark, 2 defer(x), 3 cond y, 4 arb, 5 end, 6 step, 7 mark, 8 bal, 9 succeed, 10 now z, 11 return, 12 return
func calling(t *testing.T) (impl.PatternCode, impl.Matcher) {
	t.Helper()
	c := readCode(t, "step; mark; defer(x); cond y; arb; end; x: step; mark; bal; succeed; now z; return; u: return")
	m := impl.Matcher{Status: impl.MtRun, Subject: "abcdef", Start: 2, PC: 10, Cursor: 4, Top: 3, Steps: 9}
	m.Frames = []impl.MatchFrame{marked(0, 2), returning(1, 3), marked(2, 3), marked(0, 5)}
	m.Choices = []impl.MatchChoice{going(0, 2, 0, 0), fence(1), more(8, 3, 3, 1, 5), more(9, 4, 3, 2, 0)}
	m.Now = []impl.Capture{now("n", "ab", 1), cursor("k", 6)}
	m.Conds = []impl.Capture{cond("c", "", 2), cond("d", "cd", 4)}
	return c, m
}

func TestValidityOfNumbers(t *testing.T) {
	c, m := calling(t)
	rows := around("Steps", 0, 1000000, func(m *impl.Matcher) *int64 { return &m.Steps })
	rows = append(rows, around("Status", impl.MtRun, impl.MtRun, func(m *impl.Matcher) *int64 { return &m.Status })...)
	rows = append(rows, around("Fault", impl.OK, impl.OK, func(m *impl.Matcher) *int64 { return &m.Fault })...)
	rows = append(rows, around("Cursor", 2, 6, func(m *impl.Matcher) *int64 { return &m.Cursor })...)
	rows = append(rows, around("Top", 3, 3, func(m *impl.Matcher) *int64 { return &m.Top })...)
	rows = append(rows, around("Last", 0, 0, func(m *impl.Matcher) *int64 { return &m.Last })...)
	rows = append(rows, around("Start", 0, 2, func(m *impl.Matcher) *int64 { return &m.Start })...)
	// The addresses from 8 to 10 are those in x with a mark.
	rows = append(rows, around("PC", 8, 10, func(m *impl.Matcher) *int64 { return &m.PC })...)
	rows = append(rows, []stateRow{
		{"unchanged", func(m *impl.Matcher) {}, true},
		{"anchored", func(m *impl.Matcher) { m.Anchored = true }, false},
		{"anchored at 0", func(m *impl.Matcher) { m.Anchored, m.Start = true, 0 }, true},
		{"a subject that is too long", func(m *impl.Matcher) { m.Subject = strings.Repeat("a", 201) }, false},
		{"the longest subject", func(m *impl.Matcher) { m.Subject = strings.Repeat("a", 200) }, true},
		{"a shorter subject", func(m *impl.Matcher) { m.Subject = m.Subject[:5] }, false},
		{"no subject", func(m *impl.Matcher) { m.Subject = "" }, false},
		{"zero", func(m *impl.Matcher) { *m = impl.Matcher{} }, false},
		{"resumed", func(m *impl.Matcher) { m.Resume = true }, false},
		{"found in between", func(m *impl.Matcher) { m.Status = impl.MtFound }, false},
		{"without frames", func(m *impl.Matcher) { m.Frames = nil }, false},
		{"without frames at the beginning", func(m *impl.Matcher) { m.Frames, m.Choices, m.PC, m.Top = nil, nil, 0, 0 }, true},
		{"without frames at the beginning of x", func(m *impl.Matcher) { m.Frames, m.Choices, m.PC, m.Top = nil, nil, 6, 0 }, false},
		{"without frames within a cond", func(m *impl.Matcher) { m.Frames, m.Choices, m.PC, m.Top = nil, nil, 3, 0 }, false},
	}...)
	checkStateRows(t, "calling", c, m, rows)

	found := changed(m, func(m *impl.Matcher) { m.Status, m.PC, m.Top = impl.MtFound, 5, 0 })
	rows = around("PC", 5, 5, func(m *impl.Matcher) *int64 { return &m.PC })
	rows = append(rows, around("Cursor", 2, 6, func(m *impl.Matcher) *int64 { return &m.Cursor })...)
	rows = append(rows, around("Top", 0, 0, func(m *impl.Matcher) *int64 { return &m.Top })...)
	rows = append(rows, around("Status", impl.MtRun, impl.MtFound, func(m *impl.Matcher) *int64 { return &m.Status })...)
	rows = append(rows, around("Fault", impl.OK, impl.OK, func(m *impl.Matcher) *int64 { return &m.Fault })...)
	rows = append(rows, around("Last", 0, 0, func(m *impl.Matcher) *int64 { return &m.Last })...)
	rows = append(rows, stateRow{"resumed", func(m *impl.Matcher) { m.Resume = true }, false})
	checkStateRows(t, "found", c, found, rows)
}

// TestValidityOfResumed has each instruction that can be resumed, and others.
func TestValidityOfResumed(t *testing.T) {
	c := readCode(t, "arb; bal; succeed; fence; rem; jump 6; end")
	at := func(pc, last int64) func(m *impl.Matcher) {
		return func(m *impl.Matcher) { m.PC, m.Resume, m.Last = pc, true, last }
	}
	chosen := func(pc, last int64) func(m *impl.Matcher) {
		return func(m *impl.Matcher) { m.Choices = []impl.MatchChoice{more(pc, 3, 0, 0, last)} }
	}
	for what, resume := range map[string]func(pc, last int64) func(m *impl.Matcher){"resumed": at, "chosen": chosen} {
		var rows []stateRow
		for pc := range int64(7) {
			for _, last := range []int64{math.MinInt64, -1, 0, 1, 2, 3, 4, 5, 6, 7, math.MaxInt64} {
				valid := pc == 0 && last >= 3 && last <= 5 || pc == 1 && last >= 4 && last <= 5 || pc == 2 && last == 0
				rows = append(rows, stateRow{fmt.Sprint(pc, " after ", last), resume(pc, last), valid})
			}
		}
		checkStateRows(t, what, c, changed(state("abcdef", 4, 3), func(m *impl.Matcher) { m.Start = 1 }), rows)
		atEnd := changed(state("abc", 4, 3), nil)
		var ends []stateRow
		for pc := range int64(3) {
			for last := range int64(5) {
				ends = append(ends, stateRow{fmt.Sprint(pc, " at the end after ", last), resume(pc, last), pc == 2 && last == 0})
			}
		}
		checkStateRows(t, what, c, atEnd, ends)
	}
	checkStateRows(t, "not resumed", c, state("abcdef", 0, 3), []stateRow{
		{"with a Last", func(m *impl.Matcher) { m.Last = 3 }, false},
		{"resumed when it was found", func(m *impl.Matcher) { m.Status, m.PC, m.Resume = impl.MtFound, 6, true }, false},
		{"resumed, found within", func(m *impl.Matcher) { m.Status, m.PC, m.Resume, m.Last = impl.MtFound, 0, true, 3 }, false},
	})
	checkStateRows(t, "in an empty subject", c, state("", 0, 0), []stateRow{
		{"arb", func(m *impl.Matcher) { m.Resume = true }, false},
		{"succeed", func(m *impl.Matcher) { m.PC, m.Resume = 2, true }, true},
	})
}

func TestValidityOfFrames(t *testing.T) {
	c, m := calling(t)
	field := func(i int) func(m *impl.Matcher) *int64 {
		return func(m *impl.Matcher) *int64 { return &m.Frames[i].Num }
	}
	rows := around("the first mark", 2, 6, field(0))
	rows = append(rows, around("the last mark", 2, 6, field(2))...)
	rows = append(rows, around("a mark on no stack", 2, 6, field(3))...)
	// The addresses 2 and 3 are those of the main region with a mark.
	rows = append(rows, around("the return address", 2, 3, field(1))...)
	for i, high := range []int64{0, 1, 2, 3} {
		below := func(m *impl.Matcher) *int64 { return &m.Frames[i].Below }
		for _, n := range []int64{math.MinInt64, -1, high + 1, high + 2, 4, 5, 1 << 32, math.MaxInt64} {
			rows = append(rows, stateRow{fmt.Sprint("frame ", i+1, " above ", n), func(m *impl.Matcher) { *below(m) = n }, n == 4 && i == 4})
		}
	}
	push := func(f impl.MatchFrame) func(m *impl.Matcher) {
		return func(m *impl.Matcher) { m.Frames = append(m.Frames, f) }
	}
	rows = append(rows, []stateRow{
		{"the return address above nothing", func(m *impl.Matcher) { m.Frames[1].Below = 0 }, false},
		{"the return address above nothing, to the beginning", func(m *impl.Matcher) { m.Frames[1] = returning(0, 0) }, true},
		{"the return address above nothing, to the end", func(m *impl.Matcher) { m.Frames[1] = returning(0, 5) }, true},
		{"the return address behind the last address", func(m *impl.Matcher) { m.Frames[1] = returning(0, 13) }, false},
		{"the return address as a mark", func(m *impl.Matcher) { m.Frames[1].Return = false }, false},
		{"the last mark as a return address", func(m *impl.Matcher) { m.Frames[2].Return = true }, false},
		{"the last mark above the first one", func(m *impl.Matcher) { m.Frames[2].Below = 1 }, false},
		{"the last mark above nothing", func(m *impl.Matcher) { m.Frames[2].Below = 0 }, false},
		{"a frame on no stack above others", func(m *impl.Matcher) { m.Frames[3].Below = 3 }, true},
		{"a frame on no stack above the return address", func(m *impl.Matcher) { m.Frames[3].Below = 2 }, true},
		{"a return address on no stack to the beginning", push(returning(0, 0)), true},
		{"a return address on no stack within a cond", push(returning(0, 3)), false},
		{"a return address on no stack above a mark", push(returning(1, 3)), true},
		{"a return address on no stack above a mark, to the end", push(returning(1, 5)), false},
		{"a return address on no stack to x", push(returning(0, 6)), false},
		{"a return address above another one, to x", push(returning(2, 6)), true},
		{"a return address above another one, to the return", push(returning(2, 11)), true},
		{"a return address above another one, to another region", push(returning(2, 12)), true},
		{"a return address above another one, to the main region", push(returning(2, 5)), false},
		{"a return address above another one, within a now", push(returning(2, 9)), false},
		{"a return address above a mark above another one", push(returning(3, 9)), true},
		{"a return address above a mark above another one, to the beginning of x", push(returning(3, 6)), false},
		{"a return address above two marks", func(m *impl.Matcher) { m.Frames = append(m.Frames, marked(3, 4), returning(5, 9)) }, false},
		{"a return address before the first address", push(returning(0, -1)), false},
		{"a return address far behind", push(returning(0, math.MaxInt64)), false},
		{"the current stack in another region", func(m *impl.Matcher) { m.PC, m.Top = 12, 2 }, true},
		{"the current stack in the main region", func(m *impl.Matcher) { m.PC = 3 }, false},
		{"the current stack in the main region, without the call", func(m *impl.Matcher) { m.PC, m.Top = 3, 1 }, true},
		{"the current stack at an address without marks", func(m *impl.Matcher) { m.PC = 11 }, false},
		{"the current stack without a mark", func(m *impl.Matcher) { m.Top = 2 }, false},
		{"the current stack without a mark, at the return", func(m *impl.Matcher) { m.PC, m.Top = 11, 2 }, true},
		{"the current stack with a mark on no other stack", func(m *impl.Matcher) { m.PC, m.Top = 2, 4 }, true},
	}...)
	checkStateRows(t, "frames", c, m, rows)

	unreached := readCode(t, "jump 2; rem; step; mark; loop 2; end; x: return")
	checkStateRows(t, "addresses that are not reached", unreached, state("ab", 2, 1), []stateRow{
		{"a jumped over one", func(m *impl.Matcher) { m.PC = 1 }, false},
		{"the end", func(m *impl.Matcher) { m.PC = 5 }, false},
		{"the end, found", func(m *impl.Matcher) { m.Status, m.PC = impl.MtFound, 5 }, false},
		{"a choice", func(m *impl.Matcher) { m.Choices = []impl.MatchChoice{going(1, 1, 0, 0)} }, false},
		{"a return address", func(m *impl.Matcher) { m.Frames = []impl.MatchFrame{returning(0, 1)} }, false},
		{"a return address that is reached", func(m *impl.Matcher) { m.Frames = []impl.MatchFrame{returning(0, 2)} }, true},
	})
}

func TestValidityOfChoices(t *testing.T) {
	c, m := calling(t)
	choice := func(i int, field func(x *impl.MatchChoice) *int64) func(m *impl.Matcher) *int64 {
		return func(m *impl.Matcher) *int64 { return field(&m.Choices[i]) }
	}
	kind := func(x *impl.MatchChoice) *int64 { return &x.Kind }
	pc := func(x *impl.MatchChoice) *int64 { return &x.PC }
	cursor := func(x *impl.MatchChoice) *int64 { return &x.Cursor }
	top := func(x *impl.MatchChoice) *int64 { return &x.Top }
	conds := func(x *impl.MatchChoice) *int64 { return &x.Conds }
	last := func(x *impl.MatchChoice) *int64 { return &x.Last }
	rows := around("ChGo: Kind", impl.ChGo, impl.ChGo, choice(0, kind))
	rows = append(rows, around("ChGo: Cursor", 2, 6, choice(0, cursor))...)
	rows = append(rows, around("ChGo: Top", 0, 0, choice(0, top))...)
	rows = append(rows, around("ChGo: PC", 0, 1, choice(0, pc))...)
	rows = append(rows, around("ChGo: Conds", 0, 1, choice(0, conds))...)
	rows = append(rows, around("ChGo: Last", 0, 0, choice(0, last))...)
	rows = append(rows, around("ChAbort: Kind", impl.ChAbort, impl.ChAbort, choice(1, kind))...)
	rows = append(rows, around("ChAbort: Cursor", 0, 0, choice(1, cursor))...)
	rows = append(rows, around("ChAbort: Top", 0, 0, choice(1, top))...)
	rows = append(rows, around("ChAbort: PC", 0, 0, choice(1, pc))...)
	rows = append(rows, around("ChAbort: Conds", 0, 1, choice(1, conds))...)
	rows = append(rows, around("ChAbort: Last", 0, 0, choice(1, last))...)
	rows = append(rows, around("ChMore: Kind", impl.ChMore, impl.ChMore, choice(2, kind))...)
	rows = append(rows, around("ChMore: Cursor", 2, 4, choice(2, cursor))...)
	rows = append(rows, around("ChMore: Top", 3, 3, choice(2, top))...)
	rows = append(rows, around("ChMore: PC", 8, 8, choice(2, pc))...)
	rows = append(rows, around("ChMore: Conds", 1, 2, choice(2, conds))...)
	rows = append(rows, around("ChMore: Last", 4, 5, choice(2, last))...)
	rows = append(rows, around("the last choice: Conds", 1, 2, choice(3, conds))...)
	rows = append(rows, around("the last choice: PC", 9, 9, choice(3, pc))...)
	rows = append(rows, []stateRow{
		{"none", func(m *impl.Matcher) { m.Choices = nil }, true},
		{"ChGo with a stack", func(m *impl.Matcher) { m.Choices[0] = going(10, 4, 3, 0) }, true},
		{"ChGo in the main region behind the arb", func(m *impl.Matcher) { m.Choices[0] = going(5, 4, 0, 0) }, true},
		{"ChGo that could be resumed", func(m *impl.Matcher) { m.Choices[0] = going(4, 4, 0, 0) }, true},
		{"ChMore of the arb", func(m *impl.Matcher) { m.Choices[0] = more(4, 2, 0, 0, 5) }, true},
		{"ChMore of the arb up to the end", func(m *impl.Matcher) { m.Choices[0] = more(4, 2, 0, 0, 6) }, false},
		{"ChMore of the arb before its cursor", func(m *impl.Matcher) { m.Choices[0] = more(4, 3, 0, 0, 2) }, false},
		{"no kind", func(m *impl.Matcher) { m.Choices[0] = impl.MatchChoice{} }, false},
		{"fewer captures", func(m *impl.Matcher) { m.Conds = m.Conds[:1] }, false},
		{"no captures", func(m *impl.Matcher) { m.Conds = nil }, false},
		{"captures that decrease", func(m *impl.Matcher) { m.Choices[0].Conds = 2 }, false},
		{"captures that remain", func(m *impl.Matcher) {
			for i := range m.Choices {
				m.Choices[i].Conds = 2
			}
		}, true},
		{"captures that decrease to 0", func(m *impl.Matcher) { m.Choices = append(m.Choices, fence(0)) }, false},
		{"a fence at last", func(m *impl.Matcher) { m.Choices = append(m.Choices, fence(2)) }, true},
		{"a fence with too many captures", func(m *impl.Matcher) { m.Choices = append(m.Choices, fence(3)) }, false},
		{"fewer frames", func(m *impl.Matcher) { m.Frames = m.Frames[:2] }, false},
	}...)
	checkStateRows(t, "choices", c, m, rows)

	first := changed(m, func(m *impl.Matcher) { m.Choices = m.Choices[:1] })
	checkStateRows(t, "the only choice", c, first, around("Conds", 0, 2, choice(0, conds)))
	checkStateRows(t, "the only choice without captures", c, changed(first, func(m *impl.Matcher) { m.Conds = nil }), around("Conds", 0, 0, choice(0, conds)))
	fenced := changed(m, func(m *impl.Matcher) { m.Choices = []impl.MatchChoice{fence(0)} })
	checkStateRows(t, "the only fence", c, fenced, around("Conds", 0, 2, choice(0, conds)))
	// At Start 0, the zero fields of a fence are those of a place.
	atZero := changed(fenced, func(m *impl.Matcher) { m.Start = 0 })
	checkStateRows(t, "a fence from Start 0 on", c, atZero, slices.Concat(around("PC", 0, 0, choice(0, pc)), around("Cursor", 0, 0, choice(0, cursor)), around("Top", 0, 0, choice(0, top)), around("Last", 0, 0, choice(0, last))))
	found := changed(m, func(m *impl.Matcher) { m.Status, m.PC, m.Top = impl.MtFound, 5, 0 })
	checkStateRows(t, "choices of a match", c, found, around("ChMore: Last", 4, 5, choice(2, last)))
}

func TestValidityOfCaptures(t *testing.T) {
	c, m := calling(t)
	names := func(what string, of func(m *impl.Matcher) *string) []stateRow {
		var rows []stateRow
		for _, s := range []string{"x", "X_1", "ABCDEFGHIJKL"} {
			rows = append(rows, stateRow{what + " " + s, func(m *impl.Matcher) { *of(m) = s }, true})
		}
		for _, s := range []string{"", "1", "x y", "ABCDEFGHIJKLM", "\xff", strings.Repeat("x", 1000000)} {
			rows = append(rows, stateRow{fmt.Sprintf("%s %.40q", what, s), func(m *impl.Matcher) { *of(m) = s }, false})
		}
		return rows
	}
	texts := func(what string, valid bool, of func(m *impl.Matcher) *string) []stateRow {
		var rows []stateRow
		for _, s := range []string{"", "a", "other", "sixths", "\xff\x00", "sevenths", "1234567", strings.Repeat("x", 1000000)} {
			rows = append(rows, stateRow{fmt.Sprintf("%s %.40q", what, s), func(m *impl.Matcher) { *of(m) = s }, s == "" || valid && len(s) <= 6})
		}
		return rows
	}
	capture := func(i int, m *impl.Matcher) *impl.Capture {
		if i < 2 {
			return &m.Now[i]
		}
		return &m.Conds[i-2]
	}
	var rows []stateRow
	for i, what := range []string{"CaNow", "CaCursor", "CaCond", "the last CaCond"} {
		low := []int64{0, 0, 2, 2}[i]
		kind := []int64{impl.CaNow, impl.CaCursor, impl.CaCond, impl.CaCond}[i]
		rows = append(rows, names(what+": Name", func(m *impl.Matcher) *string { return &capture(i, m).Name })...)
		rows = append(rows, texts(what+": Text", i != 1, func(m *impl.Matcher) *string { return &capture(i, m).Text })...)
		rows = append(rows, around(what+": Cursor", low, 6, func(m *impl.Matcher) *int64 { return &capture(i, m).Cursor })...)
		for _, n := range []int64{math.MinInt64, -1, 0, impl.CaCond, impl.CaNow, impl.CaCursor, 4, 1<<32 + 1, math.MaxInt64} {
			// A cursor is a text that is empty, too.
			isValid := n == kind || i == 1 && n == impl.CaNow
			rows = append(rows, stateRow{fmt.Sprint(what, ": Kind ", n), func(m *impl.Matcher) { capture(i, m).Kind = n }, isValid})
		}
	}
	rows = append(rows, []stateRow{
		{"none", func(m *impl.Matcher) { m.Now, m.Conds, m.Choices = nil, nil, nil }, true},
		{"a CaCursor instead of a CaNow with a text", func(m *impl.Matcher) { m.Now[0].Kind = impl.CaCursor }, false},
		{"a CaCursor instead of a CaNow without a text", func(m *impl.Matcher) { m.Now[0].Kind, m.Now[0].Text = impl.CaCursor, "" }, true},
		{"a text as long as the subject", func(m *impl.Matcher) { m.Now[0].Text = "uvwxyz" }, true},
	}...)
	checkStateRows(t, "captures", c, m, rows)
	over := impl.Matcher{Status: impl.MtDone, Subject: "ab", Start: 2, Now: []impl.Capture{now("x", "ab", 2), cursor("x", 0)}}
	checkStateRows(t, "captures at the end", c, over, slices.Concat(
		names("Name", func(m *impl.Matcher) *string { return &m.Now[0].Name }),
		around("Cursor", 0, 2, func(m *impl.Matcher) *int64 { return &m.Now[1].Cursor }),
		around("Kind", impl.CaNow, impl.CaNow, func(m *impl.Matcher) *int64 { return &m.Now[0].Kind }),
	))
}

// TestNumberOfCaptures has MaxCaptures captures, and one more.
func TestNumberOfCaptures(t *testing.T) {
	c, base := calling(t)
	fill := func(nows, conds int) func(m *impl.Matcher) {
		return func(m *impl.Matcher) {
			m.Now, m.Conds, m.Choices = slices.Repeat([]impl.Capture{now("n", "", 0)}, nows), slices.Repeat([]impl.Capture{cond("n", "", 6)}, conds), nil
		}
	}
	checkStateRows(t, "running", c, base, []stateRow{
		{"as many immediate ones as there may be", fill(100, 0), true},
		{"one more", fill(101, 0), false},
		{"as many conditional ones as there may be", fill(0, 100), true},
		{"one more conditional one", fill(0, 101), false},
		{"as many of both as there may be", fill(40, 60), true},
		{"one more of both", fill(41, 60), false},
		{"very many", fill(1000000, 1000000), false},
	})
	for _, status := range []int64{impl.MtFound, impl.MtDone, impl.MtFault} {
		m := impl.Matcher{Status: status, Subject: "abcdef", Start: 2}
		switch status {
		case impl.MtFound:
			m.PC, m.Cursor = 5, 2
		case impl.MtFault:
			m.Fault = impl.ErrFull
		}
		checkStateRows(t, fmt.Sprint("status ", status), c, m, []stateRow{
			{"100", fill(100, 0), true},
			{"101", fill(101, 0), status == impl.MtFault},
			{"102", fill(102, 0), false},
			{"conditional ones", fill(0, 1), status == impl.MtFound},
			{"conditional ones up to the limit", fill(99, 1), status == impl.MtFound},
			{"conditional ones beyond the limit", fill(100, 1), false},
			{"very many", fill(1000000, 0), false},
		})
	}
	undefined := impl.Matcher{Status: impl.MtFault, Fault: impl.ErrUndefined, Subject: "abcdef"}
	checkStateRows(t, "undefined", c, undefined, []stateRow{{"100", fill(100, 0), true}, {"101", fill(101, 0), true}, {"102", fill(102, 0), false}})
}

// TestValidityOfEnds has matchers that have ended.
func TestValidityOfEnds(t *testing.T) {
	c, running := calling(t)
	for _, status := range []int64{impl.MtDone, impl.MtFault} {
		m := impl.Matcher{Status: status, Subject: "abcdef", Start: 3, Steps: 5, Now: running.Now}
		if status == impl.MtFault {
			m.Fault = impl.ErrUndefined
		}
		rows := around("PC", 0, 0, func(m *impl.Matcher) *int64 { return &m.PC })
		rows = append(rows, around("Cursor", 0, 0, func(m *impl.Matcher) *int64 { return &m.Cursor })...)
		rows = append(rows, around("Top", 0, 0, func(m *impl.Matcher) *int64 { return &m.Top })...)
		rows = append(rows, around("Last", 0, 0, func(m *impl.Matcher) *int64 { return &m.Last })...)
		rows = append(rows, around("Start", 0, 6, func(m *impl.Matcher) *int64 { return &m.Start })...)
		rows = append(rows, around("Steps", 0, 1000000, func(m *impl.Matcher) *int64 { return &m.Steps })...)
		for fault := int64(-1); fault <= 12; fault++ {
			isFault := fault == impl.ErrUndefined || fault == impl.ErrFull
			rows = append(rows, stateRow{fmt.Sprint("Fault ", fault), func(m *impl.Matcher) { m.Fault = fault }, status == impl.MtFault && isFault || status == impl.MtDone && fault == impl.OK})
		}
		rows = append(rows, []stateRow{
			{"unchanged", func(m *impl.Matcher) {}, true},
			{"empty lists", func(m *impl.Matcher) {
				m.Frames, m.Choices, m.Conds = []impl.MatchFrame{}, []impl.MatchChoice{}, []impl.Capture{}
			}, true},
			{"a frame", func(m *impl.Matcher) { m.Frames = []impl.MatchFrame{marked(0, 3)} }, false},
			{"a choice", func(m *impl.Matcher) { m.Choices = []impl.MatchChoice{going(0, 3, 0, 0)} }, false},
			{"a fence", func(m *impl.Matcher) { m.Choices = []impl.MatchChoice{fence(0)} }, false},
			{"a conditional capture", func(m *impl.Matcher) { m.Conds = []impl.Capture{cond("x", "", 3)} }, false},
			{"resumed", func(m *impl.Matcher) { m.Resume = true }, false},
			{"anchored", func(m *impl.Matcher) { m.Anchored = true }, false},
			{"anchored at 0", func(m *impl.Matcher) { m.Anchored, m.Start = true, 0 }, true},
			{"a long subject", func(m *impl.Matcher) { m.Subject = strings.Repeat("a", 201) }, false},
			{"no captures", func(m *impl.Matcher) { m.Now = nil }, true},
			{"very many choices", func(m *impl.Matcher) { m.Choices = make([]impl.MatchChoice, 1000000) }, false},
			{"very many frames", func(m *impl.Matcher) { m.Frames = make([]impl.MatchFrame, 1000000) }, false},
		}...)
		checkStateRows(t, fmt.Sprint("status ", status), c, m, rows)
	}
	for _, status := range []int64{math.MinInt64, -1, 0, 5, 1<<32 + 1, 1<<32 + 3, math.MaxInt64} {
		checkState(t, "no status", c, changed(running, func(m *impl.Matcher) { m.Status = status }), 100)
		checkState(t, "no status at the end", c, impl.Matcher{Status: status, Subject: "ab"}, 100)
		checkEqual(t, "no status", impl.ValidMatcher(c, impl.Matcher{Status: status}), false)
	}
}

// TestMatchersOfInvalidCode has matchers that would be valid for other code.
func TestMatchersOfInvalidCode(t *testing.T) {
	good := compiled(t, nil, "cat(arb,cond(rem,x))")
	bad := copyCode(good)
	bad.Code[len(bad.Code)-1] = op(impl.CoReturn)
	m := newMatcher(t, good, "ab", false)
	for _, m := range []impl.Matcher{m, {Status: impl.MtDone}, {Status: impl.MtFault, Fault: impl.ErrFull}, {}} {
		for _, c := range []impl.PatternCode{bad, {}, {Code: []impl.PatternIns{}}, {Code: good.Code, Entries: []impl.PatternEntry{{Name: "x", At: 1}}}} {
			checkEqual(t, "valid", impl.ValidMatcher(c, m), false)
			checkEqual(t, "checked", checkState(t, "invalid code", c, m, 100), false)
		}
	}
	// These belong to other code, too, but not these.
	other := compiled(t, nil, "rem")
	for range 4 {
		m = stepped(t, good, m)
	}
	checkEqual(t, "valid", impl.ValidMatcher(good, m), true)
	checkEqual(t, "valid for other code", impl.ValidMatcher(other, m), false)
	checkEqual(t, "valid at the end", impl.ValidMatcher(other, impl.Matcher{Status: impl.MtDone}), true)
}

// TestOrderOfMatcherErrors has several errors at the same time.
func TestOrderOfMatcherErrors(t *testing.T) {
	c := compiled(t, nil, "cat(arb,cursor(x))")
	run := newMatcher(t, c, "ab", true)
	done, fault := impl.Matcher{Status: impl.MtDone, Subject: "ab"}, impl.Matcher{Status: impl.MtFault, Fault: impl.ErrFull}
	invalid := changed(run, func(m *impl.Matcher) { m.PC = 99 })
	badDone := changed(done, func(m *impl.Matcher) { m.Cursor = 1 })
	for _, fuel := range []int64{math.MinInt64, -1 << 32, -1, 20001, 1<<32 + 5, math.MaxInt64} {
		for _, m := range []impl.Matcher{run, done, fault, changed(run, func(m *impl.Matcher) { m.Steps = 1000000 })} {
			checkNext(t, "fuel", nextMatch(c, m, fuel), nextResult{code: impl.ErrRange})
		}
		for _, m := range []impl.Matcher{invalid, badDone, {}} {
			checkNext(t, "invalid with fuel", nextMatch(c, m, fuel), nextResult{code: impl.ErrInvalid})
			checkNext(t, "invalid code with fuel", nextMatch(impl.PatternCode{}, run, fuel), nextResult{code: impl.ErrInvalid})
		}
	}
	for _, fuel := range []int64{0, 1, 20000} {
		for _, m := range []impl.Matcher{done, fault} {
			checkNext(t, "over", nextMatch(c, m, fuel), nextResult{code: impl.ErrState})
		}
		checkNext(t, "invalid", nextMatch(c, badDone, fuel), nextResult{code: impl.ErrInvalid})
	}
	for _, m := range []impl.Matcher{done, fault, changed(done, func(m *impl.Matcher) { m.Steps = 1000000 })} {
		got, code := impl.StepMatcher(c, m)
		checkEqual(t, "StepMatcher: over", code, impl.ErrState)
		checkMatcher(t, "StepMatcher: over", got, impl.Matcher{})
		got, code = impl.CompactMatcher(c, m)
		checkEqual(t, "CompactMatcher: over", code, impl.OK)
		checkMatcher(t, "CompactMatcher: over", got, m)
	}
	for _, m := range []impl.Matcher{invalid, badDone, {}} {
		_, code := impl.StepMatcher(c, m)
		checkEqual(t, "StepMatcher: invalid", code, impl.ErrInvalid)
		_, code = impl.CompactMatcher(c, m)
		checkEqual(t, "CompactMatcher: invalid", code, impl.ErrInvalid)
	}
}

// TestMachineLimits has MaxMachine frames and choices and MaxMachineSteps steps, one less and one more.
func TestMachineLimits(t *testing.T) {
	c := readCode(t, "choice 1; mark; cond x; step; end")
	frames := func(count int) func(m *impl.Matcher) {
		return func(m *impl.Matcher) { m.Frames = slices.Repeat([]impl.MatchFrame{marked(0, 1)}, count) }
	}
	choices := func(count int) func(m *impl.Matcher) {
		return func(m *impl.Matcher) { m.Choices = slices.Repeat([]impl.MatchChoice{going(4, 1, 0, 0)}, count) }
	}
	steps := func(count int64) func(m *impl.Matcher) {
		return func(m *impl.Matcher) { m.Steps = count }
	}
	at := func(pc int64) impl.Matcher { return state("abc", pc, 1) }
	found := changed(at(4), func(m *impl.Matcher) { m.Status = impl.MtFound })
	for _, row := range []struct {
		what string
		m    impl.Matcher
		code int64
	}{
		{"one frame less", changed(at(1), frames(39999)), impl.OK},
		{"MaxMachine frames", changed(at(1), frames(40000)), impl.ErrFull},
		{"MaxMachine frames at an instruction that pushes none", changed(at(3), frames(40000)), impl.ErrFull},
		{"one frame more", changed(at(1), frames(40001)), impl.ErrInvalid},
		{"one choice less", changed(at(0), choices(39999)), impl.OK},
		{"MaxMachine choices", changed(at(0), choices(40000)), impl.ErrFull},
		{"MaxMachine choices at an instruction that adds none", changed(at(3), choices(40000)), impl.ErrFull},
		{"one choice more", changed(at(0), choices(40001)), impl.ErrInvalid},
		{"one step less", changed(at(3), steps(999999)), impl.OK},
		{"MaxMachineSteps steps", changed(at(3), steps(1000000)), impl.ErrFull},
		{"MaxMachineSteps steps at an instruction that is not counted", changed(at(0), steps(1000000)), impl.ErrFull},
		{"one step more", changed(at(3), steps(1000001)), impl.ErrInvalid},
		{"a match with MaxMachine frames", changed(found, frames(40000)), impl.OK},
		{"a match with one frame more", changed(found, frames(40001)), impl.ErrInvalid},
		{"a match with MaxMachine choices", changed(found, choices(40000)), impl.OK},
		{"a match with one choice more", changed(found, choices(40001)), impl.ErrInvalid},
		{"a match with MaxMachineSteps steps", changed(found, steps(1000000)), impl.OK},
		{"a match with one step more", changed(found, steps(1000001)), impl.ErrInvalid},
		{"very many frames", changed(at(1), frames(2000000)), impl.ErrInvalid},
		{"very many choices", changed(at(1), choices(2000000)), impl.ErrInvalid},
	} {
		got, code := impl.StepMatcher(c, row.m)
		checkEqual(t, row.what, code, row.code)
		checkEqual(t, row.what+": valid", impl.ValidMatcher(c, row.m), row.code != impl.ErrInvalid)
		want := impl.Matcher{}
		if row.code == impl.OK {
			want = modelStep(c, row.m)
		}
		if !equalMatchers(got, want) {
			t.Error(row.what, "another matcher")
		}
		if row.code == impl.OK {
			checkEqual(t, row.what+": valid afterwards", impl.ValidMatcher(c, got), true)
		}
		if row.code != impl.ErrInvalid {
			want, _ := modelNext(c, row.m, 20000, 100)
			next := nextMatch(c, row.m, 20000)
			if !equalMatchers(next.m, want.m) || next.code != want.code || next.found != want.found {
				t.Errorf("%s: another result of NextMatch: %d and %t, want %d and %t", row.what, next.code, next.found, want.code, want.found)
			}
		}
	}
	full := nextMatch(c, changed(at(1), frames(39999)), 20000)
	checkEqual(t, "NextMatch up to MaxMachine frames", full.code, impl.ErrFull)
	checkEqual(t, "frames of the matcher that is returned", len(full.m.Frames), 40000)
	checkEqual(t, "its status", full.m.Status, impl.MtRun)
	full = nextMatch(c, changed(at(0), choices(39999)), 20000)
	checkEqual(t, "NextMatch up to MaxMachine choices", full.code, impl.ErrFull)
	checkEqual(t, "choices of the matcher that is returned", len(full.m.Choices), 40000)
	full = nextMatch(c, changed(found, func(m *impl.Matcher) { frames(40000)(m); choices(1)(m) }), 20000)
	checkEqual(t, "NextMatch from a match with MaxMachine frames", full.code, impl.ErrFull)
	checkEqual(t, "status of the matcher that is returned", full.m.Status, impl.MtRun)
	checkEqual(t, "its choices", len(full.m.Choices), 0)
	counted := nextMatch(c, changed(at(3), steps(1000000)), 20000)
	checkEqual(t, "NextMatch at a counted instruction with MaxMachineSteps steps", counted.code, impl.ErrSteps)
	free := nextMatch(c, changed(at(0), steps(1000000)), 20000)
	checkEqual(t, "NextMatch at another instruction with MaxMachineSteps steps", free.code, impl.ErrFull)
	both := nextMatch(c, changed(at(3), func(m *impl.Matcher) { frames(40000)(m); steps(20000)(m) }), 20000)
	checkEqual(t, "NextMatch without fuel and with MaxMachine frames", both.code, impl.ErrSteps)
	compact, code := impl.CompactMatcher(c, changed(at(1), frames(40000)))
	checkEqual(t, "CompactMatcher with MaxMachine frames", code, impl.OK)
	checkMatcher(t, "CompactMatcher with MaxMachine frames", compact, at(1))
}

// TestFuelOfNextMatch has each amount of fuel around the steps that are needed.
func TestFuelOfNextMatch(t *testing.T) {
	c := compiled(t, nil, "cat(arb,succeed)")
	m := newMatcher(t, c, "ab", true)
	checkNext(t, "no fuel", nextMatch(c, m, 0), nextResult{m: m, code: impl.ErrSteps})
	for fuel := range int64(4) {
		r := nextMatch(c, m, fuel)
		checkEqual(t, "code", r.code, impl.ErrSteps)
		checkEqual(t, "found", r.found, false)
		checkEqual(t, "steps", r.m.Steps, fuel)
		checkEqual(t, "valid", impl.ValidMatcher(c, r.m), true)
		rest := nextMatch(c, r.m, 4)
		checkEqual(t, "code with more fuel", rest.code, impl.OK)
		checkEqual(t, "match with more fuel", rest.found && impl.SameMatch(rest.match, matched(0, 0)), true)
		checkEqual(t, "steps with more fuel", rest.m.Steps, 4)
		less := nextMatch(c, r.m, max(fuel-1, 0))
		checkNext(t, "less fuel", less, nextResult{m: r.m, code: impl.ErrSteps})
	}
	found := nextMatch(c, m, 4)
	checkEqual(t, "found", found.found, true)
	// The matcher fails without a counted step, and the PtSucceed that is resumed is counted.
	r := nextMatch(c, found.m, 4)
	checkEqual(t, "code behind the match", r.code, impl.ErrSteps)
	checkEqual(t, "status behind the match", r.m.Status, impl.MtRun)
	checkEqual(t, "resumed", r.m.Resume, true)
	checkEqual(t, "steps", r.m.Steps, 4)
	r = nextMatch(c, found.m, 5)
	checkEqual(t, "code with one step", r.code, impl.ErrSteps)
	checkEqual(t, "steps with one step", r.m.Steps, 5)
	r = nextMatch(c, found.m, 6)
	checkEqual(t, "code with two steps", r.code, impl.OK)
	checkEqual(t, "found with two steps", r.found, true)

	// Steps that are not counted need no fuel, also if there were more steps than fuel.
	free := compiled(t, nil, "arbno(arb)")
	late := changed(newMatcher(t, free, "ab", true), func(m *impl.Matcher) { m.Steps, m.PC = 500, 1 })
	r = nextMatch(free, late, 3)
	checkEqual(t, "late: code", r.code, impl.ErrSteps)
	checkEqual(t, "late: steps", r.m.Steps, 500)
	checkEqual(t, "late: PC", r.m.PC, 6)
	end := nextMatch(compiled(t, nil, `"b"`), impl.Matcher{Status: impl.MtFound, Subject: "b", Anchored: true, PC: 1, Cursor: 1, Steps: 700}, 0)
	checkNext(t, "an end without fuel", end, nextResult{m: impl.Matcher{Status: impl.MtDone, Subject: "b", Anchored: true, Steps: 700}})
}

// TestFaults has matchers that end with a fault, after matches and without.
func TestFaults(t *testing.T) {
	long := strings.Repeat("a", 150)
	for _, row := range []struct {
		pattern, subject string
		matches          int
		code             int64
		nows             int
	}{
		{"defer(q)", "ab", 0, impl.ErrUndefined, 0},
		{"cat(cursor(x),defer(q))", "ab", 0, impl.ErrUndefined, 1},
		{"alt(rem,defer(q))", "ab", 1, impl.ErrUndefined, 0},
		{"cat(arbno(now(len(1),x)),fail)", long, 0, impl.ErrFull, 101},
		{"cat(arbno(cond(len(1),x)),fail)", long, 0, impl.ErrFull, 0},
		{"cat(arbno(cond(now(len(1),x),y)),fail)", long, 0, impl.ErrFull, 51},
		{"cat(arbno(cat(len(1),cursor(x))),fail)", long, 0, impl.ErrFull, 101},
		{"arbno(now(len(1),x))", long, 101, impl.ErrFull, 101},
		{"arbno(cond(len(1),x))", long, 101, impl.ErrFull, 0},
	} {
		c := compiled(t, nil, row.pattern)
		r := nextResult{m: newMatcher(t, c, row.subject, true), found: true}
		found := -1
		for ; r.found; found++ {
			r = nextMatch(c, r.m, 20000)
		}
		checkEqual(t, row.pattern+": matches", found, row.matches)
		checkEqual(t, row.pattern+": code", r.code, row.code)
		checkEqual(t, row.pattern+": status", r.m.Status, impl.MtFault)
		checkEqual(t, row.pattern+": fault", r.m.Fault, row.code)
		checkEqual(t, row.pattern+": immediate captures", len(r.m.Now), row.nows)
		checkEqual(t, row.pattern+": valid", impl.ValidMatcher(c, r.m), true)
		checkMatcher(t, row.pattern, r.m, impl.Matcher{Status: impl.MtFault, Fault: row.code, Subject: row.subject, Anchored: true, Steps: r.m.Steps, Now: r.m.Now})
		checkNext(t, row.pattern+": again", nextMatch(c, r.m, 20000), nextResult{code: impl.ErrState})
	}
}

// TestCompactMatcher has stacks that share frames, and frames on no stack.
func TestCompactMatcher(t *testing.T) {
	c, base := calling(t)
	checkCompact := func(what string, m impl.Matcher, change func(m *impl.Matcher)) {
		t.Helper()
		got, code := impl.CompactMatcher(c, m)
		checkEqual(t, what, code, impl.OK)
		checkMatcher(t, what, got, changed(m, change))
		checkEqual(t, what+": valid", impl.ValidMatcher(c, got), true)
		again, _ := impl.CompactMatcher(c, got)
		checkMatcher(t, what+": again", again, got)
		checkState(t, what, c, m, 200)
	}
	checkCompact("a frame on no stack", base, func(m *impl.Matcher) { m.Frames = m.Frames[:3] })
	all := changed(base, func(m *impl.Matcher) { m.Choices[0] = going(3, 4, 4, 0) })
	checkCompact("nothing to remove", all, nil)
	moved := changed(base, func(m *impl.Matcher) {
		m.Frames = []impl.MatchFrame{marked(0, 5), marked(0, 2), marked(2, 3), returning(2, 3), marked(0, 2), marked(4, 3), returning(5, 2)}
		m.Top = 6
		m.Choices = []impl.MatchChoice{going(2, 3, 2, 0), more(8, 3, 6, 1, 5), going(12, 4, 4, 2), fence(2)}
	})
	checkCompact("stacks that share frames", moved, func(m *impl.Matcher) {
		m.Frames = []impl.MatchFrame{marked(0, 2), returning(1, 3), marked(2, 3)}
		m.Top = 3
		m.Choices = []impl.MatchChoice{going(2, 3, 1, 0), more(8, 3, 3, 1, 5), going(12, 4, 2, 2), fence(2)}
	})
	forked := changed(moved, func(m *impl.Matcher) {
		m.Frames = append(m.Frames, marked(4, 6), marked(7, 2))
		m.Choices = append(m.Choices[:3:3], going(9, 5, 8, 2))
	})
	checkCompact("stacks that divide", forked, func(m *impl.Matcher) {
		m.Frames = []impl.MatchFrame{marked(0, 2), returning(1, 3), marked(2, 3), marked(2, 6)}
		m.Top = 3
		m.Choices = []impl.MatchChoice{going(2, 3, 1, 0), more(8, 3, 3, 1, 5), going(12, 4, 2, 2), going(9, 5, 4, 2)}
	})
	found := changed(forked, func(m *impl.Matcher) { m.Status, m.PC, m.Top, m.Choices = impl.MtFound, 5, 0, nil })
	checkCompact("a match without choices", found, func(m *impl.Matcher) { m.Frames = nil })
	only := changed(forked, func(m *impl.Matcher) {
		m.Status, m.PC, m.Top, m.Choices = impl.MtFound, 5, 0, []impl.MatchChoice{fence(0), going(2, 6, 5, 0)}
	})
	checkCompact("a match with a choice", only, func(m *impl.Matcher) {
		m.Frames = []impl.MatchFrame{marked(0, 2)}
		m.Choices[1].Top = 1
	})
	checkCompact("no frames", newMatcher(t, c, "abc", true), nil)
	checkCompact("an end", impl.Matcher{Status: impl.MtDone, Subject: "ab", Start: 1, Steps: 7, Now: []impl.Capture{cursor("x", 1)}}, nil)
	checkCompact("a fault", impl.Matcher{Status: impl.MtFault, Fault: impl.ErrFull, Subject: "ab"}, nil)
}

func TestSameMatcher(t *testing.T) {
	c, m := calling(t)
	_ = c
	list := []impl.Matcher{
		{}, {Status: 1}, {Status: 2}, {Fault: 1}, {Subject: "a"}, {Subject: "b"}, {Anchored: true}, {Start: 1}, {PC: 1}, {Cursor: 1}, {Top: 1}, {Resume: true}, {Last: 1}, {Steps: 1}, {Status: math.MinInt64, Last: math.MaxInt64},
		{Frames: []impl.MatchFrame{{}}}, {Frames: []impl.MatchFrame{{}, {}}}, {Frames: []impl.MatchFrame{{Below: 1}}}, {Frames: []impl.MatchFrame{{Num: 1}}}, {Frames: []impl.MatchFrame{{Return: true}}},
		{Choices: []impl.MatchChoice{{}}}, {Choices: []impl.MatchChoice{{}, {}}}, {Choices: []impl.MatchChoice{{Kind: 1}}}, {Choices: []impl.MatchChoice{{PC: 1}}}, {Choices: []impl.MatchChoice{{Cursor: 1}}}, {Choices: []impl.MatchChoice{{Top: 1}}}, {Choices: []impl.MatchChoice{{Conds: 1}}}, {Choices: []impl.MatchChoice{{Last: 1}}},
		{Now: []impl.Capture{{}}}, {Now: []impl.Capture{{}, {}}}, {Now: []impl.Capture{{Name: "x"}}}, {Now: []impl.Capture{{Text: "x"}}}, {Now: []impl.Capture{{Cursor: 1}}}, {Now: []impl.Capture{{Kind: 1}}},
		{Conds: []impl.Capture{{}}}, {Conds: []impl.Capture{{}, {}}}, {Conds: []impl.Capture{{Name: "x"}}}, {Conds: []impl.Capture{{Text: "x"}}}, {Conds: []impl.Capture{{Cursor: 1}}}, {Conds: []impl.Capture{{Kind: 1}}}, {Conds: []impl.Capture{{Kind: 2}}},
		{Frames: make([]impl.MatchFrame, 100000)}, {Frames: append(make([]impl.MatchFrame, 99999), marked(0, 1))}, {Choices: make([]impl.MatchChoice, 100000)}, {Now: make([]impl.Capture, 100000)}, {Conds: make([]impl.Capture, 100000)},
		m, changed(m, func(m *impl.Matcher) { m.Frames[3].Num++ }), changed(m, func(m *impl.Matcher) { m.Choices[3].Last++ }), changed(m, func(m *impl.Matcher) { m.Now, m.Conds = m.Conds, m.Now }),
	}
	for i, a := range list {
		for j, b := range list {
			checkEqual(t, fmt.Sprintf("%d and %d", i, j), impl.SameMatcher(a, copyMatcher(b)), i == j)
		}
	}
	empty := impl.Matcher{Frames: []impl.MatchFrame{}, Choices: []impl.MatchChoice{}, Now: []impl.Capture{}, Conds: []impl.Capture{}}
	checkEqual(t, "nil and empty lists", impl.SameMatcher(impl.Matcher{}, empty), true)
	checkEqual(t, "empty and nil lists", impl.SameMatcher(empty, impl.Matcher{}), true)
}

// firstResult is what FirstMatch returns.
type firstResult struct {
	match impl.Match
	found bool
	steps int64
	code  int64
}

func checkFirst(t *testing.T, what string, env []impl.Named, p impl.Pattern, subject string, anchored bool, fuel int64, want firstResult) {
	t.Helper()
	var got firstResult
	got.match, got.found, got.steps, got.code = impl.FirstMatch(env, p, subject, anchored, fuel)
	if !equalMatches([]impl.Match{got.match}, []impl.Match{want.match}) || got.found != want.found || got.steps != want.steps || got.code != want.code {
		t.Errorf("%s: FirstMatch(%.200q, %.300q, %.60q, %t, %d): got %.300q, want %.300q", what, fmt.Sprint(env), impl.PatternText(p), subject, anchored, fuel, fmt.Sprint(got), fmt.Sprint(want))
	}
}

func checkAll(t *testing.T, what string, env []impl.Named, p impl.Pattern, subject string, anchored bool, fuel int64, want []impl.Match, code int64) {
	t.Helper()
	got, gotCode := impl.AllMatches(env, p, subject, anchored, fuel)
	if !equalMatches(got, want) || gotCode != code {
		t.Errorf("%s: AllMatches(%.200q, %.300q, %.60q, %t, %d): got %.300q and %d, want %.300q and %d", what, fmt.Sprint(env), impl.PatternText(p), subject, anchored, fuel, fmt.Sprint(got), gotCode, fmt.Sprint(want), code)
	}
}

func TestFirstMatch(t *testing.T) {
	env := []impl.Named{{Name: "par", Pattern: readPattern(t, `alt("a",cat("(",cat(defer(par),")")))`)}, {Name: "loop", Pattern: readPattern(t, "defer(loop)")}}
	for _, row := range []struct {
		pattern, subject string
		anchored         bool
		want             firstResult
	}{
		{"rem", "", true, firstResult{matched(0, 0), true, 2, impl.OK}},
		{"arb", "ab", false, firstResult{matched(0, 0), true, 2, impl.OK}},
		{`"b"`, "aab", false, firstResult{matched(2, 3), true, 4, impl.OK}},
		{`"b"`, "aab", true, firstResult{matched(0, 0), false, 1, impl.OK}},
		{"fail", "aab", false, firstResult{matched(0, 0), false, 4, impl.OK}},
		{"abort", "aab", false, firstResult{matched(0, 0), false, 1, impl.OK}},
		{`cat(fence,"b")`, "ab", false, firstResult{matched(0, 0), false, 3, impl.OK}},
		{"succeed", "ab", false, firstResult{matched(0, 0), true, 2, impl.OK}},
		{"defer(par)", "((a)", false, firstResult{matched(1, 4), true, 30, impl.OK}},
		{`cat(now(len(1),x),"b")`, "ac", false, firstResult{matched(0, 0, now("x", "a", 1), now("x", "c", 2)), false, 11, impl.OK}},
		{`cat(cond(len(1),x),"b")`, "ac", false, firstResult{matched(0, 0), false, 11, impl.OK}},
		{`cat(cursor(x),"b")`, "ab", false, firstResult{matched(1, 2, cursor("x", 0), cursor("x", 1)), true, 7, impl.OK}},
		{"cat(cond(len(1),x),now(len(1),y))", "ab", true, firstResult{matched(0, 2, now("y", "b", 2), cond("x", "a", 1)), true, 6, impl.OK}},
		{"cat(cursor(x),abort)", "ab", false, firstResult{matched(0, 0, cursor("x", 0)), false, 3, impl.OK}},
		{"defer(loop)", "ab", false, firstResult{code: impl.ErrSteps}},
		{"defer(none)", "ab", false, firstResult{code: impl.ErrUndefined}},
		{"cat(cursor(x),defer(none))", "ab", false, firstResult{code: impl.ErrUndefined}},
		{"alt(rem,defer(none))", "ab", false, firstResult{matched(0, 2), true, 3, impl.OK}},
		{"cat(arbno(now(len(1),x)),rpos(0))", strings.Repeat("a", 101), true, firstResult{code: impl.ErrFull}},
		{"arbno(now(len(1),x))", strings.Repeat("a", 101), true, firstResult{matched(0, 0), true, 2, impl.OK}},
	} {
		p := readPattern(t, row.pattern)
		checkFirst(t, row.pattern, env, p, row.subject, row.anchored, 20000, row.want)
		if row.want.code == impl.OK {
			checkFirst(t, "exactly enough fuel", env, p, row.subject, row.anchored, row.want.steps, row.want)
			checkFirst(t, "one step less", env, p, row.subject, row.anchored, row.want.steps-1, firstResult{code: impl.ErrSteps})
		}
	}
}

// TestErrorsOfMatching has the errors of FirstMatch and AllMatches in their order.
func TestErrorsOfMatching(t *testing.T) {
	rem, gone, long := bare(impl.PtRem), texted(impl.PtDefer, "q"), strings.Repeat("a", 201)
	badEnvs := [][]impl.Named{{{}}, {{Name: "x"}}, {{Name: "1", Pattern: rem}}, envOf(rem, "x", "x"), envOf(rem, numberedNames(41)...), {{Name: "x", Pattern: stacked(60, rem)}}, {{Name: "x", Pattern: endlessPattern(1)}}}
	badPatterns := []impl.Pattern{{}, bare(25), numbered(impl.PtLen, -1), texted(impl.PtAny, ""), texted(impl.PtDefer, ""), tree(impl.PtAlt, rem), stacked(60, rem), endlessPattern(3), sharedPattern(100), texted(impl.PtString, long)}
	badNumbers := []int64{math.MinInt64, -1 << 32, -1, 20001, 1<<32 + 5, math.MaxInt64}
	check := func(what string, env []impl.Named, p impl.Pattern, subject string, fuel, code int64) {
		t.Helper()
		for _, anchored := range []bool{true, false} {
			checkFirst(t, what, env, p, subject, anchored, fuel, firstResult{code: code})
			checkAll(t, what, env, p, subject, anchored, fuel, nil, code)
		}
	}
	for _, fuel := range append(slices.Clone(badNumbers), 0, 1, 20000) {
		for _, env := range badEnvs {
			check("invalid environment", env, rem, "ab", fuel, impl.ErrInvalid)
			check("invalid environment, undefined name", env, gone, long, fuel, impl.ErrInvalid)
		}
		for _, p := range badPatterns {
			check("invalid pattern", nil, p, "ab", fuel, impl.ErrInvalid)
			check("invalid pattern with an environment", envOf(rem, "x"), p, "ab", fuel, impl.ErrInvalid)
		}
		check("long subject", nil, rem, long, fuel, impl.ErrInvalid)
		check("very long subject", nil, gone, strings.Repeat("a", 1000000), fuel, impl.ErrInvalid)
	}
	for _, fuel := range badNumbers {
		for _, p := range []impl.Pattern{rem, gone, bare(impl.PtSucceed), bare(impl.PtFail)} {
			check("fuel", nil, p, "ab", fuel, impl.ErrRange)
		}
	}
	check("no fuel", nil, rem, "ab", 0, impl.ErrSteps)
	check("no fuel for the name", nil, gone, "ab", 0, impl.ErrSteps)
	check("fuel for the name", nil, gone, "ab", 1, impl.ErrUndefined)
}

// TestLimitsOfMatching has MaxMatches, MaxString, MaxNamed and MaxMatchSteps reached exactly and exceeded by one.
func TestLimitsOfMatching(t *testing.T) {
	rem, full := bare(impl.PtRem), strings.Repeat("a", 200)
	arb := bare(impl.PtArb)
	var ends []impl.Match
	for end := range int64(60) {
		ends = append(ends, matched(0, end))
	}
	checkAll(t, "MaxMatches", nil, arb, full[:59], true, 20000, ends, impl.OK)
	checkAll(t, "MaxMatches with the fuel that they need", nil, arb, full[:59], true, 61, ends, impl.OK)
	checkAll(t, "MaxMatches with less fuel", nil, arb, full[:59], true, 60, nil, impl.ErrSteps)
	checkAll(t, "one more", nil, arb, full[:60], true, 20000, ends, impl.ErrFull)
	checkAll(t, "one more, with fuel for it", nil, arb, full[:60], true, 62, ends, impl.ErrFull)
	checkAll(t, "one more, without fuel for it", nil, arb, full[:60], true, 61, nil, impl.ErrSteps)
	checkAll(t, "MaxMatches at the start cursors", nil, rem, full[:59], false, 20000, rests(60, 59), impl.OK)
	checkAll(t, "one more start cursor", nil, rem, full[:60], false, 20000, rests(60, 60), impl.ErrFull)
	checkAll(t, "many more", nil, bare(impl.PtSucceed), "", false, 20000, slices.Repeat(spans("0-0"), 60), impl.ErrFull)
	checkAll(t, "MaxMatches, then a name", nil, readPattern(t, "alt(arb,defer(q))"), full[:59], true, 20000, nil, impl.ErrUndefined)
	checkAll(t, "one more, then a name", nil, readPattern(t, "alt(arb,defer(q))"), full[:60], true, 20000, ends, impl.ErrFull)
	checkAll(t, "MaxMatches, then captures", nil, readPattern(t, "alt(arb,cat(arbno(now(len(1),x)),fail))"), full[:59], true, 20000, ends, impl.OK)

	checkAll(t, "MaxString", nil, rem, full, true, 2, spans("0-200"), impl.OK)
	checkFirst(t, "MaxString", nil, rem, full, true, 2, firstResult{matched(0, 200), true, 2, impl.OK})
	checkFirst(t, "one byte more", nil, rem, full+"a", true, 2, firstResult{code: impl.ErrInvalid})
	named := envOf(rem, numberedNames(40)...)
	checkAll(t, "MaxNamed", named, texted(impl.PtDefer, "n39"), "ab", true, 3, spans("0-2"), impl.OK)
	checkFirst(t, "MaxNamed", named, texted(impl.PtDefer, "n39"), "ab", true, 3, firstResult{matched(0, 2), true, 3, impl.OK})
	checkFirst(t, "one name more", envOf(rem, numberedNames(41)...), rem, "ab", true, 3, firstResult{code: impl.ErrInvalid})

	subject := full[:196]
	for _, row := range []struct{ last, steps, code int64 }{{102, 19999, impl.OK}, {101, 20000, impl.OK}, {100, 20000, impl.ErrSteps}} {
		p := readPattern(t, fmt.Sprintf("alt(cat(arb,cat(arb,fail)),cat(len(%d),cat(arb,fail)))", row.last))
		want := firstResult{steps: row.steps}
		if row.code != impl.OK {
			want = firstResult{code: row.code}
		}
		checkAll(t, "MaxMatchSteps", nil, p, subject, true, 20000, nil, row.code)
		checkFirst(t, "MaxMatchSteps", nil, p, subject, true, 20000, want)
		checkAll(t, "one less", nil, p, subject, true, row.steps-1, nil, impl.ErrSteps)
	}
	for _, n := range []int{99, 100, 101} {
		for _, text := range []string{"cat(arbno(now(len(1),x)),rpos(0))", "cat(arbno(cond(len(1),x)),rpos(0))", "cat(arbno(cat(len(1),cursor(x))),rpos(0))"} {
			p := readPattern(t, text)
			want, code := impl.MatchesOf(nil, p, full[:n], true, 20000)
			checkEqual(t, text, code, map[bool]int64{true: impl.OK, false: impl.ErrFull}[n <= 100])
			checkAll(t, "MaxCaptures", nil, p, full[:n], true, 20000, want, code)
		}
	}
}

// TestManyUncountedSteps has code whose paths are too many to follow each of them, if none of their steps is counted.
func TestManyUncountedSteps(t *testing.T) {
	ladder := func(count int, behind string) impl.PatternCode {
		var text strings.Builder
		text.WriteString("step; mark; ")
		for i := range count {
			fmt.Fprintf(&text, "choice %d; ", i+3)
		}
		return readCode(t, text.String()+behind)
	}
	for _, count := range []int{1, 2, 5, 10, 100, 5000, 12995} {
		for _, behind := range []string{"loop 0; end", "cond x; fail; end", "now x; end"} {
			c := ladder(count, behind)
			m := newMatcher(t, c, "ab", false)
			r := nextMatch(c, m, 20000)
			if count <= 10 {
				want, ok := modelNext(c, m, 20000, 100000)
				checkEqual(t, "steps of the model", ok, true)
				checkNext(t, fmt.Sprint(count, " choices before ", behind), r, want)
			}
			switch {
			case behind == "loop 0; end":
				checkNext(t, behind, r, nextResult{m: impl.Matcher{Status: impl.MtDone, Subject: "ab", Start: 2, Steps: 3}})
			case behind == "now x; end":
				checkEqual(t, "found", r.found, true)
				checkEqual(t, "choices", len(r.m.Choices), count)
			case count >= 100:
				// The instruction that fails is counted, so that each path needs fuel.
				checkEqual(t, "code", r.code, impl.ErrSteps)
				checkEqual(t, "steps", r.m.Steps, 20000)
			}
			checkEqual(t, "valid", impl.ValidMatcher(c, r.m), true)
		}
	}
	// The second path of each choice has more choices than the first one.
	var text strings.Builder
	text.WriteString("step; mark; ")
	for i := range 300 {
		at := 4*i + 2
		fmt.Fprintf(&text, "choice %d; jump %d; choice %d; choice %d; ", at+2, at+4, at+3, at+4)
	}
	c := readCode(t, text.String()+"loop 0; end")
	checkNext(t, "paths with more and more choices", nextMatch(c, newMatcher(t, c, "", true), 20000), nextResult{m: impl.Matcher{Status: impl.MtDone, Anchored: true, Steps: 1}})

	// The second path of each choice has as many choices as the first one.
	text.Reset()
	text.WriteString("step; mark; ")
	for i := range 300 {
		at := 3*i + 2
		fmt.Fprintf(&text, "choice %d; jump %d; choice %d; ", at+2, at+3, at+3)
	}
	c = readCode(t, text.String()+"loop 0; end")
	checkNext(t, "paths with as many choices", nextMatch(c, newMatcher(t, c, "a", true), 20000), nextResult{m: impl.Matcher{Status: impl.MtDone, Subject: "a", Anchored: true, Steps: 1}})

	// Each path records a capture, so that each of them must be followed.
	for count := range 9 {
		text.Reset()
		text.WriteString("step; mark; mark; ")
		for i := range count {
			fmt.Fprintf(&text, "choice %d; ", i+4)
		}
		c := readCode(t, text.String()+"now x; loop 0; end")
		m := newMatcher(t, c, "", true)
		r := nextMatch(c, m, 20000)
		want, _ := modelNext(c, m, 20000, 100000)
		checkNext(t, fmt.Sprint(count, " choices before a capture"), r, want)
		checkEqual(t, "captures", len(r.m.Now), min(1<<count, 101))
	}

	// The same places are reached with so many choices that the limit is reached only later.
	short := readCode(t, "choice 11; step; mark; choice 5; jump 9; choice 6; choice 7; choice 8; choice 9; choice 10; loop 1; end")
	for missing := range 9 {
		m := changed(state("ab", 3, 1), func(m *impl.Matcher) {
			m.Frames, m.Top = []impl.MatchFrame{marked(0, 1)}, 1
			m.Choices = slices.Repeat([]impl.MatchChoice{going(11, 1, 0, 0)}, 40000-missing)
		})
		want, ok := modelNext(short, m, 20000, 100000)
		checkEqual(t, "steps of the model", ok, true)
		r := nextMatch(short, m, 20000)
		if !equalMatchers(r.m, want.m) || r.code != want.code || r.found != want.found {
			t.Errorf("%d choices less than MaxMachine: %d and %t, want %d and %t", missing, r.code, r.found, want.code, want.found)
		}
		checkEqual(t, fmt.Sprint(missing, " choices less than MaxMachine: code"), r.code, map[bool]int64{true: impl.ErrFull, false: impl.OK}[missing <= 5])
	}
}
