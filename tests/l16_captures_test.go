package tests

import (
	"fmt"
	"math"
	"runtime"
	"slices"
	"strings"
	"testing"

	"loop.example/g00873/impl"
)

// text and number return assignments.
func text(name, s string) impl.Assignment { return impl.Assignment{Name: name, Text: s} }

func num(name string, n int64) impl.Assignment {
	return impl.Assignment{Name: name, IsInt: true, Num: n}
}

func TestCaptureExamples(t *testing.T) {
	m := matched(0, 3, cond("x", "p", 1), now("y", "q", 2), cursor("x", 3))
	checkList(t, "AssignmentsOf", impl.AssignmentsOf(m), []impl.Assignment{text("y", "q"), num("x", 3), text("x", "p")})
	checkList(t, "ImmediateOf", impl.ImmediateOf(m), []impl.Assignment{text("y", "q"), num("x", 3)})
	checkList(t, "FinalOf", impl.FinalOf([]impl.Assignment{num("x", 1), num("y", 2), num("x", 3)}), []impl.Assignment{num("x", 3), num("y", 2)})
	checkReplaceMatch(t, "abcd", matched(1, 3), "x", "axd", impl.OK)
	checkReplaceAll(t, "example", nil, readPattern(t, "len(1)"), "ab", "x", 100, replaceResult{"xx", 2, impl.OK})
	checkReplaceAll(t, "example", nil, readPattern(t, `span("a")`), "aabaa", "-", 100, replaceResult{"-b-", 2, impl.OK})
	for _, s := range []string{"", "a", "abc"} {
		checkReplaceAll(t, "example", nil, readPattern(t, "arb"), s, "x", 100, replaceResult{s, 0, impl.OK})
	}
	checkEqual(t, "CaptureText", impl.CaptureText(now("x", "ab", 7)), `x:"ab"`)
}

// strangeKinds are kinds of captures that do not exist.
func strangeKinds() []int64 {
	return []int64{math.MinInt64, -1, 0, 4, 5, 257, 1<<32 + 1, 1<<32 + 2, 1<<32 + 3, math.MaxInt64}
}

// TestAssignmentsOf has captures of each kind, of none, and in mixed order.
func TestAssignmentsOf(t *testing.T) {
	for _, row := range []struct {
		captures        []impl.Capture
		immediate, last []impl.Assignment
	}{
		{nil, nil, nil},
		{[]impl.Capture{cond("x", "a", 1)}, nil, []impl.Assignment{text("x", "a")}},
		{[]impl.Capture{now("x", "a", 1)}, []impl.Assignment{text("x", "a")}, nil},
		{[]impl.Capture{cursor("x", 1)}, []impl.Assignment{num("x", 1)}, nil},
		{[]impl.Capture{cursor("x", 0)}, []impl.Assignment{num("x", 0)}, nil},
		{[]impl.Capture{now("x", "", 0), cond("y", "", 0)}, []impl.Assignment{text("x", "")}, []impl.Assignment{text("y", "")}},
		{[]impl.Capture{now("a", "1", 1), now("b", "2", 2), now("c", "3", 3)}, []impl.Assignment{text("a", "1"), text("b", "2"), text("c", "3")}, nil},
		{[]impl.Capture{cond("a", "1", 1), cond("b", "2", 2), cond("a", "3", 3)}, nil, []impl.Assignment{text("a", "1"), text("b", "2"), text("a", "3")}},
		{[]impl.Capture{cursor("b", 9), now("a", "1", 1), cursor("b", 2)}, []impl.Assignment{num("b", 9), text("a", "1"), num("b", 2)}, nil},
		{[]impl.Capture{cond("a", "1", 1), now("b", "2", 2), cond("c", "3", 3), cursor("d", 4), cond("e", "5", 5), now("f", "6", 6)}, []impl.Assignment{text("b", "2"), num("d", 4), text("f", "6")}, []impl.Assignment{text("a", "1"), text("c", "3"), text("e", "5")}},
		{[]impl.Capture{now("x", "same", 4), now("x", "same", 4), cond("x", "same", 4)}, []impl.Assignment{text("x", "same"), text("x", "same")}, []impl.Assignment{text("x", "same")}},
		// Captures that no match has.
		{[]impl.Capture{{Name: "x", Text: "ignored", Cursor: -12, Kind: impl.CaCursor}}, []impl.Assignment{num("x", -12)}, nil},
		{[]impl.Capture{cursor("x", math.MinInt64), cursor("x", math.MaxInt64)}, []impl.Assignment{num("x", math.MinInt64), num("x", math.MaxInt64)}, nil},
		{[]impl.Capture{now("", "a", 0), cond("no name", "\xff\x00", math.MaxInt64), cursor("", 1)}, []impl.Assignment{text("", "a"), num("", 1)}, []impl.Assignment{text("no name", "\xff\x00")}},
		{[]impl.Capture{cond("x", strings.Repeat("a", 201), 3)}, nil, []impl.Assignment{text("x", strings.Repeat("a", 201))}},
	} {
		for _, m := range []impl.Match{matched(0, 3, row.captures...), matched(-1, math.MinInt64, row.captures...), matched(math.MaxInt64, 0, row.captures...)} {
			checkList(t, fmt.Sprint("AssignmentsOf ", row.captures), impl.AssignmentsOf(m), slices.Concat(row.immediate, row.last))
			checkList(t, fmt.Sprint("ImmediateOf ", row.captures), impl.ImmediateOf(m), row.immediate)
		}
	}
	for _, kind := range strangeKinds() {
		strange := impl.Capture{Name: "x", Text: "a", Cursor: 1, Kind: kind}
		checkList(t, fmt.Sprint("kind ", kind), impl.AssignmentsOf(matched(0, 1, strange)), nil)
		checkList(t, fmt.Sprint("kind ", kind), impl.ImmediateOf(matched(0, 1, strange)), nil)
		m := matched(0, 1, strange, cond("y", "b", 2), strange, now("z", "c", 3), strange)
		checkList(t, fmt.Sprint("kind ", kind), impl.AssignmentsOf(m), []impl.Assignment{text("z", "c"), text("y", "b")})
		checkList(t, fmt.Sprint("kind ", kind), impl.ImmediateOf(m), []impl.Assignment{text("z", "c")})
	}
}

// TestManyAssignments has MaxCaptures captures, and many more.
func TestManyAssignments(t *testing.T) {
	for _, n := range []int{100, 101, 50000} {
		var captures []impl.Capture
		var immediate, last, final []impl.Assignment
		for i := range n {
			name := fmt.Sprint("n", i)
			captures = append(captures, cond(name, "c", 1), cursor(name, int64(i)))
			immediate, last = append(immediate, num(name, int64(i))), append(last, text(name, "c"))
			final = append(final, text(name, "c"))
		}
		all := impl.AssignmentsOf(matched(0, 1, captures...))
		checkEqual(t, fmt.Sprint("AssignmentsOf ", n), slices.Equal(all, slices.Concat(immediate, last)), true)
		checkEqual(t, fmt.Sprint("ImmediateOf ", n), slices.Equal(impl.ImmediateOf(matched(0, 1, captures...)), immediate), true)
		checkEqual(t, fmt.Sprint("FinalOf ", n), slices.Equal(impl.FinalOf(all), final), true)
	}
}

// TestNoGoroutineIsLeft checks that no function of the package is running when the functions of this chapter have returned.
func TestNoGoroutineIsLeft(t *testing.T) {
	m := matched(0, 1, cond("x", "a", 1), now("y", "b", 1), cursor("z", 1))
	for range 2000 {
		impl.AssignmentsOf(m)
		impl.ImmediateOf(m)
		impl.FinalOf(impl.AssignmentsOf(m))
		impl.ReplaceAll(nil, bare(impl.PtRem), "ab", "c", 10)
	}
	stacks := make([]byte, 1<<20)
	isLeft := true
	for try := 0; isLeft && try < 10000; try++ {
		runtime.Gosched()
		isLeft = strings.Contains(string(stacks[:runtime.Stack(stacks, true)]), "g00873/impl.")
	}
	checkEqual(t, "a goroutine is left", isLeft, false)
}

func TestFinalOf(t *testing.T) {
	for _, row := range []struct{ list, want []impl.Assignment }{
		{nil, nil},
		{[]impl.Assignment{}, nil},
		{[]impl.Assignment{text("x", "a")}, []impl.Assignment{text("x", "a")}},
		{[]impl.Assignment{text("x", "a"), text("x", "a")}, []impl.Assignment{text("x", "a")}},
		{[]impl.Assignment{text("x", "a"), num("x", 1), text("x", "b")}, []impl.Assignment{text("x", "b")}},
		{[]impl.Assignment{text("x", "a"), text("x", "b"), num("x", 1)}, []impl.Assignment{num("x", 1)}},
		{[]impl.Assignment{text("y", "1"), text("x", "2")}, []impl.Assignment{text("y", "1"), text("x", "2")}},
		{[]impl.Assignment{text("x", "1"), text("y", "2"), text("x", "3")}, []impl.Assignment{text("x", "3"), text("y", "2")}},
		{[]impl.Assignment{text("x", "1"), text("y", "2"), text("y", "3"), text("z", "4"), text("x", "5"), text("z", "6")}, []impl.Assignment{text("x", "5"), text("y", "3"), text("z", "6")}},
		{[]impl.Assignment{text("x", "1"), text("X", "2"), text("x ", "3"), text("", "4"), text("x", "5"), text("", "6")}, []impl.Assignment{text("x", "5"), text("X", "2"), text("x ", "3"), text("", "6")}},
		// Assignments that no capture has.
		{[]impl.Assignment{{Name: "x", Text: "a", IsInt: true, Num: math.MinInt64}, {Name: "y", Num: -1}}, []impl.Assignment{{Name: "x", Text: "a", IsInt: true, Num: math.MinInt64}, {Name: "y", Num: -1}}},
		{[]impl.Assignment{{}, {Num: math.MaxInt64}, {}}, []impl.Assignment{{}}},
	} {
		checkList(t, fmt.Sprint(row.list), impl.FinalOf(row.list), row.want)
		checkList(t, "twice", impl.FinalOf(row.want), row.want)
	}
}

func checkReplaceMatch(t *testing.T, subject string, m impl.Match, text, want string, code int64) {
	t.Helper()
	got, gotCode := impl.ReplaceMatch(subject, m, text)
	if got != want || gotCode != code {
		t.Errorf("ReplaceMatch(%.60q, %v, %.60q): got %.300q and %d, want %.300q and %d", subject, m, text, got, gotCode, want, code)
	}
}

// TestPartsOfSubjects has matches that fit the subject, and matches that do not.
func TestPartsOfSubjects(t *testing.T) {
	long := strings.Repeat("a", 100000)
	for _, row := range []struct {
		subject       string
		start, end    int64
		before, after string
	}{
		{"", 0, 0, "", ""},
		{"abcd", 0, 0, "", "abcd"},
		{"abcd", 0, 1, "", "bcd"},
		{"abcd", 1, 1, "a", "bcd"},
		{"abcd", 1, 3, "a", "d"},
		{"abcd", 0, 4, "", ""},
		{"abcd", 4, 4, "abcd", ""},
		{"abcd", 3, 4, "abc", ""},
		{"\x00\xff", 1, 2, "\x00", ""},
		{"\u20ac", 1, 2, "\xe2", "\xac"},
		{long, 1, 99999, "a", "a"},
		{long, 99999, 100000, long[1:], ""},
	} {
		m := matched(row.start, row.end, cond("x", "unused", -5))
		checkEqual(t, "BeforeMatch", impl.BeforeMatch(row.subject, m), row.before)
		checkEqual(t, "AfterMatch", impl.AfterMatch(row.subject, m), row.after)
		if rest := row.before + row.after; len(rest) <= 200 {
			checkReplaceMatch(t, row.subject, m, "", rest, impl.OK)
		} else {
			checkReplaceMatch(t, row.subject, m, "", "", impl.ErrFull)
		}
	}
	for _, subject := range []string{"", "ab", "abcd", long} {
		n := int64(len(subject))
		for _, m := range []impl.Match{
			matched(-1, 0), matched(-1, -1), matched(0, -1), matched(0, n+1), matched(n, n+1), matched(n+1, n+1), matched(n+1, n), matched(n+1, 0),
			matched(math.MinInt64, 0), matched(math.MinInt64, math.MinInt64), matched(math.MinInt64, math.MaxInt64), matched(0, math.MinInt64), matched(0, math.MaxInt64), matched(math.MaxInt64, math.MaxInt64), matched(math.MaxInt64, 0), matched(math.MaxInt64, math.MinInt64), matched(-1, n), matched(1<<32, 1<<32), matched(1, 0), matched(n, n-1),
		} {
			checkEqual(t, "BeforeMatch", impl.BeforeMatch(subject, m), "")
			checkEqual(t, "AfterMatch", impl.AfterMatch(subject, m), "")
			checkReplaceMatch(t, subject, m, "x", "", impl.ErrRange)
			checkReplaceMatch(t, subject, m, long, "", impl.ErrRange)
		}
	}
}

// TestReplaceMatch has results of MaxString bytes, and of one more.
func TestReplaceMatch(t *testing.T) {
	a, x := strings.Repeat("a", 1000), strings.Repeat("x", 1000)
	for _, row := range []struct {
		subject    string
		start, end int64
		text, want string
		code       int64
	}{
		{"", 0, 0, "", "", impl.OK},
		{"", 0, 0, "x", "x", impl.OK},
		{"", 0, 0, x[:200], x[:200], impl.OK},
		{"", 0, 0, x[:201], "", impl.ErrFull},
		{"abcd", 0, 4, "", "", impl.OK},
		{"abcd", 0, 4, "xy", "xy", impl.OK},
		{"abcd", 0, 4, x[:200], x[:200], impl.OK},
		{"abcd", 0, 4, x[:201], "", impl.ErrFull},
		{"abcd", 1, 3, "", "ad", impl.OK},
		{"abcd", 1, 3, "bc", "abcd", impl.OK},
		{"abcd", 2, 2, "xy", "abxycd", impl.OK},
		{"abcd", 0, 0, "x", "xabcd", impl.OK},
		{"abcd", 4, 4, "x", "abcdx", impl.OK},
		{"abcd", 3, 4, "x", "abcx", impl.OK},
		{"abcd", 1, 3, x[:198], "a" + x[:198] + "d", impl.OK},
		{"abcd", 1, 3, x[:199], "", impl.ErrFull},
		{"abcd", 4, 4, x[:196], "abcd" + x[:196], impl.OK},
		{"abcd", 4, 4, x[:197], "", impl.ErrFull},
		{a[:200], 0, 0, "", a[:200], impl.OK},
		{a[:200], 0, 0, "x", "", impl.ErrFull},
		{a[:200], 199, 200, "x", a[:199] + "x", impl.OK},
		// Only the result is limited.
		{a[:201], 0, 0, "", "", impl.ErrFull},
		{a[:201], 0, 1, "", a[:200], impl.OK},
		{a, 0, 1000, "x", "x", impl.OK},
		{a, 100, 900, "", a[:200], impl.OK},
		{a, 100, 900, "x", "", impl.ErrFull},
		{"ab", 0, 2, x, "", impl.ErrFull},
		{"a\x00\xff", 1, 2, "\xfe", "a\xfe\xff", impl.OK},
	} {
		checkReplaceMatch(t, row.subject, matched(row.start, row.end), row.text, row.want, row.code)
		checkReplaceMatch(t, row.subject, matched(row.start, row.end, now("x", "unused", 7), impl.Capture{Kind: 99}), row.text, row.want, row.code)
	}
}

func TestReplaceAll(t *testing.T) {
	env := named(t, "x", `alt("a",cat("b",defer(x)))`, "loop", "defer(loop)")
	for _, row := range []struct {
		pattern, subject, text string
		want                   replaceResult
	}{
		{"len(1)", "", "x", replaceResult{"", 0, impl.OK}},
		{"rem", "", "x", replaceResult{"", 0, impl.OK}},
		{"len(1)", "abc", "", replaceResult{"", 3, impl.OK}},
		{"len(1)", "abc", "xy", replaceResult{"xyxyxy", 3, impl.OK}},
		{"len(2)", "abc", "-", replaceResult{"-c", 1, impl.OK}},
		{"len(3)", "abc", "-", replaceResult{"-", 1, impl.OK}},
		{"len(4)", "abc", "-", replaceResult{"abc", 0, impl.OK}},
		{"rem", "abc", "-", replaceResult{"-", 1, impl.OK}},
		{"rem", "abc", "", replaceResult{"", 1, impl.OK}},
		{`"a"`, "abca", "", replaceResult{"bc", 2, impl.OK}},
		{`"a"`, "abca", "a", replaceResult{"abca", 2, impl.OK}},
		{`"a"`, "aaa", "aa", replaceResult{"aaaaaa", 3, impl.OK}},
		{`"aa"`, "aaaaa", "b", replaceResult{"bba", 2, impl.OK}},
		{`"ab"`, "aabb", "", replaceResult{"ab", 1, impl.OK}},
		{`"c"`, "abc", "-", replaceResult{"ab-", 1, impl.OK}},
		{`"d"`, "abc", "-", replaceResult{"abc", 0, impl.OK}},
		{"fail", "abc", "-", replaceResult{"abc", 0, impl.OK}},
		{`alt("a","ab")`, "abab", "", replaceResult{"bb", 2, impl.OK}},
		{`alt("ab","a")`, "abab", "", replaceResult{"", 2, impl.OK}},
		{"bal", "(a)b", "#", replaceResult{"##", 2, impl.OK}},
		{"bal", "(a", "#", replaceResult{"(#", 1, impl.OK}},
		{`break("b")`, "aab", "-", replaceResult{"-b", 1, impl.OK}},
		{`cat(break("b"),"b")`, "aabbab", "-", replaceResult{"---", 3, impl.OK}},
		{`span("a")`, "baab", "-", replaceResult{"b-b", 1, impl.OK}},
		{`notany("a")`, "abca", "-", replaceResult{"a--a", 2, impl.OK}},

		// What comes first counts, also if it is empty and a longer match follows.
		{`""`, "ab", "-", replaceResult{"ab", 0, impl.OK}},
		{"arb", "ab", "-", replaceResult{"ab", 0, impl.OK}},
		{`arbno("a")`, "aa", "-", replaceResult{"aa", 0, impl.OK}},
		{`alt("","a")`, "aa", "-", replaceResult{"aa", 0, impl.OK}},
		{`alt("a","")`, "aba", "-", replaceResult{"-b-", 2, impl.OK}},
		{`alt(span("a"),"")`, "baabca", "-", replaceResult{"b-bc-", 2, impl.OK}},
		{"len(0)", "ab", "-", replaceResult{"ab", 0, impl.OK}},
		{"succeed", "ab", "-", replaceResult{"ab", 0, impl.OK}},
		{`break("b")`, "bab", "-", replaceResult{"b-b", 1, impl.OK}},
		{"tab(2)", "abcd", "-", replaceResult{"-cd", 1, impl.OK}},
		{"rtab(1)", "abcd", "-", replaceResult{"-d", 1, impl.OK}},
		{"cat(arb,\"c\")", "abcdc", "-", replaceResult{"--", 2, impl.OK}},

		// Cursors are those of the whole subject, and every cursor is tried on its own.
		{`cat(pos(1),len(1))`, "aaa", "-", replaceResult{"a-a", 1, impl.OK}},
		{`cat("a",rpos(0))`, "aa", "-", replaceResult{"a-", 1, impl.OK}},
		{`cat(rpos(2),len(1))`, "aaa", "-", replaceResult{"a-a", 1, impl.OK}},
		{`cat(pos(2),"")`, "aaa", "-", replaceResult{"aaa", 0, impl.OK}},
		{`alt("b",abort)`, "abab", "-", replaceResult{"a-a-", 2, impl.OK}},
		{`cat(fence,"b")`, "abab", "-", replaceResult{"a-a-", 2, impl.OK}},
		{`cat(alt("a","ab"),cat(fence,"b"))`, "abb", "-", replaceResult{"-b", 1, impl.OK}},
		{`cat(alt("a","ab"),cat(fence,"c"))`, "abc", "-", replaceResult{"abc", 0, impl.OK}},
		{"abort", "ab", "-", replaceResult{"ab", 0, impl.OK}},
		{`cat(succeed,"a")`, "aa", "-", replaceResult{"--", 2, impl.OK}},
		{`cat(now(len(1),v),cursor(w))`, "ab", "-", replaceResult{"--", 2, impl.OK}},
		{"defer(x)", "cbabba", "-", replaceResult{"c--", 2, impl.OK}},
		{`alt("a",defer(q))`, "aa", "-", replaceResult{"--", 2, impl.OK}},

		{"defer(q)", "", "-", replaceResult{"", 0, impl.OK}},
		{"defer(q)", "a", "-", replaceResult{code: impl.ErrUndefined}},
		{`alt("a",defer(q))`, "aab", "-", replaceResult{code: impl.ErrUndefined}},
		{"defer(loop)", "a", "-", replaceResult{code: impl.ErrSteps}},
		{"defer(loop)", "", "-", replaceResult{"", 0, impl.OK}},
		{`cat(succeed,"a")`, "ab", "-", replaceResult{code: impl.ErrSteps}},
	} {
		p := readPattern(t, row.pattern)
		checkReplaceAll(t, "row", env, p, row.subject, row.text, 20000, row.want)
		model, steps := modelReplaceAll(env, p, row.subject, row.text, 20000)
		checkEqual(t, row.pattern+": the model", model, row.want)
		if row.want.code == impl.OK {
			checkReplaceAll(t, "exactly enough fuel for each cursor", env, p, row.subject, row.text, steps, row.want)
		}
		if steps > 0 {
			checkReplaceAll(t, "one step less", env, p, row.subject, row.text, steps-1, replaceResult{code: impl.ErrSteps})
		}
	}
}

// TestErrorsOfReplaceAll has the errors in their order.
func TestErrorsOfReplaceAll(t *testing.T) {
	rem, gone, long, loop := bare(impl.PtRem), texted(impl.PtDefer, "q"), strings.Repeat("a", 201), readPattern(t, `cat("b",succeed)`)
	check := func(what string, env []impl.Named, p impl.Pattern, subject, text string, fuel, code int64) {
		t.Helper()
		checkReplaceAll(t, what, env, p, subject, text, fuel, replaceResult{code: code})
	}
	badNumbers := []int64{math.MinInt64, -1 << 32, -1, 20001, 1<<32 + 5, math.MaxInt64}
	for _, fuel := range append(slices.Clone(badNumbers), 0, 1, 20000) {
		for i, env := range invalidEnvs() {
			for _, subject := range []string{"", "ab", long} {
				check(fmt.Sprint("invalid environment ", i), env, rem, subject, "x", fuel, impl.ErrInvalid)
				check(fmt.Sprint("invalid environment ", i), env, gone, subject, long, fuel, impl.ErrInvalid)
			}
		}
		for i, p := range invalidPatterns() {
			check(fmt.Sprint("invalid pattern ", i), nil, p, "ab", "x", fuel, impl.ErrInvalid)
			check(fmt.Sprint("invalid pattern ", i), nil, p, "", "", fuel, impl.ErrInvalid)
		}
		for _, p := range []impl.Pattern{rem, gone, bare(impl.PtFail)} {
			check("long subject", nil, p, long, "x", fuel, impl.ErrInvalid)
			check("long text", nil, p, "ab", long, fuel, impl.ErrInvalid)
			check("long text, no subject", nil, p, "", long, fuel, impl.ErrInvalid)
			check("very long subject and text", nil, p, strings.Repeat("a", 1000000), strings.Repeat("a", 1000000), fuel, impl.ErrInvalid)
		}
	}
	for _, fuel := range badNumbers {
		for _, p := range []impl.Pattern{rem, gone, bare(impl.PtSucceed), bare(impl.PtFail)} {
			check("fuel", nil, p, "aa", "x", fuel, impl.ErrRange)
			check("fuel, no subject", nil, p, "", "x", fuel, impl.ErrRange)
			check("fuel, long result", nil, p, "aa", long[:200], fuel, impl.ErrRange)
		}
	}
	check("no fuel", nil, rem, "a", "x", 0, impl.ErrSteps)
	check("no fuel for the end", nil, rem, "a", "x", 1, impl.ErrSteps)
	check("no fuel for the name", nil, gone, "a", "x", 0, impl.ErrSteps)
	check("fuel for the name", nil, gone, "a", "x", 1, impl.ErrUndefined)
	checkReplaceAll(t, "no subject, no fuel", nil, gone, "", "x", 0, replaceResult{"", 0, impl.OK})
	checkReplaceAll(t, "no fuel is needed for the end of the subject", nil, readPattern(t, "alt(len(1),defer(q))"), "ab", "x", 3, replaceResult{"xx", 2, impl.OK})

	// Errors during matching come first, also at later cursors than those at which the result became too long.
	check("long result", nil, numbered(impl.PtLen, 1), "ab", long[:101], 100, impl.ErrFull)
	check("undefined name behind a long result", nil, readPattern(t, `alt("a",defer(q))`), "aab", long[:200], 100, impl.ErrUndefined)
	check("steps behind a long result", nil, readPattern(t, `alt("a",cat("b",succeed))`), "aab", long[:200], 4, impl.ErrSteps)
	checkReplaceAll(t, "an empty match without end", nil, loop, "ab", "x", 100, replaceResult{"ax", 1, impl.OK})
}

// TestLimitsOfReplaceAll has MaxString, MaxMatchSteps, MaxCaptures, MaxNamed and MaxNodes reached exactly, and exceeded by one.
func TestLimitsOfReplaceAll(t *testing.T) {
	rem, one, full := bare(impl.PtRem), numbered(impl.PtLen, 1), strings.Repeat("a", 200)
	ok := func(s string, count int64) replaceResult { return replaceResult{s, count, impl.OK} }
	isFull := replaceResult{code: impl.ErrFull}
	checkReplaceAll(t, "a subject of MaxString bytes", nil, rem, full, "x", 2, ok("x", 1))
	checkReplaceAll(t, "a text of MaxString bytes", nil, rem, "ab", full, 2, ok(full, 1))
	checkReplaceAll(t, "both", nil, rem, full, full, 2, ok(full, 1))
	checkReplaceAll(t, "each byte", nil, one, full, "x", 2, ok(strings.Repeat("x", 200), 200))
	checkReplaceAll(t, "each byte by none", nil, one, full, "", 2, ok("", 200))
	checkReplaceAll(t, "a result of MaxString bytes", nil, one, full[:100], "xy", 2, ok(strings.Repeat("xy", 100), 100))
	checkReplaceAll(t, "a byte more", nil, one, full[:101], "xy", 2, isFull)
	checkReplaceAll(t, "a text too long by one byte", nil, one, full[:40], "xxxxxy", 2, isFull)
	checkReplaceAll(t, "a text that fits", nil, one, full[:40], "xxxxx", 2, ok(strings.Repeat("x", 200), 40))
	checkReplaceAll(t, "a kept byte more", nil, texted(impl.PtString, "a"), "a"+"b", full, 2, isFull)
	checkReplaceAll(t, "a kept byte that fits", nil, texted(impl.PtString, "a"), "a"+"b", full[:199], 2, ok(full[:199]+"b", 1))
	checkReplaceAll(t, "a kept byte before", nil, texted(impl.PtString, "b"), "ab", full, 2, isFull)
	checkReplaceAll(t, "the longest result", nil, one, full, full, 2, isFull)
	checkReplaceAll(t, "nothing is replaced", nil, bare(impl.PtFail), full, full, 1, ok(full, 0))

	many := envOf(rem, numberedNames(40)...)
	checkReplaceAll(t, "MaxNamed", many, texted(impl.PtDefer, "n39"), "ab", "x", 3, ok("x", 1))
	checkReplaceAll(t, "one name more", envOf(rem, numberedNames(41)...), rem, "ab", "x", 3, replaceResult{code: impl.ErrInvalid})
	checkReplaceAll(t, "MaxNodes", nil, stacked(59, rem), "ab", "x", 100, ok("ab", 0))
	checkReplaceAll(t, "one node more", nil, stacked(60, rem), "ab", "x", 100, replaceResult{code: impl.ErrInvalid})

	for _, row := range []struct{ last, steps, code int64 }{{102, 19999, impl.OK}, {101, 20000, impl.OK}, {100, 20000, impl.ErrSteps}} {
		p := readPattern(t, fmt.Sprintf("alt(cat(arb,cat(arb,fail)),cat(len(%d),cat(arb,fail)))", row.last))
		want := ok(full[:196], 0)
		if row.code != impl.OK {
			want = replaceResult{code: row.code}
		}
		checkReplaceAll(t, "MaxMatchSteps", nil, p, full[:196], "x", 20000, want)
		checkReplaceAll(t, "one less", nil, p, full[:196], "x", row.steps-1, replaceResult{code: impl.ErrSteps})
	}
	for _, n := range []int{99, 100, 101} {
		for _, text := range []string{"cat(arbno(cond(len(1),x)),rpos(0))", "cat(arbno(now(len(1),x)),rpos(0))", "cat(arbno(cat(len(1),cursor(x))),rpos(0))"} {
			want := ok("x", 1)
			if n > 100 {
				want = isFull
			}
			checkReplaceAll(t, "MaxCaptures", nil, readPattern(t, text), full[:n], "x", 20000, want)
		}
	}
	for _, text := range []string{"now(len(1),v)", "cond(len(1),v)", "cat(cursor(v),len(1))", `cat(now(len(1),v),"b")`} {
		want, _ := modelReplaceAll(nil, readPattern(t, text), full, "x", 100)
		checkEqual(t, text, want.code, impl.OK)
		checkReplaceAll(t, "captures at each cursor", nil, readPattern(t, text), full, "x", 100, want)
	}
}

func TestCaptureText(t *testing.T) {
	long := strings.Repeat(`a"`, 1000)
	for _, row := range []struct {
		c    impl.Capture
		want string
	}{
		{cond("x", "ab", 2), `x:"ab"`},
		{now("x", "ab", 2), `x:"ab"`},
		{cond("x", "", 0), `x:""`},
		{now("LONGNAME_123", `a"b`, 0), `LONGNAME_123:"a""b"`},
		{cond("x", `"`, -1), `x:""""`},
		{cond("x", `a""`, 0), `x:"a"""""`},
		{now("x", "\x00\n\xff", math.MinInt64), "x:\"\x00\n\xff\""},
		{now("", "a", 0), `:"a"`},
		{cond("a:b", ":", 0), `a:b:":"`},
		{cond("x", "7", 8), `x:"7"`},
		{now("x", long, 0), `x:"` + strings.Repeat(`a""`, 1000) + `"`},
		{cursor("x", 0), "x:0"},
		{cursor("x", 7), "x:7"},
		{cursor("x", 200), "x:200"},
		{cursor("x", -12), "x:-12"},
		{cursor("", 10), ":10"},
		{cursor("x", math.MaxInt64), "x:9223372036854775807"},
		{cursor("x", math.MinInt64), "x:-9223372036854775808"},
		{impl.Capture{Name: "x", Text: "ignored", Cursor: 3, Kind: impl.CaCursor}, "x:3"},
	} {
		checkEqual(t, fmt.Sprint(row.c.Name, row.c.Kind, row.c.Cursor), impl.CaptureText(row.c), row.want)
	}
	for _, kind := range strangeKinds() {
		checkEqual(t, fmt.Sprint("kind ", kind), impl.CaptureText(impl.Capture{Name: "x", Text: "a", Cursor: 1, Kind: kind}), "")
	}
}
