package tests

import (
	"fmt"
	"math"
	"slices"
	"strings"
	"sync"
	"testing"

	"loop.example/g00873/impl"
)

// The tests of this file are promise 1 for the functions of chapters 15 and 16.

// pruningCase has arguments of the functions of pruning and captures.
type pruningCase struct {
	patternCase
	list []impl.Assignment
	text string
}

// pruningResult is all that a function returns.
type pruningResult struct {
	patternResult
	patterns []impl.Pattern
	list     []impl.Assignment
}

// pruningFunctions are all functions of chapters 15 and 16.
func pruningFunctions() map[string]func(c pruningCase) pruningResult {
	functions := map[string]func(c pruningCase) pruningResult{
		"LengthsOf": func(c pruningCase) pruningResult {
			lengths, code := impl.LengthsOf(c.env, c.p)
			return simpleResult(lengths, code)
		},
		"FirstBytes": func(c pruningCase) pruningResult {
			first, code := impl.FirstBytes(c.env, c.p)
			return simpleResult(first, code)
		},
		"IsPure": func(c pruningCase) pruningResult {
			return simpleResult(impl.IsPure(c.env, c.p))
		},
		"SimplifyPattern": func(c pruningCase) pruningResult {
			return pruningResult{patternResult: patternResult{p: impl.SimplifyPattern(c.p)}}
		},
		"JoinPatterns": func(c pruningCase) pruningResult {
			var r pruningResult
			var rest []bool
			for _, q := range append(slices.Clone(c.patternCase.list), c.p) {
				before, ok := impl.JoinPatterns(c.p, q)
				behind, okBehind := impl.JoinPatterns(q, c.p)
				r.patterns = append(r.patterns, before, behind)
				rest = append(rest, ok, okBehind)
			}
			r.rest = fmt.Sprint(rest)
			return r
		},
		"ReplaceAll": func(c pruningCase) pruningResult {
			s, count, code := impl.ReplaceAll(c.env, c.p, c.s, c.text, c.n)
			return simpleResult(s, count, code)
		},
		"FinalOf": func(c pruningCase) pruningResult {
			return pruningResult{list: impl.FinalOf(c.list)}
		},
	}
	for _, anchored := range []bool{true, false} {
		addMatchingFunctions(functions, anchored)
	}
	for i := range 4 {
		addCaptureFunctions(functions, i)
	}
	return functions
}

func simpleResult(results ...any) pruningResult {
	return pruningResult{patternResult: patternResult{rest: fmt.Sprint(results...)}}
}

func addMatchingFunctions(functions map[string]func(c pruningCase) pruningResult, anchored bool) {
	functions[fmt.Sprint("CandidateStarts ", anchored)] = func(c pruningCase) pruningResult {
		starts, code := impl.CandidateStarts(c.env, c.p, c.s, anchored)
		return pruningResult{patternResult: patternResult{ends: starts, rest: fmt.Sprint(code)}}
	}
	functions[fmt.Sprint("PrunedMatches ", anchored)] = func(c pruningCase) pruningResult {
		matches, code := impl.PrunedMatches(c.env, c.p, c.s, anchored, c.n)
		return pruningResult{patternResult: patternResult{matches: matches, rest: fmt.Sprint(code)}}
	}
	functions[fmt.Sprint("PrunedFirst ", anchored)] = func(c pruningCase) pruningResult {
		r := prunedFirst(c.env, c.p, c.s, anchored, c.n)
		return pruningResult{patternResult: patternResult{matches: []impl.Match{r.match}, rest: fmt.Sprint(r.found, r.steps, r.code)}}
	}
}

// addCaptureFunctions adds the functions that have a match, with the match of a case that has an index, if there is one.
func addCaptureFunctions(functions map[string]func(c pruningCase) pruningResult, i int) {
	match := func(c pruningCase) impl.Match { return c.matches[i%len(c.matches)] }
	functions[fmt.Sprint("AssignmentsOf ", i)] = func(c pruningCase) pruningResult {
		return pruningResult{list: impl.AssignmentsOf(match(c))}
	}
	functions[fmt.Sprint("ImmediateOf ", i)] = func(c pruningCase) pruningResult {
		return pruningResult{list: impl.ImmediateOf(match(c))}
	}
	functions[fmt.Sprint("BeforeMatch and AfterMatch ", i)] = func(c pruningCase) pruningResult {
		return simpleResult(impl.BeforeMatch(c.s, match(c)), ",", impl.AfterMatch(c.s, match(c)))
	}
	functions[fmt.Sprint("ReplaceMatch ", i)] = func(c pruningCase) pruningResult {
		s, code := impl.ReplaceMatch(c.s, match(c), c.text)
		return simpleResult(s, code)
	}
	functions[fmt.Sprint("CaptureText ", i)] = func(c pruningCase) pruningResult {
		var r pruningResult
		for _, x := range match(c).Captures {
			r.rest += impl.CaptureText(x) + ","
		}
		return r
	}
}

func equalPruningResults(a, b pruningResult) bool {
	return equalPatternResults(a.patternResult, b.patternResult) && slices.EqualFunc(a.patterns, b.patterns, equalPatterns) && slices.Equal(a.list, b.list)
}

// pruningCases returns arguments, valid and invalid ones, and some that share memory with each other.
func pruningCases(t *testing.T) []pruningCase {
	t.Helper()
	assignments := []impl.Assignment{text("x", "a"), num("y", 1), text("x", "b"), {Name: "", Text: "both", IsInt: true, Num: math.MinInt64}, num("x", math.MaxInt64), {}}
	captures := []impl.Capture{cond("x", "a", 1), now("y", "b", 2), cursor("x", 3), {Name: "z", Kind: 9}, {Name: "", Text: "\xff", Cursor: math.MinInt64, Kind: impl.CaCursor}, now("x", `"`, -1), cond("y", "c", 7)}
	matches := []impl.Match{matched(0, 2, captures...), matched(1, 1, captures[2:5]...), matched(2, 1, captures[:3]...), matched(math.MinInt64, math.MaxInt64, captures[1:]...)}
	var cases []pruningCase
	for i, c := range patternCases(t) {
		c.matches = append(slices.Clone(matches[i%5%4:]), c.matches...)
		cases = append(cases, pruningCase{c, assignments[i%3 : 3+i%4], []string{"", "x", "ab", strings.Repeat("y", 200), strings.Repeat("y", 201)}[i%5]})
	}
	str, rem := texted(impl.PtString, "a"), bare(impl.PtRem)
	shared := []impl.Pattern{str, tree(impl.PtCat, rem, str)}
	env := []impl.Named{{Name: "x", Pattern: tree(impl.PtAlt, shared...)}, {Name: "y", Pattern: tree(impl.PtAlt, shared...)}}
	// The same memory several times, also in what remains when the pattern is simplified.
	for _, p := range []impl.Pattern{
		tree(impl.PtCat, shared...), tree(impl.PtCat, tree(impl.PtAlt, shared...), tree(impl.PtAlt, shared...)), tree(impl.PtAlt, tree(impl.PtAlt, shared...), tree(impl.PtAlt, shared...)), tree(impl.PtCat, tree(impl.PtCat, shared...), tree(impl.PtCat, shared...)),
		tree(impl.PtAlt, bare(impl.PtFail), tree(impl.PtCat, shared...)), tree(impl.PtCat, texted(impl.PtString, ""), tree(impl.PtAlt, shared...)), capturing(impl.PtCond, tree(impl.PtArbno, shared[1]), "v"), sharedPattern(4), readPattern(t, `alt(cat("a",defer(x)),cat(defer(y),arbno(defer(x))))`),
		{Kind: impl.PtRem, Kids: make([]impl.Pattern, 0, 3)}, {Kind: impl.PtString, Text: "ab", Kids: []impl.Pattern{}}, tree(impl.PtCat, impl.Pattern{Kind: impl.PtArb, Kids: make([]impl.Pattern, 0, 2)}, impl.Pattern{Kind: impl.PtString, Text: "b", Kids: make([]impl.Pattern, 0, 1)}),
	} {
		for _, s := range []string{"", "aab", "baa"} {
			c := patternCase{p: p, list: []impl.Pattern{p, shared[0], shared[1], p}, env: env, s: s, n: 300, matches: matches}
			cases = append(cases, pruningCase{c, assignments, "xy"})
		}
	}
	return cases
}

// copyPruningCase returns an equal case that shares no memory, not even that of texts.
func copyPruningCase(c pruningCase) pruningCase {
	c.patternCase = copyPatternCase(c.patternCase)
	c.list = slices.Clone(c.list)
	for i, x := range c.list {
		c.list[i].Name, c.list[i].Text = strings.Clone(x.Name), strings.Clone(x.Text)
	}
	for _, m := range c.matches {
		for i, x := range m.Captures {
			m.Captures[i].Name, m.Captures[i].Text = strings.Clone(x.Name), strings.Clone(x.Text)
		}
	}
	c.text = strings.Clone(c.text)
	return c
}

// roomyPruningCase returns an equal case, each of whose lists has unused elements behind it.
func roomyPruningCase(c pruningCase) pruningCase {
	c.patternCase = roomyPatternCase(c.patternCase)
	c.list, _ = backing(c.list, text("unused", "unused"))
	return c
}

func TestPruningFunctionsArePure(t *testing.T) {
	t.Parallel()
	cases := pruningCases(t)
	for what, call := range pruningFunctions() {
		for i, c := range cases {
			roomy := roomyPruningCase(c)
			memory := listsOf(roomy.patternCase)
			before, list := memory.copied(), slices.Clone(roomy.list[:cap(roomy.list)])
			first := call(roomy)
			if !equalPruningResults(call(roomy), first) || !equalPruningResults(call(copyPruningCase(c)), first) {
				t.Errorf("%s: another result for case %d: %.500q", what, i, fmt.Sprint(c))
			}
			if !memory.sameAs(before) || !slices.Equal(roomy.list[:cap(roomy.list)], list) {
				t.Errorf("%s modified its arguments: case %d: %.500q", what, i, fmt.Sprint(c))
			}
		}
	}
}

func TestNilAndEmptyListsOfPruningAreEquivalent(t *testing.T) {
	cases := pruningCases(t)
	for what, call := range pruningFunctions() {
		for i, c := range cases {
			other := copyPruningCase(c)
			other.p = otherEmptyPattern(other.p)
			other.patternCase.list = otherEmptyPattern(impl.Pattern{Kids: other.patternCase.list}).Kids
			other.env, other.list = otherEmpty(other.env), otherEmpty(other.list)
			for k, x := range other.env {
				other.env[k].Pattern = otherEmptyPattern(x.Pattern)
			}
			for k, m := range other.matches {
				other.matches[k].Captures = otherEmpty(m.Captures)
			}
			if !equalPruningResults(call(c), call(other)) {
				t.Errorf("%s: another result for case %d: %.500q", what, i, fmt.Sprint(c))
			}
		}
	}
}

// addPruningResult adds the memory of a result, and reports whether none of it was there before.
func (m patternMemory) addPruningResult(r pruningResult) bool {
	fresh := m.addResult(r.patternResult)
	for _, p := range r.patterns {
		fresh = m.addPattern(p) && fresh
	}
	return isNew(m, r.list) && fresh
}

// TestResultsOfPruningFunctionsAreNew checks that all lists of results share no memory with each other or with arguments.
func TestResultsOfPruningFunctionsAreNew(t *testing.T) {
	t.Parallel()
	elements := map[string]int{}
	cases := pruningCases(t)
	for what, call := range pruningFunctions() {
		for i, c := range cases {
			for _, c := range []pruningCase{c, roomyPruningCase(c)} {
				memory := patternMemory{}
				isNew(memory, c.env)
				isNew(memory, c.list)
				memory.addPattern(c.p)
				memory.addPattern(impl.Pattern{Kids: c.patternCase.list})
				for _, x := range c.env {
					memory.addPattern(x.Pattern)
				}
				memory.addResult(patternResult{matches: c.matches})
				before := len(memory)
				if !memory.addPruningResult(call(c)) || !memory.addPruningResult(call(c)) {
					t.Errorf("%s: results share memory: case %d: %.500q", what, i, fmt.Sprint(c))
				}
				elements[what] += len(memory) - before
			}
		}
	}
	for _, what := range []string{"SimplifyPattern", "JoinPatterns", "CandidateStarts false", "PrunedMatches false", "PrunedFirst true", "AssignmentsOf 0", "ImmediateOf 1", "FinalOf"} {
		if elements[what] < 1000 {
			t.Errorf("%s: only %d elements were returned", what, elements[what])
		}
	}
}

// TestPruningResultsAreCopies changes what was returned, and calls the functions again.
func TestPruningResultsAreCopies(t *testing.T) {
	cases := pruningCases(t)
	for what, call := range pruningFunctions() {
		for i, c := range cases {
			want := call(copyPruningCase(c))
			got := call(c)
			memory := lists{}
			for _, p := range append(got.patterns, got.p) {
				memory.addPattern(p)
			}
			memory.addMatches(got.matches)
			for _, list := range memory.patterns {
				overwrite(list, texted(77, "changed"))
			}
			for _, list := range memory.captures {
				overwrite(list, impl.Capture{Name: "changed"})
			}
			for _, list := range memory.matches {
				overwrite(list, matched(77, 77))
			}
			overwrite(got.ends[:cap(got.ends)], 77)
			overwrite(got.list[:cap(got.list)], text("changed", ""))
			if !equalPruningResults(call(c), want) {
				t.Errorf("%s: another result for case %d: %.500q", what, i, fmt.Sprint(c))
			}
		}
	}
}

// TestFailuresOfPruningFunctions checks that nothing but the code is left of a
// call that fails, unless there are too many matches.
func TestFailuresOfPruningFunctions(t *testing.T) {
	codes := map[int64]int{}
	for i, c := range pruningCases(t) {
		what := fmt.Sprint("case ", i)
		isInvalid := !impl.ValidEnv(c.env) || !impl.ValidPattern(c.p)
		static := staticOf(t, c.env, c.p)
		checkEqual(t, what+": ErrInvalid", static.code == impl.ErrInvalid, isInvalid)
		if static.code != impl.OK {
			checkEqual(t, what, static, staticResult{code: static.code})
		}
		if !impl.ValidPattern(c.p) {
			checkSimple(t, what, c.p, impl.Pattern{})
		}
		for _, q := range c.patternCase.list {
			if joined, ok := impl.JoinPatterns(c.p, q); !ok {
				checkPattern(t, what, joined, impl.Pattern{})
			}
		}
		isInvalid = isInvalid || len(c.s) > 200
		codes[static.code]++
		for _, anchored := range []bool{true, false} {
			starts, code := impl.CandidateStarts(c.env, c.p, c.s, anchored)
			checkEqual(t, what+": CandidateStarts", code == impl.OK || len(starts) == 0, true)
			checkEqual(t, what+": ErrInvalid", code == impl.ErrInvalid, isInvalid)
			r := prunedFirst(c.env, c.p, c.s, anchored, c.n)
			if r.code != impl.OK {
				checkEqual(t, what+": PrunedFirst", equalFirst(r, firstResult{code: r.code}), true)
			}
			matches, code := impl.PrunedMatches(c.env, c.p, c.s, anchored, c.n)
			checkEqual(t, what+": PrunedMatches", code == impl.OK || code == impl.ErrFull && len(matches) == 60 || len(matches) == 0, true)
			for _, code := range []int64{r.code, code} {
				codes[code]++
				checkEqual(t, what+": ErrInvalid", code == impl.ErrInvalid, isInvalid)
				checkEqual(t, what+": ErrRange", code == impl.ErrRange, !isInvalid && (c.n < 0 || c.n > 20000))
			}
		}
		isInvalid = isInvalid || len(c.text) > 200
		replaced := replaceAll(c.env, c.p, c.s, c.text, c.n)
		codes[replaced.code]++
		if replaced.code != impl.OK {
			checkEqual(t, what+": ReplaceAll", replaced, replaceResult{code: replaced.code})
		}
		checkEqual(t, what+": ErrInvalid", replaced.code == impl.ErrInvalid, isInvalid)
		checkEqual(t, what+": ErrRange", replaced.code == impl.ErrRange, !isInvalid && (c.n < 0 || c.n > 20000))
		for _, m := range c.matches {
			s, code := impl.ReplaceMatch(c.s, m, c.text)
			checkEqual(t, what+": ReplaceMatch", code == impl.OK || s == "", true)
		}
	}
	for _, code := range []int64{impl.OK, impl.ErrInvalid, impl.ErrRange, impl.ErrSteps, impl.ErrUndefined, impl.ErrFull} {
		if codes[code] < 5 {
			t.Errorf("the code %d was returned only %d times", code, codes[code])
		}
	}
}

// TestPruningFunctionsWithStrangeArguments has patterns that are deep, without
// end or very large, texts of any bytes, and the least and the greatest numbers.
func TestPruningFunctionsWithStrangeArguments(t *testing.T) {
	rem, long := bare(impl.PtRem), strings.Repeat("arbno(", 50000)
	patterns := []impl.Pattern{
		rem, endlessPattern(1), endlessPattern(100), sharedPattern(200), stacked(5000, rem), tree(impl.PtCat, rem, stacked(5000, rem)), tree(impl.PtAlt, make([]impl.Pattern, 10000)...), tree(impl.PtAlt, rem, tree(impl.PtAlt, endlessPattern(2), rem)),
		texted(impl.PtString, long), texted(impl.PtDefer, long), {Kind: math.MinInt64, Num: math.MaxInt64, Text: "\xff", Kids: []impl.Pattern{endlessPattern(3)}},
	}
	numbers := []int64{math.MinInt64, math.MinInt64 + 1, -1, 0, 1, 1 << 32, math.MaxInt64 - 1, math.MaxInt64}
	var cases []pruningCase
	for i, p := range patterns {
		for k, n := range numbers {
			captures := []impl.Capture{{Name: long, Text: long, Cursor: n, Kind: impl.CaNow}, {Cursor: n, Kind: impl.CaCursor}, {Cursor: n, Kind: n}, {Text: "\xff\x00", Cursor: n, Kind: impl.CaCond}}
			matches := []impl.Match{matched(n, n, captures...), matched(n, numbers[7-k], captures...), matched(0, n), matched(n, 1)}
			list := []impl.Assignment{{Name: long, Text: long, Num: n}, {IsInt: true, Num: n}, {Name: long, Num: n}}
			c := patternCase{p, []impl.Pattern{rem, p}, []impl.Named{{Name: "x", Pattern: rem}, {Name: "y", Pattern: p}}, []string{"", "ab", long}[(i+k)%3], n, matches}
			cases = append(cases, pruningCase{c, list, []string{"x", long}[i%2]})
			c.env, c.s = envOf(p, numberedNames(1+k*13)...), "ab"
			cases = append(cases, pruningCase{c, list, "x"})
			c.p = rem
			cases = append(cases, pruningCase{c, list, "x"})
		}
	}
	for what, call := range pruningFunctions() {
		for i, c := range cases {
			if !equalPruningResults(call(c), call(c)) {
				t.Errorf("%s: another result for case %d", what, i)
			}
		}
	}
	for i, s := range strangeTexts() {
		m := matched(0, int64(len(s)), cond(s, s, 1), now(s, s, 2), cursor(s, 3))
		checkList(t, "AssignmentsOf", impl.AssignmentsOf(m), []impl.Assignment{text(s, s), num(s, 3), text(s, s)})
		checkList(t, "FinalOf", impl.FinalOf([]impl.Assignment{num(s, 1), text(s, s)}), []impl.Assignment{text(s, s)})
		checkEqual(t, "CaptureText", impl.CaptureText(m.Captures[2]), s+":3")
		checkEqual(t, "BeforeMatch and AfterMatch", impl.BeforeMatch(s, m)+impl.AfterMatch(s, m), "")
		checkReplaceMatch(t, s, m, "", "", impl.OK)
		first := staticResult{int64(len(s)), int64(len(s)), s[:min(len(s), 1)], true, impl.OK}
		if len(s) > 200 {
			first = staticResult{code: impl.ErrInvalid}
		}
		checkStatic(t, fmt.Sprint("text ", i), nil, texted(impl.PtString, s), first)
	}
}

// TestPruningFunctionsDoNotDependOnOtherCalls runs the calls in several goroutines at the same time, with the same arguments.
func TestPruningFunctionsDoNotDependOnOtherCalls(t *testing.T) {
	cases := pruningCases(t)
	for what, call := range pruningFunctions() {
		var want []pruningResult
		for _, c := range cases {
			want = append(want, call(c))
		}
		var group sync.WaitGroup
		for range 4 {
			group.Go(func() {
				for i := range slices.Backward(cases) {
					if !equalPruningResults(call(cases[i]), want[i]) {
						t.Errorf("%s: another result for case %d", what, i)
					}
				}
			})
		}
		group.Wait()
	}
}
