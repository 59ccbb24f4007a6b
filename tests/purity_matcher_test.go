package tests

import (
	"fmt"
	"math"
	"reflect"
	"slices"
	"strings"
	"sync"
	"testing"

	"loop.example/g00873/impl"
)

// The tests of this file are promise 1 for the functions of chapters 13 and 14.

// matcherCase has arguments of the functions of pattern code and matchers.
type matcherCase struct {
	c   impl.PatternCode
	m   impl.Matcher
	i   impl.PatternIns
	env []impl.Named
	p   impl.Pattern
	s   string
	n   int64
}

// matcherResult is all that a function returns.
type matcherResult struct {
	c       impl.PatternCode
	m       impl.Matcher
	p       impl.Pattern
	marks   []int64
	matches []impl.Match
	// rest has the results that are no lists.
	rest string
}

// codeFunctions are all functions of chapter 13.
func codeFunctions() map[string]func(c matcherCase) matcherResult {
	return map[string]func(c matcherCase) matcherResult{
		"ValidIns": func(c matcherCase) matcherResult {
			rest := []bool{impl.ValidIns(c.i)}
			for _, i := range c.c.Code[:min(len(c.c.Code), 50)] {
				rest = append(rest, impl.ValidIns(i))
			}
			return matcherResult{rest: fmt.Sprint(rest)}
		},
		"CompilePattern": func(c matcherCase) matcherResult {
			list, code := impl.CompilePattern(c.p)
			return matcherResult{c: impl.PatternCode{Code: list}, rest: fmt.Sprint(code)}
		},
		"CompileAll": func(c matcherCase) matcherResult {
			all, code := impl.CompileAll(c.env, c.p)
			return matcherResult{c: all, rest: fmt.Sprint(code)}
		},
		"ValidPatternCode": func(c matcherCase) matcherResult {
			return matcherResult{rest: fmt.Sprint(impl.ValidPatternCode(c.c))}
		},
		"SamePatternCode": func(c matcherCase) matcherResult {
			part := impl.PatternCode{Code: c.c.Code[len(c.c.Code)/2:], Entries: c.c.Entries}
			return matcherResult{rest: fmt.Sprint(impl.SamePatternCode(c.c, c.c), impl.SamePatternCode(c.c, part), impl.SamePatternCode(part, c.c))}
		},
		"MarksOf": func(c matcherCase) matcherResult {
			marks, code := impl.MarksOf(c.c)
			return matcherResult{marks: marks, rest: fmt.Sprint(code)}
		},
		"EntryOf": func(c matcherCase) matcherResult {
			at, found := impl.EntryOf(c.c, c.s)
			other, isX := impl.EntryOf(c.c, "x")
			return matcherResult{rest: fmt.Sprint(at, found, other, isX)}
		},
		"DecompilePattern": func(c matcherCase) matcherResult {
			p, ok := impl.DecompilePattern(c.c.Code)
			return matcherResult{p: p, rest: fmt.Sprint(ok)}
		},
		"DecompilePattern without the end": func(c matcherCase) matcherResult {
			end := slices.IndexFunc(c.c.Code, func(i impl.PatternIns) bool { return i.Op == impl.CoEnd })
			p, ok := impl.DecompilePattern(c.c.Code[:max(end, 0)])
			return matcherResult{p: p, rest: fmt.Sprint(ok)}
		},
		"CodeListing": func(c matcherCase) matcherResult {
			return matcherResult{rest: impl.CodeListing(c.c)}
		},
	}
}

// matcherFunctions are all functions of chapters 13 and 14.
func matcherFunctions() map[string]func(c matcherCase) matcherResult {
	functions := codeFunctions()
	for _, anchored := range []bool{true, false} {
		functions[fmt.Sprint("NewMatcher ", anchored)] = func(c matcherCase) matcherResult {
			m, code := impl.NewMatcher(c.c, c.s, anchored)
			return matcherResult{m: m, rest: fmt.Sprint(code)}
		}
		functions[fmt.Sprint("FirstMatch ", anchored)] = func(c matcherCase) matcherResult {
			match, found, steps, code := impl.FirstMatch(c.env, c.p, c.s, anchored, c.n)
			return matcherResult{matches: []impl.Match{match}, rest: fmt.Sprint(found, steps, code)}
		}
		functions[fmt.Sprint("AllMatches ", anchored)] = func(c matcherCase) matcherResult {
			matches, code := impl.AllMatches(c.env, c.p, c.s, anchored, c.n)
			return matcherResult{matches: matches, rest: fmt.Sprint(code)}
		}
	}
	functions["ValidMatcher"] = func(c matcherCase) matcherResult {
		return matcherResult{rest: fmt.Sprint(impl.ValidMatcher(c.c, c.m))}
	}
	functions["SameMatcher"] = func(c matcherCase) matcherResult {
		other := c.m
		other.Now, other.Conds = other.Conds, other.Now
		return matcherResult{rest: fmt.Sprint(impl.SameMatcher(c.m, c.m), impl.SameMatcher(c.m, other), impl.SameMatcher(other, c.m))}
	}
	functions["StepMatcher"] = func(c matcherCase) matcherResult {
		m, code := impl.StepMatcher(c.c, c.m)
		return matcherResult{m: m, rest: fmt.Sprint(code)}
	}
	functions["CompactMatcher"] = func(c matcherCase) matcherResult {
		m, code := impl.CompactMatcher(c.c, c.m)
		return matcherResult{m: m, rest: fmt.Sprint(code)}
	}
	for _, fuel := range []int64{0, 20, 300, -1} {
		functions[fmt.Sprint("NextMatch ", fuel)] = func(c matcherCase) matcherResult {
			m, match, found, code := impl.NextMatch(c.c, c.m, fuel)
			return matcherResult{m: m, matches: []impl.Match{match}, rest: fmt.Sprint(found, code)}
		}
	}
	functions["NextMatch"] = func(c matcherCase) matcherResult {
		m, match, found, code := impl.NextMatch(c.c, c.m, c.n)
		return matcherResult{m: m, matches: []impl.Match{match}, rest: fmt.Sprint(found, code)}
	}
	return functions
}

func equalMatcherResults(a, b matcherResult) bool {
	return equalCode(a.c, b.c) && equalMatchers(a.m, b.m) && equalPatterns(a.p, b.p) && slices.Equal(a.marks, b.marks) && equalMatches(a.matches, b.matches) && a.rest == b.rest
}

// matcherCases returns arguments, valid and invalid ones.
func matcherCases(t *testing.T) []matcherCase {
	t.Helper()
	env, texts := chosenPatterns(t)
	badEnv := append(slices.Clone(env), impl.Named{Name: "f", Pattern: bare(0)})
	subjects := []string{"", "a", "x", "ab", "(a)b", "aab(a)", "par", "\xff\x00", strings.Repeat("ab", 100), strings.Repeat("a", 201)}
	numbers := []int64{math.MinInt64, -1, 0, 1, 2, 3, 7, 10, 40, 200, 500, 20000, 20001, math.MaxInt64}
	maker := stateMaker{narrowPatterns(121)}
	var cases []matcherCase
	add := func(env []impl.Named, p impl.Pattern, c impl.PatternCode, m impl.Matcher) {
		i := len(cases)
		cases = append(cases, matcherCase{c, m, c.Code[i%len(c.Code)], env, p, subjects[i%len(subjects)], numbers[i%len(numbers)]})
		cases = append(cases, matcherCase{c, m, impl.PatternIns{Op: int64(i % 41)}, env, p, subjects[i%7], 300})
	}
	for i, text := range texts {
		p := readPattern(t, text)
		named := env[:i%len(env)]
		c, _ := impl.CompileAll(named, p)
		m := newMatcher(t, c, subjects[i%7], i%3 == 0)
		for range 4 {
			add(named, p, c, m)
			m = maker.onTheWay(c, m, 30)
		}
		add(badEnv, p, c, changed(m, func(m *impl.Matcher) { m.PC = -1 }))
		if r := nextMatch(c, m, 300); r.code != impl.ErrState {
			add(named, p, c, r.m)
		}
	}
	for i := range 250 {
		c := maker.code(1 + i%9)
		m := maker.onTheWay(c, newMatcher(t, c, maker.subject(6), i%2 == 0), 60)
		add(maker.env(4), maker.pattern(1+i%9), c, m)
		for range maker.Intn(3) {
			m = changed(m, func(m *impl.Matcher) { maker.change(c, m) })
			add(maker.env(4), maker.pattern(1+i%9), c, m)
		}
		bad := copyCode(c)
		bad.Code = changedCode(maker.Rand, append(bad.Code, op(impl.CoReturn)))
		add(nil, impl.Pattern{}, bad, m)
	}
	called, state := calling(t)
	add(env, readPattern(t, texts[0]), called, state)
	return append(cases, matcherCase{}, matcherCase{m: state}, matcherCase{c: called})
}

// copyMatcherCase returns an equal case that shares no memory, not even that of texts.
func copyMatcherCase(c matcherCase) matcherCase {
	c.c, c.m, c.p = copyCode(c.c), copyMatcher(c.m), copyPattern(c.p)
	for i, x := range c.c.Code {
		c.c.Code[i].Text = strings.Clone(x.Text)
	}
	for i, x := range c.c.Entries {
		c.c.Entries[i].Name = strings.Clone(x.Name)
	}
	for _, list := range [][]impl.Capture{c.m.Now, c.m.Conds} {
		for i, x := range list {
			list[i].Name, list[i].Text = strings.Clone(x.Name), strings.Clone(x.Text)
		}
	}
	c.m.Subject, c.i.Text, c.s = strings.Clone(c.m.Subject), strings.Clone(c.i.Text), strings.Clone(c.s)
	c.env = slices.Clone(c.env)
	for i, x := range c.env {
		c.env[i] = impl.Named{Name: strings.Clone(x.Name), Pattern: copyPattern(x.Pattern)}
	}
	return c
}

// roomyMatcherCase returns an equal case, each of whose lists has unused elements behind it.
func roomyMatcherCase(c matcherCase) matcherCase {
	c.c.Code, _ = backing(c.c.Code, opFor(77, "unused"))
	c.c.Entries, _ = backing(c.c.Entries, impl.PatternEntry{Name: "unused", At: 77})
	c.m.Frames, _ = backing(c.m.Frames, marked(77, 77))
	c.m.Choices, _ = backing(c.m.Choices, going(77, 77, 77, 77))
	c.m.Now, _ = backing(c.m.Now, impl.Capture{Name: "unused"})
	c.m.Conds, _ = backing(c.m.Conds, impl.Capture{Name: "unused"})
	c.p = roomyPattern(c.p)
	c.env, _ = backing(c.env, impl.Named{Name: "unused"})
	for i, x := range c.env {
		c.env[i].Pattern = roomyPattern(x.Pattern)
	}
	return c
}

// wholePattern returns a copy of a pattern whose Kids have also the unused elements behind them.
func wholePattern(p impl.Pattern) impl.Pattern {
	p.Kids = slices.Clone(p.Kids[:cap(p.Kids)])
	for i, kid := range p.Kids {
		p.Kids[i] = wholePattern(kid)
	}
	return p
}

// wholeCase returns a copy of a case whose lists have also the unused elements behind them.
func wholeCase(c matcherCase) matcherCase {
	c.c = impl.PatternCode{Code: slices.Clone(c.c.Code[:cap(c.c.Code)]), Entries: slices.Clone(c.c.Entries[:cap(c.c.Entries)])}
	c.m.Frames = slices.Clone(c.m.Frames[:cap(c.m.Frames)])
	c.m.Choices = slices.Clone(c.m.Choices[:cap(c.m.Choices)])
	c.m.Now = slices.Clone(c.m.Now[:cap(c.m.Now)])
	c.m.Conds = slices.Clone(c.m.Conds[:cap(c.m.Conds)])
	c.p = wholePattern(c.p)
	c.env = slices.Clone(c.env[:cap(c.env)])
	for i, x := range c.env {
		c.env[i].Pattern = wholePattern(x.Pattern)
	}
	return c
}

func TestMatcherFunctionsArePure(t *testing.T) {
	t.Parallel()
	cases := matcherCases(t)
	for what, call := range matcherFunctions() {
		for i, c := range cases {
			roomy := roomyMatcherCase(c)
			before := wholeCase(roomy)
			first := call(roomy)
			if !equalMatcherResults(call(roomy), first) || !equalMatcherResults(call(copyMatcherCase(c)), first) {
				t.Errorf("%s: another result for case %d: %.900q", what, i, fmt.Sprint(c))
			}
			if !reflect.DeepEqual(wholeCase(roomy), before) {
				t.Errorf("%s modified its arguments: case %d: %.900q", what, i, fmt.Sprint(c))
			}
		}
	}
}

func TestNilAndEmptyListsOfMatchersAreEquivalent(t *testing.T) {
	cases := matcherCases(t)
	for what, call := range matcherFunctions() {
		for i, c := range cases {
			other := copyMatcherCase(c)
			other.c.Code, other.c.Entries = otherEmpty(other.c.Code), otherEmpty(other.c.Entries)
			other.m.Frames, other.m.Choices = otherEmpty(other.m.Frames), otherEmpty(other.m.Choices)
			other.m.Now, other.m.Conds = otherEmpty(other.m.Now), otherEmpty(other.m.Conds)
			other.env, other.p = otherEmpty(other.env), otherEmptyPattern(other.p)
			for k, x := range other.env {
				other.env[k].Pattern = otherEmptyPattern(x.Pattern)
			}
			if !equalMatcherResults(call(c), call(other)) {
				t.Errorf("%s: another result for case %d: %.900q", what, i, fmt.Sprint(c))
			}
		}
	}
}

func (m patternMemory) addCode(c impl.PatternCode) bool {
	fresh := isNew(m, c.Code)
	return isNew(m, c.Entries) && fresh
}

func (m patternMemory) addMatcher(x impl.Matcher) bool {
	fresh := isNew(m, x.Frames)
	fresh = isNew(m, x.Choices) && fresh
	fresh = isNew(m, x.Now) && fresh
	return isNew(m, x.Conds) && fresh
}

func (m patternMemory) addMatcherResult(r matcherResult) bool {
	fresh := m.addCode(r.c)
	fresh = m.addMatcher(r.m) && fresh
	fresh = m.addPattern(r.p) && fresh
	fresh = isNew(m, r.marks) && fresh
	fresh = isNew(m, r.matches) && fresh
	for _, match := range r.matches {
		fresh = isNew(m, match.Captures) && fresh
	}
	return fresh
}

// TestResultsOfMatcherFunctionsAreNew checks that all lists of results share no memory with each other or with arguments.
func TestResultsOfMatcherFunctionsAreNew(t *testing.T) {
	t.Parallel()
	elements := map[string]int{}
	cases := matcherCases(t)
	for what, call := range matcherFunctions() {
		for i, c := range cases {
			for _, c := range []matcherCase{c, roomyMatcherCase(c)} {
				memory := patternMemory{}
				memory.addCode(c.c)
				memory.addMatcher(c.m)
				memory.addPattern(c.p)
				isNew(memory, c.env)
				for _, x := range c.env {
					memory.addPattern(x.Pattern)
				}
				before := len(memory)
				if !memory.addMatcherResult(call(c)) || !memory.addMatcherResult(call(c)) {
					t.Errorf("%s: results share memory: case %d: %.900q", what, i, fmt.Sprint(c))
				}
				elements[what] += len(memory) - before
			}
		}
	}
	for _, what := range []string{"CompilePattern", "CompileAll", "MarksOf", "DecompilePattern without the end", "StepMatcher", "CompactMatcher", "NextMatch 20", "NextMatch 300", "FirstMatch true", "AllMatches false"} {
		if elements[what] < 1000 {
			t.Errorf("%s: only %d elements were returned", what, elements[what])
		}
	}
}

// TestMatcherResultsAreCopies changes what was returned, and calls the functions again.
func TestMatcherResultsAreCopies(t *testing.T) {
	cases := matcherCases(t)
	for what, call := range matcherFunctions() {
		for i, c := range cases {
			want := call(copyMatcherCase(c))
			got := call(c)
			overwrite(got.c.Code[:cap(got.c.Code)], opFor(77, "changed"))
			overwrite(got.c.Entries[:cap(got.c.Entries)], impl.PatternEntry{Name: "changed"})
			overwrite(got.m.Frames[:cap(got.m.Frames)], marked(77, 77))
			overwrite(got.m.Choices[:cap(got.m.Choices)], going(77, 77, 77, 77))
			overwrite(got.m.Now[:cap(got.m.Now)], impl.Capture{Name: "changed"})
			overwrite(got.m.Conds[:cap(got.m.Conds)], impl.Capture{Name: "changed"})
			overwrite(got.marks[:cap(got.marks)], 77)
			for _, match := range got.matches {
				overwrite(match.Captures[:cap(match.Captures)], impl.Capture{Name: "changed"})
			}
			var memory lists
			memory.addPattern(got.p)
			for _, list := range memory.patterns {
				overwrite(list, texted(77, "changed"))
			}
			if !equalMatcherResults(call(c), want) {
				t.Errorf("%s: another result for case %d: %.900q", what, i, fmt.Sprint(c))
			}
		}
	}
}

// TestOldMatchersCanBeUsedAgain steps from the same matcher in two ways, which must not disturb each other.
func TestOldMatchersCanBeUsedAgain(t *testing.T) {
	env, texts := chosenPatterns(t)
	for _, text := range texts {
		c := compiled(t, env, text)
		m := newMatcher(t, c, "aab(a)", false)
		var list []impl.Matcher
		for len(list) < 80 && m.Status != impl.MtDone && m.Status != impl.MtFault {
			list = append(list, m)
			m = stepped(t, c, m)
		}
		saved := make([]impl.Matcher, len(list))
		for i, m := range list {
			saved[i] = copyMatcher(m)
		}
		for i := range slices.Backward(list) {
			nextMatch(c, list[i], 100)
			again := stepped(t, c, list[i])
			if i+1 < len(list) {
				checkMatcher(t, text+": the next one", again, saved[i+1])
			}
			impl.CompactMatcher(c, list[i])
		}
		for i, m := range list {
			checkMatcher(t, text, m, saved[i])
		}
	}
}

// TestFailuresOfMatcherFunctions checks that nothing but the code is left of a
// call that fails, unless the document says otherwise.
func TestFailuresOfMatcherFunctions(t *testing.T) {
	codes := map[int64]int{}
	functions := matcherFunctions()
	for i, c := range matcherCases(t) {
		what := fmt.Sprint("case ", i)
		list, code := impl.CompilePattern(c.p)
		checkEqual(t, what+": CompilePattern", code == impl.ErrInvalid && len(list) == 0 || code == impl.OK, true)
		all, code := impl.CompileAll(c.env, c.p)
		checkEqual(t, what+": CompileAll", code == impl.ErrInvalid && equalCode(all, impl.PatternCode{}) || code == impl.OK, true)
		marks, code := impl.MarksOf(c.c)
		checkEqual(t, what+": MarksOf", code == impl.ErrInvalid && len(marks) == 0 || code == impl.OK, true)
		if p, ok := impl.DecompilePattern(c.c.Code); !ok {
			checkPattern(t, what, p, impl.Pattern{})
		}
		for _, call := range []string{"NewMatcher true", "StepMatcher", "CompactMatcher"} {
			r := functions[call](c)
			if r.rest != "0" {
				checkMatcher(t, what+": "+call, r.m, impl.Matcher{})
			}
		}
		for _, fuel := range []int64{c.n, -1, 0, 1, 100, 20001} {
			r := nextMatch(c.c, c.m, fuel)
			codes[r.code]++
			isReached := r.code == impl.OK || r.code == impl.ErrSteps || r.code == impl.ErrFull || r.code == impl.ErrUndefined
			checkEqual(t, what+": a matcher is returned", r.m.Status != 0, isReached)
			if !isReached {
				checkMatcher(t, what, r.m, impl.Matcher{})
			}
			if r.code != impl.OK || !r.found {
				checkEqual(t, what+": no match", !r.found && impl.SameMatch(r.match, impl.Match{}), true)
			}
			isInvalid := !impl.ValidMatcher(c.c, c.m)
			checkEqual(t, what+": ErrInvalid", r.code == impl.ErrInvalid, isInvalid)
			checkEqual(t, what+": ErrRange", r.code == impl.ErrRange, !isInvalid && (fuel < 0 || fuel > 20000))
		}
		for _, anchored := range []bool{true, false} {
			match, found, steps, code := impl.FirstMatch(c.env, c.p, c.s, anchored, c.n)
			codes[code]++
			if code != impl.OK {
				checkEqual(t, what+": FirstMatch", !found && steps == 0 && impl.SameMatch(match, impl.Match{}), true)
			}
			matches, code := impl.AllMatches(c.env, c.p, c.s, anchored, c.n)
			codes[code]++
			if code != impl.OK && (code != impl.ErrFull || len(matches) != 60) {
				checkEqual(t, what+": AllMatches", len(matches), 0)
			}
		}
	}
	for _, code := range []int64{impl.OK, impl.ErrInvalid, impl.ErrRange, impl.ErrSteps, impl.ErrUndefined, impl.ErrFull, impl.ErrState} {
		if codes[code] < 5 {
			t.Errorf("the code %d was returned only %d times", code, codes[code])
		}
	}
}

// strangeMatchers returns matchers and code that are large, or have the least and the greatest numbers.
func strangeMatchers(t *testing.T) []matcherCase {
	t.Helper()
	long := strings.Repeat("a", 1000000)
	c, m := calling(t)
	cases := []matcherCase{
		{c: impl.PatternCode{Code: make([]impl.PatternIns, 1000000)}}, {c: impl.PatternCode{Entries: make([]impl.PatternEntry, 1000000)}}, {c: impl.PatternCode{Code: c.Code, Entries: make([]impl.PatternEntry, 1000000)}},
		{c: impl.PatternCode{Code: slices.Repeat([]impl.PatternIns{op(impl.CoStep)}, 1000000)}}, {c: impl.PatternCode{Code: slices.Repeat([]impl.PatternIns{opTo(impl.CoChoice, 3), op(impl.CoMark)}, 500000)}},
		{c: readCode(t, manyChoices(12999))}, {c: readCode(t, strings.Repeat("mark; ", 12998)+"fail; end")}, {c: c, m: impl.Matcher{Subject: long, Status: impl.MtRun}, s: long},
		{c: c, m: changed(m, func(m *impl.Matcher) { m.Frames = make([]impl.MatchFrame, 1000000) })}, {c: c, m: changed(m, func(m *impl.Matcher) { m.Choices = make([]impl.MatchChoice, 1000000) })},
		{c: c, m: changed(m, func(m *impl.Matcher) { m.Now = make([]impl.Capture, 1000000) })}, {c: c, m: changed(m, func(m *impl.Matcher) { m.Conds = make([]impl.Capture, 1000000) })},
		{c: c, m: changed(m, func(m *impl.Matcher) { m.Now[0].Name = long })}, {c: c, m: changed(m, func(m *impl.Matcher) { m.Now[0].Text = long })},
		{p: endlessPattern(3), env: envOf(endlessPattern(1), "x")}, {p: sharedPattern(200)}, {p: stacked(500000, bare(impl.PtRem))}, {i: opFor(impl.PtString, long)}, {i: opFor(impl.CoCond, long)}, {i: opFor(impl.PtDefer, long)},
	}
	// The longest stacks that are valid: each frame above the one before.
	chain := make([]impl.MatchFrame, 40000)
	for i := range chain {
		chain[i] = returning(int64(i), 6)
	}
	chain[0].Num = 0
	cases = append(cases, matcherCase{c: c, m: impl.Matcher{Status: impl.MtRun, Subject: "ab", PC: 6, Top: 40000, Frames: chain, Choices: slices.Repeat([]impl.MatchChoice{going(6, 0, 40000, 0)}, 40000)}})
	cases = append(cases, matcherCase{c: c, m: impl.Matcher{Status: impl.MtRun, Subject: "ab", PC: 11, Top: 39999, Frames: chain[:39999]}})
	for _, n := range []int64{math.MinInt64, math.MinInt64 + 1, -1, 1 << 31, 1 << 32, math.MaxInt64 - 1, math.MaxInt64} {
		cases = append(cases, matcherCase{i: impl.PatternIns{Op: n, Num: n, Text: "\xff"}, n: n}, matcherCase{i: opTo(impl.CoJump, n), n: n}, matcherCase{c: impl.PatternCode{Code: []impl.PatternIns{op(impl.CoStep), opTo(impl.CoChoice, n), opTo(impl.CoLoop, n), opTo(impl.CoJump, n), op(impl.CoEnd)}}})
		cases = append(cases, matcherCase{c: impl.PatternCode{Code: []impl.PatternIns{op(impl.CoEnd), op(impl.CoReturn)}, Entries: []impl.PatternEntry{{Name: "x", At: n}}}})
		for _, status := range []int64{impl.MtRun, impl.MtFound, n} {
			every := impl.Matcher{Status: status, Subject: "ab", Start: n, PC: n, Cursor: n, Top: n, Last: n, Steps: n, Frames: []impl.MatchFrame{{Below: n, Num: n, Return: true}, marked(n, n)}, Choices: []impl.MatchChoice{{Kind: n, PC: n, Cursor: n, Top: n, Conds: n, Last: n}}, Now: []impl.Capture{{Name: "x", Cursor: n, Kind: n}}, Conds: []impl.Capture{{Name: "x", Cursor: n, Kind: n}}}
			cases = append(cases, matcherCase{c: c, m: every, n: n})
		}
		for _, set := range []func(m *impl.Matcher){
			func(m *impl.Matcher) { m.Frames[0].Below = n }, func(m *impl.Matcher) { m.Frames[1].Below = n }, func(m *impl.Matcher) { m.Frames[1].Num = n }, func(m *impl.Matcher) { m.Choices[2].PC = n }, func(m *impl.Matcher) { m.Choices[2].Top = n }, func(m *impl.Matcher) { m.Choices[2].Last = n }, func(m *impl.Matcher) { m.Choices[0].Conds = n }, func(m *impl.Matcher) { m.Top = n }, func(m *impl.Matcher) { m.PC = n },
		} {
			cases = append(cases, matcherCase{c: c, m: changed(m, set), n: n})
		}
	}
	return cases
}

func TestMatcherFunctionsWithStrangeArguments(t *testing.T) {
	cases := strangeMatchers(t)
	valid := 0
	for what, call := range matcherFunctions() {
		for i, c := range cases {
			if !equalMatcherResults(call(c), call(c)) {
				t.Errorf("%s: another result for case %d", what, i)
			}
		}
	}
	for i, c := range cases {
		isValid := impl.ValidMatcher(c.c, c.m)
		if len(c.m.Frames) < 1000 && len(c.m.Choices) < 1000 && len(c.c.Code) < 10000 {
			checkEqual(t, fmt.Sprint("case ", i), isValid, modelIsMatcher(c.c, c.m))
		}
		if isValid {
			valid++
			m, code := impl.CompactMatcher(c.c, c.m)
			checkEqual(t, "code of CompactMatcher", code, impl.OK)
			checkMatcher(t, "nothing to remove", m, c.m)
		}
	}
	checkEqual(t, "valid matchers", valid, 2)
}

// TestMatcherFunctionsDoNotDependOnOtherCalls runs the calls in several goroutines at the same time, with the same arguments.
func TestMatcherFunctionsDoNotDependOnOtherCalls(t *testing.T) {
	cases := matcherCases(t)
	for what, call := range matcherFunctions() {
		var want []matcherResult
		for _, c := range cases {
			want = append(want, call(c))
		}
		var group sync.WaitGroup
		for range 4 {
			group.Go(func() {
				for i := range slices.Backward(cases) {
					if !equalMatcherResults(call(cases[i]), want[i]) {
						t.Errorf("%s: another result for case %d", what, i)
					}
				}
			})
		}
		group.Wait()
	}
}
