package tests

import (
	"fmt"
	"math"
	"slices"
	"strings"
	"sync"
	"testing"

	"loop.example/g00873/impl"
)

// The tests of this file are promise 1 for the functions of chapters 11 and 12.

// patternCase has arguments of the functions of patterns and matches.
type patternCase struct {
	p       impl.Pattern
	list    []impl.Pattern
	env     []impl.Named
	s       string
	n       int64
	matches []impl.Match
}

// patternResult is all that a function returns.
type patternResult struct {
	p       impl.Pattern
	names   []string
	matches []impl.Match
	ends    []int64
	// rest has the results that are no lists.
	rest string
}

// patternFunctions are all functions of chapters 11 and 12.
func patternFunctions() map[string]func(c patternCase) patternResult {
	functions := structureFunctions()
	for _, anchored := range []bool{true, false} {
		functions[fmt.Sprint("MatchesOf ", anchored)] = func(c patternCase) patternResult {
			matches, code := impl.MatchesOf(c.env, c.p, c.s, anchored, c.n)
			return patternResult{matches: matches, rest: fmt.Sprint(code)}
		}
		functions[fmt.Sprint("CountMatches ", anchored)] = func(c patternCase) patternResult {
			return patternResult{rest: fmt.Sprint(impl.CountMatches(c.env, c.p, c.s, anchored, c.n))}
		}
	}
	functions["EndsAt"] = func(c patternCase) patternResult {
		ends, code := impl.EndsAt(c.env, c.p, c.s, c.n%7, c.n)
		return patternResult{ends: ends, rest: fmt.Sprint(code)}
	}
	functions["EndsAt 2"] = func(c patternCase) patternResult {
		ends, code := impl.EndsAt(c.env, c.p, c.s, c.n, 500)
		return patternResult{ends: ends, rest: fmt.Sprint(code)}
	}
	functions["IsFullMatch"] = func(c patternCase) patternResult {
		return patternResult{rest: fmt.Sprint(impl.IsFullMatch(c.env, c.p, c.s, c.n))}
	}
	functions["LookupNamed"] = func(c patternCase) patternResult {
		p, ok := impl.LookupNamed(c.env, c.s)
		return patternResult{p: p, rest: fmt.Sprint(ok)}
	}
	functions["SameMatches"] = func(c patternCase) patternResult {
		return patternResult{rest: fmt.Sprint(impl.SameMatches(c.matches, c.matches), impl.SameMatches(c.matches, c.matches[len(c.matches)/2:]))}
	}
	functions["SameMatch and MatchText"] = func(c patternCase) patternResult {
		var rest strings.Builder
		for _, m := range append(slices.Clone(c.matches), impl.Match{Start: c.n, End: c.n}) {
			fmt.Fprint(&rest, impl.SameMatch(m, c.matches[0]), impl.MatchText(c.s, m), ";")
		}
		return patternResult{rest: rest.String()}
	}
	return functions
}

// structureFunctions are all functions of chapter 11.
func structureFunctions() map[string]func(c patternCase) patternResult {
	return map[string]func(c patternCase) patternResult{
		"ValidPattern": func(c patternCase) patternResult {
			return patternResult{rest: fmt.Sprint(impl.ValidPattern(c.p))}
		},
		"SamePattern": func(c patternCase) patternResult {
			same := []bool{impl.SamePattern(c.p, c.p)}
			for _, p := range c.list {
				same = append(same, impl.SamePattern(c.p, p), impl.SamePattern(p, p))
			}
			return patternResult{rest: fmt.Sprint(same)}
		},
		"CountNodes": func(c patternCase) patternResult {
			return patternResult{rest: fmt.Sprint(impl.CountNodes(c.p))}
		},
		"PatternText": func(c patternCase) patternResult {
			return patternResult{rest: impl.PatternText(c.p)}
		},
		"ReadPattern": func(c patternCase) patternResult {
			p, ok := impl.ReadPattern(c.s)
			return patternResult{p: p, rest: fmt.Sprint(ok)}
		},
		"CatOf": func(c patternCase) patternResult {
			p, ok := impl.CatOf(c.list)
			return patternResult{p: p, rest: fmt.Sprint(ok)}
		},
		"AltOf": func(c patternCase) patternResult {
			p, ok := impl.AltOf(c.list)
			return patternResult{p: p, rest: fmt.Sprint(ok)}
		},
		"DeferredNames": func(c patternCase) patternResult {
			return patternResult{names: impl.DeferredNames(c.p)}
		},
		"ValidEnv": func(c patternCase) patternResult {
			return patternResult{rest: fmt.Sprint(impl.ValidEnv(c.env))}
		},
	}
}

func equalPatternResults(a, b patternResult) bool {
	return equalPatterns(a.p, b.p) && slices.Equal(a.names, b.names) && equalMatches(a.matches, b.matches) && slices.Equal(a.ends, b.ends) && a.rest == b.rest
}

// patternCases returns arguments, valid and invalid ones, and some that share memory with each other.
func patternCases(t *testing.T) []patternCase {
	t.Helper()
	env := []impl.Named{{Name: "x", Pattern: readPattern(t, `alt("a",cat("b",defer(x)))`)}, {Name: "y", Pattern: readPattern(t, "cond(cat(arb,cursor(q)),p)")}, {Name: "bb", Pattern: readPattern(t, "fail")}}
	badEnv := append(slices.Clone(env), impl.Named{Name: "x", Pattern: tree(impl.PtAlt, bare(0))})
	matches := []impl.Match{{}, matched(1, 3, cond("x", "a", 1), now("y", "b", 2)), matched(-1, math.MaxInt64, impl.Capture{Kind: -5}), matched(2, 1)}
	shared := []impl.Pattern{readPattern(t, `now("a",n)`), readPattern(t, "defer(y)")}
	subjects := []string{"", "x", "bb", "aba", "(a)b(c)", "rem", `cat(arbno("a"),cond(arb,x))`, "alt(rem,", "\xff\x00", strings.Repeat("ab", 100), strings.Repeat("a", 201)}
	numbers := []int64{math.MinInt64, -1, 0, 1, 3, 7, 10, 40, 200, 201, 500, 20000, 20001, math.MaxInt64}
	cases := []patternCase{{matches: matches}, {list: []impl.Pattern{}, env: []impl.Named{}, matches: matches}}
	add := func(p impl.Pattern, list ...impl.Pattern) {
		i := len(cases)
		cases = append(cases, patternCase{p, list, env[:i%4], subjects[i%len(subjects)], numbers[i%len(numbers)], matches[:1+i%4]})
		cases = append(cases, patternCase{p, list, env, subjects[i%5], 500, matches})
		if i%5 == 0 {
			cases = append(cases, patternCase{p, list, badEnv, subjects[i%5], 500, matches})
		}
	}
	for _, row := range patternRows() {
		add(row.p, row.p, shared[0], row.p)
	}
	for i, p := range manyPatterns() {
		if i%97 == 0 {
			add(p, p)
		}
	}
	source := narrowPatterns(91)
	for i := range 300 {
		add(source.pattern(1+i%20), source.pattern(3), source.pattern(1+i%20))
	}
	for _, kind := range []int64{impl.PtAlt, impl.PtCat, impl.PtArbno, 99} {
		add(tree(kind, shared...), shared...)
		add(tree(kind, tree(kind, shared...), tree(kind, shared...)), tree(kind, shared...), shared[0])
		add(tree(kind, shared[:1]...), shared[1:]...)
	}
	return cases
}

// copyMatches returns equal matches that share no memory.
func copyMatches(list []impl.Match) []impl.Match {
	list = slices.Clone(list)
	for i, m := range list {
		list[i].Captures = slices.Clone(m.Captures)
	}
	return list
}

// copyPatternCase returns an equal case that shares no memory, not even that of texts.
func copyPatternCase(c patternCase) patternCase {
	c.p = copyPattern(c.p)
	c.list = slices.Clone(c.list)
	for i, p := range c.list {
		c.list[i] = copyPattern(p)
	}
	c.env = slices.Clone(c.env)
	for i, x := range c.env {
		c.env[i] = impl.Named{Name: strings.Clone(x.Name), Pattern: copyPattern(x.Pattern)}
	}
	c.s = strings.Clone(c.s)
	c.matches = copyMatches(c.matches)
	return c
}

// lists has lists with the unused elements behind them.
type lists struct {
	patterns [][]impl.Pattern
	named    [][]impl.Named
	matches  [][]impl.Match
	captures [][]impl.Capture
}

func (l *lists) addPattern(p impl.Pattern) {
	l.patterns = append(l.patterns, p.Kids[:cap(p.Kids)])
	for _, kid := range p.Kids {
		l.addPattern(kid)
	}
}

func (l *lists) addMatches(list []impl.Match) {
	l.matches = append(l.matches, list[:cap(list)])
	for _, m := range list {
		l.captures = append(l.captures, m.Captures[:cap(m.Captures)])
	}
}

func listsOf(c patternCase) lists {
	l := lists{named: [][]impl.Named{c.env[:cap(c.env)]}}
	l.addPattern(c.p)
	l.addPattern(impl.Pattern{Kids: c.list})
	for _, x := range c.env {
		l.addPattern(x.Pattern)
	}
	l.addMatches(c.matches)
	return l
}

// copied returns copies of the lists, whose elements are the same and not only equal.
func (l lists) copied() lists {
	return lists{copyLists(l.patterns), copyLists(l.named), copyLists(l.matches), copyLists(l.captures)}
}

func copyLists[T any](all [][]T) [][]T {
	all = slices.Clone(all)
	for i, list := range all {
		all[i] = slices.Clone(list)
	}
	return all
}

func isSame[T any](a, b []T) bool {
	return len(a) == len(b) && cap(a) == cap(b) && (cap(a) == 0 || &a[:1][0] == &b[:1][0])
}

func samePatternMemory(a, b impl.Pattern) bool {
	return a.Kind == b.Kind && a.Num == b.Num && a.Text == b.Text && isSame(a.Kids, b.Kids)
}

func areSame[T any](a, b [][]T, same func(x, y T) bool) bool {
	return slices.EqualFunc(a, b, func(x, y []T) bool { return slices.EqualFunc(x, y, same) })
}

// sameAs reports whether the lists have the same elements as others, and not only equal ones.
func (l lists) sameAs(other lists) bool {
	return areSame(l.patterns, other.patterns, samePatternMemory) &&
		areSame(l.named, other.named, func(x, y impl.Named) bool {
			return x.Name == y.Name && samePatternMemory(x.Pattern, y.Pattern)
		}) &&
		areSame(l.matches, other.matches, func(x, y impl.Match) bool {
			return x.Start == y.Start && x.End == y.End && isSame(x.Captures, y.Captures)
		}) &&
		areSame(l.captures, other.captures, func(x, y impl.Capture) bool { return x == y })
}

// roomyPattern returns an equal pattern, each of whose Kids have unused elements behind them.
func roomyPattern(p impl.Pattern) impl.Pattern {
	p.Kids, _ = backing(p.Kids, texted(77, "unused"))
	for i, kid := range p.Kids {
		p.Kids[i] = roomyPattern(kid)
	}
	return p
}

// roomyPatternCase returns an equal case, each of whose lists has unused elements behind it.
func roomyPatternCase(c patternCase) patternCase {
	c.p = roomyPattern(c.p)
	c.list = roomyPattern(impl.Pattern{Kids: c.list}).Kids
	c.env, _ = backing(c.env, impl.Named{Name: "unused"})
	for i, x := range c.env {
		c.env[i].Pattern = roomyPattern(x.Pattern)
	}
	c.matches, _ = backing(c.matches, matched(77, 77))
	for i, m := range c.matches {
		c.matches[i].Captures, _ = backing(m.Captures, impl.Capture{Name: "unused"})
	}
	return c
}

func TestPatternFunctionsArePure(t *testing.T) {
	cases := patternCases(t)
	for what, call := range patternFunctions() {
		for _, c := range cases {
			roomy := roomyPatternCase(c)
			memory := listsOf(roomy)
			before := memory.copied()
			first := call(roomy)
			if !equalPatternResults(call(roomy), first) || !equalPatternResults(call(copyPatternCase(c)), first) {
				t.Errorf("%s: another result for %.500q", what, fmt.Sprint(c))
			}
			if !memory.sameAs(before) {
				t.Errorf("%s modified its arguments: %.500q", what, fmt.Sprint(c))
			}
		}
	}
}

// otherEmpty returns an equal list: nil instead of an empty list, and an empty list instead of nil.
func otherEmpty[T any](list []T) []T {
	switch {
	case len(list) > 0:
		return list
	case list == nil:
		return []T{}
	}
	return nil
}

func otherEmptyPattern(p impl.Pattern) impl.Pattern {
	p.Kids = otherEmpty(p.Kids)
	for i, kid := range p.Kids {
		p.Kids[i] = otherEmptyPattern(kid)
	}
	return p
}

func TestNilAndEmptyListsOfPatternsAreEquivalent(t *testing.T) {
	cases := patternCases(t)
	for what, call := range patternFunctions() {
		for _, c := range cases {
			other := copyPatternCase(c)
			other.p = otherEmptyPattern(other.p)
			other.list = otherEmptyPattern(impl.Pattern{Kids: other.list}).Kids
			other.env = otherEmpty(other.env)
			for i, x := range other.env {
				other.env[i].Pattern = otherEmptyPattern(x.Pattern)
			}
			for i, m := range other.matches {
				other.matches[i].Captures = otherEmpty(m.Captures)
			}
			if !equalPatternResults(call(c), call(other)) {
				t.Errorf("%s: another result for %.500q", what, fmt.Sprint(c))
			}
		}
	}
}

// patternMemory has the elements of lists, also those behind their ends.
type patternMemory map[any]bool

// isNew adds the memory of a list, and reports whether none of it was there before.
func isNew[T any](m patternMemory, list []T) bool {
	fresh := true
	list = list[:cap(list)]
	for i := range list {
		fresh = fresh && !m[&list[i]]
		m[&list[i]] = true
	}
	return fresh
}

func (m patternMemory) addPattern(p impl.Pattern) bool {
	fresh := isNew(m, p.Kids)
	for _, kid := range p.Kids {
		fresh = m.addPattern(kid) && fresh
	}
	return fresh
}

func (m patternMemory) addResult(r patternResult) bool {
	fresh := m.addPattern(r.p) && isNew(m, r.names) && isNew(m, r.ends) && isNew(m, r.matches)
	for _, match := range r.matches {
		fresh = isNew(m, match.Captures) && fresh
	}
	return fresh
}

// TestResultsOfPatternFunctionsAreNew checks that all lists of results share no memory with each other or with arguments.
func TestResultsOfPatternFunctionsAreNew(t *testing.T) {
	elements := 0
	cases := patternCases(t)
	for what, call := range patternFunctions() {
		for _, c := range cases {
			for _, c := range []patternCase{c, roomyPatternCase(c)} {
				memory := patternMemory{}
				isNew(memory, c.env)
				memory.addPattern(c.p)
				memory.addPattern(impl.Pattern{Kids: c.list})
				for _, x := range c.env {
					memory.addPattern(x.Pattern)
				}
				memory.addResult(patternResult{matches: c.matches})
				before := len(memory)
				if !memory.addResult(call(c)) || !memory.addResult(call(c)) {
					t.Errorf("%s: results share memory: %.500q", what, fmt.Sprint(c))
				}
				elements += len(memory) - before
			}
		}
	}
	if elements < 20000 {
		t.Errorf("only %d elements were returned", elements)
	}
}

// TestLookedUpAndChainedPatternsAreCopies changes what was returned, and calls the functions again.
func TestLookedUpAndChainedPatternsAreCopies(t *testing.T) {
	cases := patternCases(t)
	for what, call := range patternFunctions() {
		for _, c := range cases {
			want := call(copyPatternCase(c))
			got := call(c)
			memory := lists{}
			memory.addPattern(got.p)
			memory.addMatches(got.matches)
			for _, list := range memory.patterns {
				overwrite(list, texted(77, "changed"))
			}
			for _, list := range memory.captures {
				overwrite(list, impl.Capture{Name: "changed"})
			}
			for _, list := range memory.matches {
				overwrite(list, matched(77, 77))
			}
			overwrite(got.names[:cap(got.names)], "changed")
			overwrite(got.ends[:cap(got.ends)], 77)
			if !equalPatternResults(call(c), want) {
				t.Errorf("%s: another result for %.500q", what, fmt.Sprint(c))
			}
		}
	}
}

func overwrite[T any](list []T, x T) {
	for i := range list {
		list[i] = x
	}
}

// TestFailuresOfPatternFunctions checks that nothing but the code is left of a call that fails, unless there are too many matches.
func TestFailuresOfPatternFunctions(t *testing.T) {
	codes := map[int64]int{}
	for _, c := range patternCases(t) {
		if p, ok := impl.ReadPattern(c.s); !ok {
			checkPattern(t, c.s, p, impl.Pattern{})
		}
		if p, ok := impl.LookupNamed(c.env, c.s); !ok {
			checkPattern(t, c.s, p, impl.Pattern{})
		}
		if p, ok := impl.CatOf(c.list); !ok {
			checkPattern(t, "CatOf", p, impl.Pattern{})
		}
		if p, ok := impl.AltOf(c.list); !ok {
			checkPattern(t, "AltOf", p, impl.Pattern{})
		}
		for _, anchored := range []bool{true, false} {
			matches, code := impl.MatchesOf(c.env, c.p, c.s, anchored, c.n)
			codes[code]++
			n, other := impl.CountMatches(c.env, c.p, c.s, anchored, c.n)
			checkEqual(t, "code of CountMatches", other, code)
			checkEqual(t, "CountMatches", n, int64(len(matches)))
			switch {
			case code == impl.ErrFull && len(matches) == 60, code == impl.OK:
			default:
				checkEqual(t, "matches beside an error", len(matches), 0)
			}
			isInvalid := !impl.ValidEnv(c.env) || !impl.ValidPattern(c.p) || len(c.s) > 200
			checkEqual(t, "ErrInvalid", code == impl.ErrInvalid, isInvalid)
			checkEqual(t, "ErrRange", code == impl.ErrRange, !isInvalid && (c.n < 0 || c.n > 20000))
		}
		for _, start := range []int64{c.n, 0, 1, -1} {
			ends, code := impl.EndsAt(c.env, c.p, c.s, start, 500)
			codes[code]++
			if code != impl.OK && len(ends) > 0 {
				t.Errorf("EndsAt: %v and %d", ends, code)
			}
		}
	}
	for _, code := range []int64{impl.OK, impl.ErrInvalid, impl.ErrRange, impl.ErrSteps, impl.ErrUndefined, impl.ErrFull} {
		if codes[code] == 0 {
			t.Errorf("no call returned the code %d", code)
		}
	}
}

// TestPatternFunctionsWithStrangeArguments has patterns that are deep, without end or very large, and texts of any bytes.
func TestPatternFunctionsWithStrangeArguments(t *testing.T) {
	rem, long := bare(impl.PtRem), strings.Repeat("arbno(", 500000)
	patterns := []impl.Pattern{
		endlessPattern(1), endlessPattern(100), sharedPattern(200), stacked(5000, rem), tree(impl.PtCat, rem, stacked(5000, rem)), tree(impl.PtAlt, make([]impl.Pattern, 10000)...), tree(impl.PtAlt, rem, tree(impl.PtAlt, endlessPattern(2), rem)),
		texted(impl.PtString, long), texted(impl.PtDefer, long), {Kind: math.MinInt64, Num: math.MaxInt64, Text: "\xff", Kids: []impl.Pattern{endlessPattern(3)}},
	}
	var cases []patternCase
	for i, p := range patterns {
		cases = append(cases, patternCase{p, []impl.Pattern{rem, p, rem}, []impl.Named{{Name: "x", Pattern: rem}, {Name: "y", Pattern: p}}, "x", 100, []impl.Match{{}}})
		cases = append(cases, patternCase{p, patterns[:i], nil, long, math.MinInt64, []impl.Match{{}, {}}})
		cases = append(cases, patternCase{rem, slices.Repeat([]impl.Pattern{p}, 100), envOf(p, numberedNames(100)...), long[:i], math.MaxInt64, []impl.Match{{}}})
	}
	for what, call := range patternFunctions() {
		for i, c := range cases {
			if !equalPatternResults(call(c), call(c)) {
				t.Errorf("%s: another result for case %d", what, i)
			}
			if valid := impl.ValidPattern(c.p); valid != (i%3 == 2) {
				t.Errorf("case %d: valid %t", i, valid)
			}
		}
	}
	for _, s := range strangeTexts() {
		first, ok := impl.ReadPattern(s)
		again, okAgain := impl.ReadPattern(strings.Clone(s))
		checkEqual(t, "ReadPattern: ok", okAgain, ok)
		checkPattern(t, s, again, first)
		matches, code := impl.MatchesOf(nil, texted(impl.PtSpan, s), s, true, 100)
		isValid := len(s) >= 1 && len(s) <= 200
		checkEqual(t, "code", code, map[bool]int64{true: impl.OK, false: impl.ErrInvalid}[isValid])
		checkEqual(t, "matches", len(matches), map[bool]int{true: 1, false: 0}[isValid])
		checkEqual(t, "a literal", impl.IsFullMatch(nil, texted(impl.PtString, s), s, 100), len(s) <= 200)
		p, ok := impl.ReadPattern(impl.QuoteText(s))
		checkEqual(t, "a literal: ok", ok, len(s) <= 200)
		if ok {
			checkPattern(t, s, p, texted(impl.PtString, s))
		}
	}
}

// TestPatternFunctionsDoNotDependOnOtherCalls runs the calls in several goroutines at the same time, with the same arguments.
func TestPatternFunctionsDoNotDependOnOtherCalls(t *testing.T) {
	cases := patternCases(t)
	for what, call := range patternFunctions() {
		var want []patternResult
		for _, c := range cases {
			want = append(want, call(c))
		}
		var group sync.WaitGroup
		for range 4 {
			group.Go(func() {
				for i := range slices.Backward(cases) {
					if !equalPatternResults(call(cases[i]), want[i]) {
						t.Errorf("%s: another result for %.500q", what, fmt.Sprint(cases[i]))
					}
				}
			})
		}
		group.Wait()
	}
}
