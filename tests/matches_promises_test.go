package tests

import (
	"fmt"
	"math/rand"
	"slices"
	"strings"
	"testing"

	"loop.example/g00873/impl"
)

// The tests of this file are promises 14 to 17. They compare results of the
// functions of chapter 12 with each other, and not with the model.

// within is fuel that is enough for most patterns of these tests, but not for those without end.
const within = 3000

// hasKind reports whether a pattern, or one of an environment, has a node of some kinds. Their literals must have no words.
func hasKind(env []impl.Named, p impl.Pattern, kinds ...int64) bool {
	_, text := modelPattern(p)
	for _, x := range env {
		_, named := modelPattern(x.Pattern)
		text += " " + named
	}
	for _, kind := range kinds {
		if strings.Contains(text, patternFields[kind].word) {
			return true
		}
	}
	return false
}

// lawCase is an environment with three patterns and a subject.
type lawCase struct {
	env     []impl.Named
	p, q, r impl.Pattern
	subject string
}

// eachLawCase calls visit for random cases.
func eachLawCase(seed int64, count int, visit func(c lawCase)) {
	source := narrowPatterns(seed)
	for i := range count {
		budget := 1 + i%7
		visit(lawCase{source.env(4), source.pattern(budget), source.pattern(budget), source.pattern(budget), source.subject(5)})
	}
}

// endsAt returns the end cursors of a pattern at a cursor, and whether the code is OK.
func (c lawCase) endsAt(p impl.Pattern, at int64) ([]int64, bool) {
	ends, code := impl.EndsAt(c.env, p, c.subject, at, within)
	return ends, code == impl.OK
}

// followed returns the end cursors of a pattern at each of some cursors, and whether all codes are OK.
func (c lawCase) followed(p impl.Pattern, at []int64) ([]int64, bool) {
	var all []int64
	for _, cursor := range at {
		ends, ok := c.endsAt(p, cursor)
		if !ok {
			return nil, false
		}
		all = append(all, ends...)
	}
	return all, true
}

func (c lawCase) String() string {
	return fmt.Sprintf("%s, %s and %s in %q with %v", impl.PatternText(c.p), impl.PatternText(c.q), impl.PatternText(c.r), c.subject, c.env)
}

// TestEndsAreComposed is promise 14: the end cursors of an alternation, a concatenation and a repetition.
func TestEndsAreComposed(t *testing.T) {
	composed := map[string]int{}
	eachLawCase(81, 12000, func(c lawCase) {
		// These end the whole match, so that what follows them is not reached.
		if hasKind(c.env, tree(impl.PtCat, c.p, c.q), impl.PtFence, impl.PtAbort) {
			return
		}
		loop := tree(impl.PtArbno, c.p)
		for at := range int64(len(c.subject) + 1) {
			first, ok := c.endsAt(c.p, at)
			if !ok {
				continue
			}
			check := func(what string, p impl.Pattern, want []int64) {
				ends, ok := c.endsAt(p, at)
				if !ok {
					return
				}
				composed[what]++
				if !slices.Equal(ends, want) {
					t.Errorf("%s at %d: got %v, want %v for %v", what, at, ends, want, c)
				}
			}
			if second, ok := c.endsAt(c.q, at); ok {
				check("alternation", tree(impl.PtAlt, c.p, c.q), slices.Concat(first, second))
			}
			if both, ok := c.followed(c.q, first); ok {
				check("concatenation", tree(impl.PtCat, c.p, c.q), both)
			}
			longer := slices.DeleteFunc(slices.Clone(first), func(end int64) bool { return end == at })
			if rest, ok := c.followed(loop, longer); ok {
				check("repetition", loop, append([]int64{at}, rest...))
			}
			check("conditional capture", capturing(impl.PtCond, c.p, "n"), first)
			check("immediate capture", capturing(impl.PtNow, c.p, "n"), first)
		}
	})
	for _, what := range []string{"alternation", "concatenation", "repetition", "conditional capture", "immediate capture"} {
		if composed[what] < 3000 {
			t.Errorf("%s: only %d times", what, composed[what])
		}
	}
}

// checkSameMatches checks that two patterns have the same matches with the same captures, and reports whether there are any.
func checkSameMatches(t *testing.T, what string, c lawCase, p, q impl.Pattern) bool {
	t.Helper()
	found := false
	for _, anchored := range []bool{true, false} {
		first, code := impl.MatchesOf(c.env, p, c.subject, anchored, within)
		second, other := impl.MatchesOf(c.env, q, c.subject, anchored, within)
		if code == impl.ErrSteps || other == impl.ErrSteps {
			continue
		}
		if code != other || !impl.SameMatches(first, second) {
			t.Errorf("%s: %.300q and %d, %.300q and %d for %v", what, fmt.Sprint(first), code, fmt.Sprint(second), other, c)
		}
		found = found || len(first) > 0
	}
	return found
}

// TestLawsOfMatches is promise 14: alternation and concatenation are associative and have neutral elements.
func TestLawsOfMatches(t *testing.T) {
	empty, fail := texted(impl.PtString, ""), bare(impl.PtFail)
	found := map[string]int{}
	eachLawCase(82, 6000, func(c lawCase) {
		for _, kind := range []int64{impl.PtAlt, impl.PtCat} {
			what := fmt.Sprint("associative ", kind)
			if checkSameMatches(t, what, c, tree(kind, tree(kind, c.p, c.q), c.r), tree(kind, c.p, tree(kind, c.q, c.r))) {
				found[what]++
			}
		}
		for what, p := range map[string]impl.Pattern{"empty first": tree(impl.PtCat, empty, c.p), "empty last": tree(impl.PtCat, c.p, empty), "fail first": tree(impl.PtAlt, fail, c.p), "fail last": tree(impl.PtAlt, c.p, fail)} {
			if checkSameMatches(t, what, c, p, c.p) {
				found[what]++
			}
		}
		cat, isCat := impl.CatOf([]impl.Pattern{c.p, c.q, c.r})
		alt, isAlt := impl.AltOf([]impl.Pattern{c.p, c.q, c.r})
		if isCat && checkSameMatches(t, "CatOf", c, cat, tree(impl.PtCat, tree(impl.PtCat, c.p, c.q), c.r)) {
			found["CatOf"]++
		}
		if isAlt && checkSameMatches(t, "AltOf", c, alt, tree(impl.PtAlt, tree(impl.PtAlt, c.p, c.q), c.r)) {
			found["AltOf"]++
		}
		checkSameMatches(t, "fail before", c, tree(impl.PtCat, fail, c.p), fail)
		checkSameMatches(t, "abort before", c, tree(impl.PtCat, bare(impl.PtAbort), c.p), bare(impl.PtAbort))
		checkSameMatches(t, "abort before an alternative", c, tree(impl.PtAlt, bare(impl.PtAbort), c.p), bare(impl.PtAbort))
	})
	for _, what := range []string{"associative 18", "associative 19", "empty first", "empty last", "fail first", "fail last", "CatOf", "AltOf"} {
		if found[what] < 300 {
			t.Errorf("%s: matches only %d times", what, found[what])
		}
	}
}

// stepsOf returns the least amount of fuel with which the code is not ErrSteps.
func stepsOf(c lawCase, anchored bool) int64 {
	low, high := int64(0), int64(within)
	for low < high {
		middle := (low + high) / 2
		if _, code := impl.MatchesOf(c.env, c.p, c.subject, anchored, middle); code == impl.ErrSteps {
			low = middle + 1
		} else {
			high = middle
		}
	}
	return low
}

// TestFuel is promise 15: exactly as much fuel as there are steps is needed, and more changes nothing.
func TestFuel(t *testing.T) {
	codes := map[int64]int{}
	eachLawCase(83, 3000, func(c lawCase) {
		for _, anchored := range []bool{true, false} {
			want, code := impl.MatchesOf(c.env, c.p, c.subject, anchored, within)
			codes[code]++
			if code == impl.ErrSteps {
				continue
			}
			steps := stepsOf(c, anchored)
			for _, fuel := range []int64{0, steps / 3, steps / 2, steps - 1, steps, steps + 1, steps + 2, 2 * steps, 20000} {
				if fuel >= steps {
					checkMatches(t, "enough fuel", c.env, c.p, c.subject, anchored, fuel, want, code)
				} else if fuel >= 0 {
					checkMatches(t, "little fuel", c.env, c.p, c.subject, anchored, fuel, nil, impl.ErrSteps)
				}
			}
		}
	})
	for _, code := range []int64{impl.OK, impl.ErrSteps, impl.ErrUndefined, impl.ErrFull} {
		if codes[code] < 20 {
			t.Errorf("the code %d was returned only %d times", code, codes[code])
		}
	}
}

// TestAnchoredMatchesComeFirst is promise 15.
func TestAnchoredMatchesComeFirst(t *testing.T) {
	more, none := 0, 0
	eachLawCase(84, 6000, func(c lawCase) {
		anchored, code := impl.MatchesOf(c.env, c.p, c.subject, true, within)
		all, other := impl.MatchesOf(c.env, c.p, c.subject, false, within)
		if code != impl.OK || other != impl.OK {
			return
		}
		if len(all) < len(anchored) || !impl.SameMatches(all[:len(anchored)], anchored) {
			t.Errorf("%.300q, unanchored %.300q for %v", fmt.Sprint(anchored), fmt.Sprint(all), c)
			return
		}
		last := int64(0)
		for i, m := range all {
			if (m.Start == 0) != (i < len(anchored)) || m.Start < last || m.End < m.Start {
				t.Errorf("the match %v of %v", m, c)
			}
			last = m.Start
		}
		if len(all) > len(anchored) {
			more++
		} else if len(anchored) > 0 {
			none++
		}
	})
	if more < 300 || none < 300 {
		t.Errorf("%d cases have more matches, %d have none", more, none)
	}
}

// TestMatchesOfPurePatterns is promise 15: they are the end cursors at each start cursor.
func TestMatchesOfPurePatterns(t *testing.T) {
	pure := 0
	eachLawCase(85, 12000, func(c lawCase) {
		matches, code := impl.MatchesOf(c.env, c.p, c.subject, false, within)
		if code != impl.OK || hasKind(c.env, c.p, impl.PtFence, impl.PtAbort, impl.PtSucceed, impl.PtNow, impl.PtCursor) {
			return
		}
		pure++
		var want []impl.Match
		for start := range int64(len(c.subject) + 1) {
			ends, code := impl.EndsAt(c.env, c.p, c.subject, start, within)
			checkEqual(t, "code", code, impl.OK)
			for _, end := range ends {
				want = append(want, matched(start, end))
			}
		}
		for i := range matches {
			matches[i].Captures = nil
		}
		if !equalMatches(matches, want) {
			t.Errorf("%v instead of %v for %v", matches, want, c)
		}
	})
	if pure < 1000 {
		t.Errorf("only %d patterns were pure", pure)
	}
}

// TestReferencesHaveTheMatchesOfTheirPatterns is promise 15. A reference needs one step more at each start cursor.
func TestReferencesHaveTheMatchesOfTheirPatterns(t *testing.T) {
	compared := 0
	eachLawCase(86, 8000, func(c lawCase) {
		for _, x := range c.env {
			reference := texted(impl.PtDefer, x.Name)
			if checkSameMatches(t, x.Name, c, reference, x.Pattern) {
				compared++
			}
			want, code := impl.EndsAt(c.env, x.Pattern, c.subject, 0, within)
			if code == impl.ErrSteps {
				continue
			}
			checkEnds(t, x.Name, c.env, reference, c.subject, 0, within+1, want, code)
			named := lawCase{env: c.env, p: x.Pattern, subject: c.subject}
			referring := lawCase{env: c.env, p: reference, subject: c.subject}
			if steps := stepsOf(named, true); steps < within {
				checkEqual(t, "steps of the reference", stepsOf(referring, true), steps+1)
			}
			p, ok := impl.LookupNamed(c.env, x.Name)
			checkEqual(t, x.Name+": ok", ok, true)
			checkPattern(t, x.Name, p, x.Pattern)
		}
	})
	if compared < 2000 {
		t.Errorf("only %d references have matches", compared)
	}
}

// randomSubjects returns the same subjects in every run.
func randomSubjects(seed int64, count, length int, alphabet string) []string {
	source := rand.New(rand.NewSource(seed))
	var list []string
	for range count {
		text := make([]byte, source.Intn(length+1))
		for i := range text {
			text[i] = alphabet[source.Intn(len(alphabet))]
		}
		list = append(list, string(text))
	}
	return list
}

// subjectsOf returns all short subjects of an alphabet, and some long ones.
func subjectsOf(alphabet string) []string {
	var list []string
	eachText(alphabet, 5, func(s string) { list = append(list, s) })
	return append(list, randomSubjects(87, 300, 59, alphabet)...)
}

// ends returns the end cursors of a pattern at a cursor of a subject.
func ends(t *testing.T, p, subject string, at int) []int64 {
	t.Helper()
	list, code := impl.EndsAt(nil, readPattern(t, p), subject, int64(at), 20000)
	checkEqual(t, p+": code", code, impl.OK)
	return list
}

// TestBalYieldsBalancedText is promise 16.
func TestBalYieldsBalancedText(t *testing.T) {
	for _, s := range subjectsOf("(a)") {
		for at := range len(s) + 1 {
			depth := 0
			var want []int64
			for i := at; i < len(s) && depth >= 0; i++ {
				depth += map[byte]int{'(': 1, ')': -1}[s[i]]
				if depth == 0 {
					want = append(want, int64(i+1))
				}
			}
			got := ends(t, "bal", s, at)
			checkList(t, fmt.Sprintf("bal in %q at %d", s, at), got, want)
			for _, end := range got {
				checkEqual(t, "balanced", isBalanced(s[at:end]) && end > int64(at), true)
			}
		}
	}
}

// TestSpanAndBreakRespectTheirSets is promise 16.
func TestSpanAndBreakRespectTheirSets(t *testing.T) {
	for _, s := range subjectsOf("abc") {
		for _, set := range []string{"a", "b", "ab", "ca", "abc", "d"} {
			for at := range len(s) + 1 {
				rest := s[at:]
				inSet := len(rest) - len(strings.TrimLeft(rest, set))
				what := fmt.Sprintf("%s in %q at %d", set, s, at)
				var span, stop []int64
				if inSet > 0 {
					span = []int64{int64(at + inSet)}
				}
				if before := strings.IndexAny(rest, set); before >= 0 {
					stop = []int64{int64(at + before)}
				}
				checkList(t, "span of "+what, ends(t, `span("`+set+`")`, s, at), span)
				checkList(t, "break of "+what, ends(t, `break("`+set+`")`, s, at), stop)
				checkList(t, "break and any of "+what, ends(t, `cat(break("`+set+`"),any("`+set+`"))`, s, at), after1(stop))
				checkList(t, "break and notany of "+what, ends(t, `cat(break("`+set+`"),notany("`+set+`"))`, s, at), nil)
				checkList(t, "span and any of "+what, ends(t, `cat(span("`+set+`"),any("`+set+`"))`, s, at), nil)
				either := len(ends(t, `any("`+set+`")`, s, at)) + len(ends(t, `notany("`+set+`")`, s, at))
				checkEqual(t, "any or notany of "+what, either, min(1, len(rest)))
			}
		}
	}
}

// after1 returns the cursors that follow some cursors directly.
func after1(list []int64) []int64 {
	var next []int64
	for _, at := range list {
		next = append(next, at+1)
	}
	return next
}

// TestCursorPatternsFitTogether is promise 16.
func TestCursorPatternsFitTogether(t *testing.T) {
	for _, s := range []string{"", "a", "ab", "abcde", strings.Repeat("x", 30)} {
		n := len(s)
		for at := range n + 1 {
			checkList(t, "rem", ends(t, "rem", s, at), []int64{int64(n)})
			for k := range n + 3 {
				what := fmt.Sprintf("%d in %q at %d", k, s, at)
				only := func(holds bool, end int) []int64 {
					if !holds {
						return nil
					}
					return []int64{int64(end)}
				}
				for p, want := range map[string][]int64{
					"len(%d)":                      only(at+k <= n, at+k),
					"pos(%d)":                      only(at == k, at),
					"rpos(%d)":                     only(at == n-k, at),
					"tab(%d)":                      only(at <= k && k <= n, k),
					"rtab(%d)":                     only(at <= n-k, n-k),
					"cat(tab(%d),pos(%[1]d))":      only(at <= k && k <= n, k),
					"cat(rtab(%d),rpos(%[1]d))":    only(at <= n-k, n-k),
					"cat(arb,pos(%d))":             only(at <= k && k <= n, k),
					"cat(arb,rpos(%d))":            only(at <= n-k, n-k),
					"cat(pos(%d),len(0))":          only(at == k, at),
					"cat(pos(%d),tab(%[1]d))":      only(at == k, at),
					"cat(rpos(%d),rtab(%[1]d))":    only(at == n-k, at),
					"cat(rpos(%d),len(%[1]d))":     only(at == n-k, n),
					"cat(rtab(%d),len(%[1]d))":     only(at <= n-k, n),
					"cat(cat(len(%d),rem),tab(0))": only(at+k <= n && n == 0, 0),
				} {
					checkList(t, p+" with "+what, ends(t, fmt.Sprintf(p, k), s, at), want)
				}
			}
		}
	}
}

// TestCursorsAreCaptured is promise 16: a PtCursor records where it is matched.
func TestCursorsAreCaptured(t *testing.T) {
	for _, s := range []string{"", "abc", strings.Repeat("x", 59)} {
		matches, code := impl.MatchesOf(nil, readPattern(t, "cat(arb,cursor(x))"), s, true, 20000)
		checkEqual(t, "code", code, impl.OK)
		checkEqual(t, "matches", len(matches), len(s)+1)
		for i, m := range matches {
			checkEqual(t, "end", m.End, int64(i))
			checkEqual(t, "captures", len(m.Captures), i+1)
			checkEqual(t, "last capture", m.Captures[i], cursor("x", m.End))
		}
	}
}

// TestNoBacktrackingBehindFence is promise 16: only the first end cursor before
// a PtFence is used, and only at the first start cursor that has one.
func TestNoBacktrackingBehindFence(t *testing.T) {
	fence := bare(impl.PtFence)
	found, later, several := 0, 0, 0
	eachLawCase(88, 24000, func(c lawCase) {
		if hasKind(c.env, tree(impl.PtCat, c.p, c.q), impl.PtFence, impl.PtAbort, impl.PtNow, impl.PtCursor, impl.PtCond) {
			return
		}
		var want []impl.Match
		for start := range int64(len(c.subject) + 1) {
			before, ok := c.endsAt(c.p, start)
			if !ok {
				return
			}
			if len(before) == 0 {
				continue
			}
			behind, ok := c.endsAt(c.q, before[0])
			if !ok {
				return
			}
			for _, end := range behind {
				want = append(want, matched(start, end))
			}
			found += len(want)
			if start > 0 {
				later++
			}
			if len(before) > 1 {
				several++
			}
			break
		}
		checkMatches(t, "fence", c.env, tree(impl.PtCat, c.p, tree(impl.PtCat, fence, c.q)), c.subject, false, within, want, impl.OK)
		checkMatches(t, "fence, associated to the left", c.env, tree(impl.PtCat, tree(impl.PtCat, c.p, fence), c.q), c.subject, false, within, want, impl.OK)
	})
	if found < 500 || later < 100 || several < 100 {
		t.Errorf("%d matches, %d cases with a later start, %d with several end cursors", found, later, several)
	}
}

// isOfKind returns a condition on captures.
func isOfKind(kinds ...int64) func(c impl.Capture) bool {
	return func(c impl.Capture) bool { return slices.Contains(kinds, c.Kind) }
}

// split returns the immediate captures of a match and the conditional ones, and whether they are in this order.
func split(m impl.Match) (immediate, conditional []impl.Capture, ok bool) {
	isConditional := isOfKind(impl.CaCond)
	for _, c := range m.Captures {
		if isConditional(c) {
			conditional = append(conditional, c)
		} else {
			immediate = append(immediate, c)
		}
	}
	return immediate, conditional, slices.Equal(slices.Concat(immediate, conditional), m.Captures)
}

// TestPartsAreCaptured is promise 17: conditional captures are parts of the match in ascending order, and immediate captures are never removed.
func TestPartsAreCaptured(t *testing.T) {
	kinds := map[int64]int{}
	eachLawCase(89, 12000, func(c lawCase) {
		matches, code := impl.MatchesOf(c.env, c.p, c.subject, false, within)
		if code != impl.OK && code != impl.ErrFull {
			return
		}
		var recorded []impl.Capture
		for _, m := range matches {
			immediate, conditional, ok := split(m)
			checkEqual(t, "immediate captures come first", ok, true)
			if len(immediate) < len(recorded) || !slices.Equal(immediate[:len(recorded)], recorded) {
				t.Errorf("%v, then %v for %v", recorded, immediate, c)
			}
			recorded = immediate
			last := m.Start
			for _, x := range m.Captures {
				kinds[x.Kind]++
				from := x.Cursor - int64(len(x.Text))
				isText := from >= 0 && x.Cursor <= int64(len(c.subject)) && c.subject[from:x.Cursor] == x.Text
				checkEqual(t, "text before the cursor", isText && (x.Kind != impl.CaCursor || x.Text == ""), true)
			}
			for _, x := range conditional {
				if x.Cursor < last || x.Cursor > m.End || x.Cursor-int64(len(x.Text)) < m.Start {
					t.Errorf("%v is not in order in %v for %v", x, m, c)
				}
				last = x.Cursor
			}
		}
	})
	for _, kind := range []int64{impl.CaCond, impl.CaNow, impl.CaCursor} {
		if kinds[kind] < 1000 {
			t.Errorf("only %d captures of the kind %d", kinds[kind], kind)
		}
	}
}

// TestCapturesOfOneNode is promise 17 for a capture of the whole pattern: its text is that of the match.
func TestCapturesOfOneNode(t *testing.T) {
	captured := 0
	eachLawCase(90, 9000, func(c lawCase) {
		want, code := impl.MatchesOf(c.env, c.p, c.subject, false, within)
		if code != impl.OK || hasKind(c.env, c.p, impl.PtNow, impl.PtCond, impl.PtCursor) {
			return
		}
		var conditional, immediate []impl.Match
		var recorded []impl.Capture
		for _, m := range want {
			captured++
			text := impl.MatchText(c.subject, m)
			recorded = append(recorded, now("k", text, m.End))
			conditional = append(conditional, matched(m.Start, m.End, cond("k", text, m.End)))
			immediate = append(immediate, matched(m.Start, m.End, slices.Clone(recorded)...))
		}
		checkMatches(t, "conditional", c.env, capturing(impl.PtCond, c.p, "k"), c.subject, false, 20000, conditional, impl.OK)
		checkMatches(t, "immediate", c.env, capturing(impl.PtNow, c.p, "k"), c.subject, false, 20000, immediate, impl.OK)
	})
	if captured < 3000 {
		t.Errorf("only %d matches", captured)
	}
}
