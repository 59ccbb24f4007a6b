package tests

import (
	"fmt"
	"math/rand"
	"slices"
	"strings"
	"testing"

	"loop.example/g00873/impl"
)

// The tests of this file are promises 21 and 22. They compare results of
// functions with each other, and not with the model.

// pureSource makes random pure patterns.
type pureSource struct {
	patternSource
}

func (s pureSource) pattern(budget int) impl.Pattern {
	for {
		if p := s.patternSource.pattern(budget); !hasImpureNode(p) {
			return p
		}
	}
}

// env returns an environment with all names that the patterns have.
func (s pureSource) env(budget int) []impl.Named {
	var env []impl.Named
	for _, name := range s.names {
		env = append(env, impl.Named{Name: name, Pattern: s.pattern(budget)})
	}
	return env
}

// eachPureCase calls visit for random cases whose patterns are pure.
func eachPureCase(seed int64, count int, visit func(c lawCase)) {
	source := pureSource{narrowPatterns(seed)}
	for i := range count {
		budget := 1 + i%7
		visit(lawCase{source.env(3), source.pattern(budget), source.pattern(budget), source.pattern(budget), source.subject(6)})
	}
}

// TestPruningKeepsMatches is promise 21: pruning does not change the matches of a pattern.
func TestPruningKeepsMatches(t *testing.T) {
	t.Parallel()
	pruned, found, later, ended := 0, 0, 0, 0
	eachPureCase(151, 9000, func(c lawCase) {
		checkEqual(t, "pure", impl.IsPure(c.env, c.p), true)
		for _, anchored := range []bool{true, false} {
			starts, code := impl.CandidateStarts(c.env, c.p, c.subject, anchored)
			checkEqual(t, "code of CandidateStarts", code, impl.OK)
			all, code := impl.MatchesOf(c.env, c.p, c.subject, anchored, within)
			if code == impl.OK || code == impl.ErrFull && len(all) == 60 {
				checkPruned(t, "the definition", c.env, c.p, c.subject, anchored, within, all, code)
				checkAll(t, "the matcher", c.env, c.p, c.subject, anchored, within, all, code)
				found += len(all)
				if len(starts) <= len(c.subject) && !anchored {
					pruned++
				}
			} else if _, code := impl.PrunedMatches(c.env, c.p, c.subject, anchored, within); code == impl.OK {
				ended++
			}
			first, isFound, steps, code := impl.FirstMatch(c.env, c.p, c.subject, anchored, within)
			if code != impl.OK {
				continue
			}
			r := prunedFirst(c.env, c.p, c.subject, anchored, within)
			checkEqual(t, "no more steps than the matcher", r.steps <= steps, true)
			checkPrunedFirst(t, "the matcher", c.env, c.p, c.subject, anchored, within, firstResult{first, isFound, r.steps, impl.OK})
			if r.steps < steps && isFound {
				later++
			}
		}
	})
	if pruned < 2000 || found < 10000 || later < 300 || ended < 10 {
		t.Errorf("%d cases without some start cursors, %d matches, %d first ones with fewer steps, %d cases that only pruning ends", pruned, found, later, ended)
	}
}

// TestImpurePatternsAreNotPruned is promise 21 for patterns of all kinds, with every code that can be returned.
func TestImpurePatternsAreNotPruned(t *testing.T) {
	t.Parallel()
	codes := map[int64]int{}
	eachLawCase(152, 9000, func(c lawCase) {
		if impl.IsPure(c.env, c.p) {
			return
		}
		for _, anchored := range []bool{true, false} {
			for _, fuel := range []int64{0, 1, 5, 20, within, 20001} {
				all, code := impl.MatchesOf(c.env, c.p, c.subject, anchored, fuel)
				checkPruned(t, "not pure", c.env, c.p, c.subject, anchored, fuel, all, code)
				var first firstResult
				first.match, first.found, first.steps, first.code = impl.FirstMatch(c.env, c.p, c.subject, anchored, fuel)
				checkPrunedFirst(t, "not pure", c.env, c.p, c.subject, anchored, fuel, first)
				codes[code]++
			}
		}
	})
	for _, code := range []int64{impl.OK, impl.ErrSteps, impl.ErrUndefined, impl.ErrFull, impl.ErrRange} {
		if codes[code] < 100 {
			t.Errorf("the code %d was returned only %d times", code, codes[code])
		}
	}
}

// leastFuel returns the least amount of fuel with which a code is not ErrSteps, or more than the greatest one.
func leastFuel(code func(fuel int64) int64) int64 {
	low, high := int64(0), int64(within+1)
	for low < high {
		middle := (low + high) / 2
		if code(middle) == impl.ErrSteps {
			low = middle + 1
		} else {
			high = middle
		}
	}
	return low
}

// TestPruningSavesSteps is promise 21: exactly the steps at the start cursors that are not tried are saved.
func TestPruningSavesSteps(t *testing.T) {
	t.Parallel()
	saved, none := 0, 0
	eachPureCase(153, 4000, func(c lawCase) {
		if _, code := impl.MatchesOf(c.env, c.p, c.subject, false, within); code != impl.OK {
			return
		}
		starts, _ := impl.CandidateStarts(c.env, c.p, c.subject, false)
		all, tried := int64(0), int64(0)
		for at := range int64(len(c.subject) + 1) {
			steps := leastFuel(func(fuel int64) int64 { return second(impl.EndsAt(c.env, c.p, c.subject, at, fuel)) })
			all += steps
			if slices.Contains(starts, at) {
				tried += steps
			}
		}
		checkEqual(t, "all steps", leastFuel(func(fuel int64) int64 { return second(impl.MatchesOf(c.env, c.p, c.subject, false, fuel)) }), all)
		checkEqual(t, "steps of pruned matching", leastFuel(func(fuel int64) int64 { return second(impl.PrunedMatches(c.env, c.p, c.subject, false, fuel)) }), tried)
		if tried < all {
			saved++
		} else {
			none++
		}
	})
	if saved < 500 || none < 500 {
		t.Errorf("steps were saved in %d cases, and not in %d", saved, none)
	}
}

// TestMatchesAreWithinBounds is promise 21: all matches are within the lengths and first bytes, also of patterns that are not pure.
func TestMatchesAreWithinBounds(t *testing.T) {
	t.Parallel()
	shortest, longest, unmatched, first := 0, 0, 0, map[int]int{}
	check := func(c lawCase) {
		lengths, code := impl.LengthsOf(c.env, c.p)
		if code == impl.ErrUndefined {
			return
		}
		bytes, code := impl.FirstBytes(c.env, c.p)
		checkEqual(t, "code of FirstBytes", code, impl.OK)
		starts, code := impl.CandidateStarts(c.env, c.p, c.subject, false)
		checkEqual(t, "code of CandidateStarts", code, impl.OK)
		if lengths == (impl.PatternLengths{Min: 201}) {
			unmatched++
			checkEqual(t, "first bytes without a match", bytes, "")
		} else if lengths.Min < 0 || lengths.Min > lengths.Max || lengths.Max > 200 {
			t.Errorf("lengths %v of %v", lengths, c)
		}
		for at := range int64(len(c.subject) + 1) {
			ends, _ := impl.EndsAt(c.env, c.p, c.subject, at, within)
			if len(ends) > 0 && !slices.Contains(starts, at) {
				t.Errorf("%d is no candidate, but the start of a match of %v", at, c)
			}
			for _, end := range ends {
				n := end - at
				if n < lengths.Min || n > lengths.Max || n > 0 && !strings.Contains(bytes, c.subject[at:at+1]) {
					t.Errorf("a match from %d to %d, lengths %v, first bytes %q for %v", at, end, lengths, bytes, c)
				}
				if n == lengths.Min {
					shortest++
				}
				if n == lengths.Max {
					longest++
				}
				if n > 0 {
					first[len(bytes)]++
				}
			}
		}
	}
	eachLawCase(154, 9000, check)
	eachPureCase(155, 9000, check)
	if shortest < 5000 || longest < 5000 || unmatched < 1000 || first[1] < 1000 || first[2] < 300 || first[256] < 1000 {
		t.Errorf("%d shortest and %d longest matches, %d patterns without one, matches by the number of first bytes: %v", shortest, longest, unmatched, first)
	}
}

// TestSimplificationKeepsMatches is promise 21.
func TestSimplificationKeepsMatches(t *testing.T) {
	t.Parallel()
	changed, found := 0, 0
	check := func(c lawCase) {
		simple := impl.SimplifyPattern(c.p)
		checkEqual(t, "valid", impl.ValidPattern(simple), true)
		checkEqual(t, "no more nodes", impl.CountNodes(simple) <= impl.CountNodes(c.p), true)
		checkSimple(t, "simplified twice", simple, simple)
		if checkSameMatches(t, "simplified", c, simple, c.p) {
			found++
			if !equalPatterns(simple, c.p) {
				changed++
			}
		}
	}
	eachLawCase(156, 6000, check)
	eachPureCase(157, 6000, check)
	if changed < 500 || found < 5000 {
		t.Errorf("%d patterns have matches, and %d of them became simpler", found, changed)
	}
}

// joinedPair returns the joined pattern, which must exist.
func joinedPair(t *testing.T, a, b impl.Pattern) impl.Pattern {
	t.Helper()
	joined, ok := impl.JoinPatterns(a, b)
	checkEqual(t, "JoinPatterns: ok", ok, true)
	checkEqual(t, "a joined pattern is valid", impl.ValidPattern(joined), true)
	return joined
}

// TestJoiningKeepsMatches is promise 21: a joined pattern has the matches of the concatenation, and joining is associative.
func TestJoiningKeepsMatches(t *testing.T) {
	t.Parallel()
	found, three := 0, 0
	empty := texted(impl.PtString, "")
	check := func(c lawCase) {
		left, right := joinedPair(t, c.p, c.q), joinedPair(t, c.q, c.r)
		if checkSameMatches(t, "joined", c, left, tree(impl.PtCat, c.p, c.q)) {
			found++
		}
		checkPattern(t, "the simplified concatenation", left, impl.SimplifyPattern(tree(impl.PtCat, c.p, c.q)))
		checkPattern(t, "simplified before", joinedPair(t, impl.SimplifyPattern(c.p), impl.SimplifyPattern(c.q)), left)
		checkSimple(t, "simplified afterwards", left, left)
		all := joinedPair(t, left, c.r)
		checkPattern(t, "associative", joinedPair(t, c.p, right), all)
		if checkSameMatches(t, "three joined", c, all, tree(impl.PtCat, c.p, tree(impl.PtCat, c.q, c.r))) {
			three++
		}
		checkPattern(t, "the empty string before", joinedPair(t, empty, c.p), impl.SimplifyPattern(c.p))
		checkPattern(t, "the empty string behind", joinedPair(t, c.p, empty), impl.SimplifyPattern(c.p))
		for _, kind := range []int64{impl.PtCat, impl.PtAlt} {
			checkPattern(t, "associative", impl.SimplifyPattern(tree(kind, tree(kind, c.p, c.q), c.r)), impl.SimplifyPattern(tree(kind, c.p, tree(kind, c.q, c.r))))
		}
	}
	eachLawCase(158, 6000, check)
	eachPureCase(159, 6000, check)
	if found < 2000 || three < 1000 {
		t.Errorf("%d joined patterns have matches, and %d of three", found, three)
	}
}

// TestJoinedLongStrings is promise 21 for strings that are too long to become one: the matches are the same in each order of joining.
func TestJoinedLongStrings(t *testing.T) {
	subject := strings.Repeat("a", 200)
	lengths := []int{0, 1, 60, 99, 100, 101, 199, 200}
	for _, i := range lengths {
		for _, j := range lengths {
			for _, k := range lengths {
				a, b, c := texted(impl.PtString, subject[:i]), texted(impl.PtString, subject[:j]), texted(impl.PtString, subject[:k])
				var want []impl.Match
				if i+j+k <= 200 {
					want = []impl.Match{matched(0, int64(i+j+k))}
				}
				for _, p := range []impl.Pattern{joinedPair(t, joinedPair(t, a, b), c), joinedPair(t, a, joinedPair(t, b, c)), impl.SimplifyPattern(tree(impl.PtCat, tree(impl.PtCat, a, b), c)), impl.SimplifyPattern(tree(impl.PtCat, a, tree(impl.PtCat, b, c)))} {
					checkMatches(t, fmt.Sprint(i, j, k), nil, p, subject, true, 10, want, impl.OK)
					checkPruned(t, fmt.Sprint(i, j, k), nil, p, subject, true, 10, want, impl.OK)
					checkSimple(t, "simplified twice", p, p)
					length := staticResult{int64(i + j + k), int64(i + j + k), "a", true, impl.OK}
					if i+j+k > 200 {
						length = staticResult{201, 0, "", true, impl.OK}
					}
					if i+j+k > 0 {
						checkStatic(t, fmt.Sprint(i, j, k), nil, p, length)
					}
				}
			}
		}
	}
}

// assignmentFor returns the assignment of a capture.
func assignmentFor(c impl.Capture) impl.Assignment {
	if c.Kind == impl.CaCursor {
		return num(c.Name, c.Cursor)
	}
	return text(c.Name, c.Text)
}

// TestAssignmentsAreInOrder is promise 22 for the captures of matches: these are in the order in which they take effect.
func TestAssignmentsAreInOrder(t *testing.T) {
	t.Parallel()
	immediate, conditional, several := 0, 0, 0
	eachLawCase(160, 9000, func(c lawCase) {
		matches, _ := impl.MatchesOf(c.env, c.p, c.subject, false, within)
		for _, m := range matches {
			before, behind, _ := split(m)
			immediate, conditional = immediate+len(before), conditional+len(behind)
			var want []impl.Assignment
			for _, x := range m.Captures {
				want = append(want, assignmentFor(x))
			}
			all := impl.AssignmentsOf(m)
			checkList(t, "AssignmentsOf", all, want)
			checkList(t, "ImmediateOf", impl.ImmediateOf(m), want[:len(before)])
			// Captures in another order have the same assignments as long as that of each kind is kept.
			m.Captures = slices.Concat(behind, before)
			checkList(t, "AssignmentsOf", impl.AssignmentsOf(m), want)
			checkList(t, "ImmediateOf", impl.ImmediateOf(m), want[:len(before)])
			if len(impl.FinalOf(all)) < len(all) {
				several++
			}
		}
	})
	if immediate < 2000 || conditional < 1000 || several < 500 {
		t.Errorf("%d immediate and %d conditional captures, %d matches that assign to a name several times", immediate, conditional, several)
	}
}

// TestLastAssignmentRemains is promise 22: the variables are as if all assignments had been made one after the other.
func TestLastAssignmentRemains(t *testing.T) {
	source := rand.New(rand.NewSource(161))
	for range 5000 {
		var list []impl.Assignment
		for range source.Intn(12) {
			name := []string{"x", "y", "z", "X", ""}[source.Intn(5)]
			list = append(list, []impl.Assignment{text(name, fmt.Sprint(source.Intn(3))), num(name, int64(source.Intn(3)))}[source.Intn(2)])
		}
		variables := map[string]impl.Assignment{}
		var names []string
		for _, x := range list {
			variables[x.Name] = x
			if !slices.Contains(names, x.Name) {
				names = append(names, x.Name)
			}
		}
		final := impl.FinalOf(list)
		checkEqual(t, "names", len(final), len(names))
		for i, x := range final {
			checkEqual(t, "order of names", x.Name, names[i])
			checkEqual(t, "the last assignment", x, variables[x.Name])
		}
		checkList(t, "FinalOf twice", impl.FinalOf(final), final)
		half := len(list) / 2
		checkList(t, "FinalOf of parts", impl.FinalOf(slices.Concat(impl.FinalOf(list[:half]), impl.FinalOf(list[half:]))), final)
	}
}

// TestReplacementChangesOnlyTheMatch is promise 22.
func TestReplacementChangesOnlyTheMatch(t *testing.T) {
	for _, subject := range randomSubjects(162, 60, 14, "ab()") {
		for start := range len(subject) + 1 {
			for end := start; end <= len(subject); end++ {
				m := matched(int64(start), int64(end))
				before, after, inside := impl.BeforeMatch(subject, m), impl.AfterMatch(subject, m), impl.MatchText(subject, m)
				checkEqual(t, "the parts of a subject", before+inside+after, subject)
				checkEqual(t, "bytes before", len(before), start)
				for _, text := range []string{"", "x", inside, "ab()ab()ab()"} {
					result, code := impl.ReplaceMatch(subject, m, text)
					checkEqual(t, "code", code, impl.OK)
					checkEqual(t, "length", len(result), len(subject)-(end-start)+len(text))
					replaced := matched(int64(start), int64(start+len(text)))
					checkEqual(t, "before the replacement", impl.BeforeMatch(result, replaced), before)
					checkEqual(t, "the replacement", impl.MatchText(result, replaced), text)
					checkEqual(t, "behind the replacement", impl.AfterMatch(result, replaced), after)
					checkReplaceMatch(t, result, replaced, inside, subject, impl.OK)
				}
			}
		}
	}
}

// replacedParts returns the matches that are replaced, and whether all codes are OK.
func (c lawCase) replacedParts() ([]impl.Match, bool) {
	var parts []impl.Match
	for at := int64(0); at < int64(len(c.subject)); {
		first, code := c.firstAt(at)
		if code != impl.OK {
			return nil, false
		}
		if first <= at {
			at++
			continue
		}
		parts = append(parts, matched(at, first))
		at = first
	}
	return parts, true
}

// firstAt returns the first end cursor at a cursor, or -1, and a code.
func (c lawCase) firstAt(at int64) (int64, int64) {
	first, found, _, code := impl.FirstMatch(c.env, tree(impl.PtCat, numbered(impl.PtTab, at), c.p), c.subject, true, within)
	if code != impl.OK || !found {
		return -1, code
	}
	return first.End, impl.OK
}

// TestReplacingAllChangesTheLength is promise 22.
func TestReplacingAllChangesTheLength(t *testing.T) {
	t.Parallel()
	fixed, counts := 0, map[int]int{}
	check := func(c lawCase) {
		parts, ok := c.replacedParts()
		if !ok {
			return
		}
		counts[len(parts)]++
		lengths, code := impl.LengthsOf(c.env, c.p)
		isFixed := code == impl.OK && lengths.Min == lengths.Max
		removed := int64(0)
		for _, m := range parts {
			removed += m.End - m.Start
		}
		for _, text := range []string{"", "a", "xyz", c.subject} {
			want := c.subject
			for _, m := range slices.Backward(parts) {
				want, _ = impl.ReplaceMatch(want, m, text)
			}
			got := replaceAll(c.env, c.p, c.subject, text, 20000)
			checkEqual(t, fmt.Sprintf("%q instead of all matches of %v", text, c), got, replaceResult{want, int64(len(parts)), impl.OK})
			checkEqual(t, "length", int64(len(got.s)), int64(len(c.subject))-removed+got.count*int64(len(text)))
			if isFixed && got.count > 0 {
				fixed++
				checkEqual(t, "length", int64(len(got.s)), int64(len(c.subject))+got.count*(int64(len(text))-lengths.Min))
			}
		}
	}
	eachLawCase(163, 5000, check)
	eachPureCase(164, 5000, check)
	if fixed < 1000 || counts[0] < 1000 || counts[1] < 1000 || counts[2] < 200 || counts[3] < 50 {
		t.Errorf("%d replacements of matches of one length; by the number of replacements: %v", fixed, counts)
	}
}

// TestReplacingNothing is promise 22: what matches nothing, or the empty string first, changes nothing.
func TestReplacingNothing(t *testing.T) {
	unchanged := 0
	eachLawCase(165, 3000, func(c lawCase) {
		optional := tree(impl.PtAlt, texted(impl.PtString, ""), c.p)
		checkReplaceAll(t, "the empty string first", c.env, optional, c.subject, "x", 20000, replaceResult{c.subject, 0, impl.OK})
		if lengths, code := impl.LengthsOf(c.env, c.p); code != impl.OK || lengths.Max > 0 {
			return
		}
		if got := replaceAll(c.env, c.p, c.subject, "x", 20000); got.code == impl.OK {
			unchanged++
			checkEqual(t, "no match with a byte", got, replaceResult{c.subject, 0, impl.OK})
		}
	})
	if unchanged < 500 {
		t.Errorf("only %d patterns without a byte in a match", unchanged)
	}
}
