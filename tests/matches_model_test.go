package tests

import (
	"fmt"
	"math/rand"
	"slices"
	"strings"
	"testing"

	"loop.example/g00873/impl"
)

// modelIsEnd reports whether e is an end cursor of a node at c, if the node has neither kids nor effects.
func modelIsEnd(p impl.Pattern, s string, c, e int) bool {
	part, rest := s[c:e], s[e:]
	inSet := func(r byte) bool { return strings.Contains(p.Text, string([]byte{r})) }
	members := 0
	for i := range len(part) {
		if inSet(part[i]) {
			members++
		}
	}
	switch p.Kind {
	case impl.PtString:
		return part == p.Text
	case impl.PtAny:
		return len(part) == 1 && members == 1
	case impl.PtNotAny:
		return len(part) == 1 && members == 0
	case impl.PtSpan:
		return len(part) > 0 && members == len(part) && (rest == "" || !inSet(rest[0]))
	case impl.PtBreak:
		return members == 0 && rest != "" && inSet(rest[0])
	case impl.PtLen:
		return int64(len(part)) == p.Num
	case impl.PtPos:
		return c == e && int64(c) == p.Num
	case impl.PtRPos:
		return c == e && int64(len(rest)) == p.Num
	case impl.PtTab:
		return int64(e) == p.Num
	case impl.PtRTab:
		return int64(len(rest)) == p.Num
	case impl.PtRem:
		return rest == ""
	case impl.PtArb:
		return true
	case impl.PtBal:
		return c < e && isBalanced(part)
	}
	return false
}

// isBalanced reports whether a text has as many opening as closing parentheses, and none of its prefixes has more closing ones.
func isBalanced(s string) bool {
	for i := range s {
		if strings.Count(s[:i], ")") > strings.Count(s[:i], "(") {
			return false
		}
	}
	return strings.Count(s, "(") == strings.Count(s, ")")
}

// modelGoal is what is to be done next, and then the goals behind it.
type modelGoal struct {
	act  string
	p    impl.Pattern
	from int
	then *modelGoal
}

// modelBranch is a point to which matching can return.
type modelBranch struct {
	goal   *modelGoal
	at     int
	conds  []impl.Capture
	aborts bool
}

// modelMatching finds matches with a stack of branches, without recursion.
type modelMatching struct {
	env         []impl.Named
	subject     string
	start       int
	steps, fuel int
	branches    []modelBranch
	now         []impl.Capture
	matches     []impl.Match
	code        int64
	isOver      bool
}

func (m *modelMatching) end(code int64) {
	m.code, m.isOver = code, true
	if code != impl.OK {
		m.matches = nil
	}
}

// count counts a step, and reports whether there is fuel for it.
func (m *modelMatching) count() bool {
	if m.steps == m.fuel {
		m.end(impl.ErrSteps)
		return false
	}
	m.steps++
	return true
}

func (m *modelMatching) push(b modelBranch, goal *modelGoal, at int) {
	m.branches = append(m.branches, modelBranch{goal: goal, at: at, conds: b.conds})
}

func (m *modelMatching) capture(b modelBranch, name string, from int, kind int64) {
	c := impl.Capture{Name: name, Text: m.subject[from:b.at], Cursor: int64(b.at), Kind: kind}
	if kind == impl.CaCond {
		b.conds = append(slices.Clone(b.conds), c)
	} else {
		m.now = append(m.now, c)
	}
	if len(m.now)+len(b.conds) > 100 {
		m.end(impl.ErrFull)
		return
	}
	m.push(b, b.goal.then, b.at)
}

func (m *modelMatching) perform(b modelBranch) {
	goal := b.goal
	switch {
	case b.aborts:
		m.end(impl.OK)
	case goal == nil:
		if !m.count() {
			return
		}
		if len(m.matches) == 60 {
			m.code, m.isOver = impl.ErrFull, true
			return
		}
		m.matches = append(m.matches, impl.Match{Start: int64(m.start), End: int64(b.at), Captures: slices.Concat(m.now, b.conds)})
	case goal.act == "again":
		if m.count() {
			m.branches = append(m.branches, b)
			m.push(b, goal.then, b.at)
		}
	case goal.act == "loop":
		if b.at > goal.from {
			m.push(b, &modelGoal{"match", goal.p, 0, goal.then}, b.at)
		}
	case goal.act == "cond":
		m.capture(b, goal.p.Text, goal.from, impl.CaCond)
	case goal.act == "now":
		m.capture(b, goal.p.Text, goal.from, impl.CaNow)
	case m.count():
		m.match(b, goal.p, goal.then)
	}
}

// match pushes what matching a pattern can lead to, the first one last.
func (m *modelMatching) match(b modelBranch, p impl.Pattern, then *modelGoal) {
	below := func(i int, then *modelGoal) *modelGoal { return &modelGoal{"match", p.Kids[i], 0, then} }
	switch p.Kind {
	case impl.PtFence:
		m.branches = append(m.branches, modelBranch{aborts: true})
		m.push(b, then, b.at)
	case impl.PtAbort:
		m.end(impl.OK)
	case impl.PtSucceed:
		m.push(b, &modelGoal{"again", p, 0, then}, b.at)
		m.push(b, then, b.at)
	case impl.PtAlt:
		m.push(b, below(1, then), b.at)
		m.push(b, below(0, then), b.at)
	case impl.PtCat:
		m.push(b, below(0, below(1, then)), b.at)
	case impl.PtArbno:
		m.push(b, below(0, &modelGoal{"loop", p, b.at, then}), b.at)
		m.push(b, then, b.at)
	case impl.PtCond:
		m.push(b, below(0, &modelGoal{"cond", p, b.at, then}), b.at)
	case impl.PtNow:
		m.push(b, below(0, &modelGoal{"now", p, b.at, then}), b.at)
	case impl.PtCursor:
		m.capture(b, p.Text, b.at, impl.CaCursor)
	case impl.PtDefer:
		for _, x := range m.env {
			if x.Name == p.Text {
				m.push(b, &modelGoal{"match", x.Pattern, 0, then}, b.at)
				return
			}
		}
		m.end(impl.ErrUndefined)
	default:
		for e := len(m.subject); e >= b.at; e-- {
			if modelIsEnd(p, m.subject, b.at, e) {
				m.push(b, then, e)
			}
		}
	}
}

// modelResult is what matching yields: the matches, the code and the number of steps.
type modelResult struct {
	matches []impl.Match
	code    int64
	steps   int64
}

// modelMatches returns the matches with the start cursors from first to last.
func modelMatches(env []impl.Named, p impl.Pattern, subject string, first, last int, fuel int64) modelResult {
	m := modelMatching{env: env, subject: subject, fuel: int(fuel)}
	for m.start = first; m.start <= last && !m.isOver; m.start++ {
		m.branches = []modelBranch{{goal: &modelGoal{"match", p, 0, nil}, at: m.start}}
		for len(m.branches) > 0 && !m.isOver {
			b := m.branches[len(m.branches)-1]
			m.branches = m.branches[:len(m.branches)-1]
			m.perform(b)
		}
	}
	return modelResult{m.matches, m.code, int64(m.steps)}
}

// equalMatches reports whether two lists of matches are equal.
func equalMatches(a, b []impl.Match) bool {
	return slices.EqualFunc(a, b, func(x, y impl.Match) bool {
		return x.Start == y.Start && x.End == y.End && slices.Equal(x.Captures, y.Captures)
	})
}

// checkMatches checks what MatchesOf and CountMatches return.
func checkMatches(t *testing.T, what string, env []impl.Named, p impl.Pattern, subject string, anchored bool, fuel int64, want []impl.Match, code int64) {
	t.Helper()
	got, gotCode := impl.MatchesOf(env, p, subject, anchored, fuel)
	if !equalMatches(got, want) || gotCode != code {
		t.Errorf("%s: MatchesOf(%.100q, %.300q, %.60q, %t, %d): got %.400q and %d, want %.400q and %d", what, fmt.Sprint(env), impl.PatternText(p), subject, anchored, fuel, fmt.Sprint(got), gotCode, fmt.Sprint(want), code)
	}
	n, gotCode := impl.CountMatches(env, p, subject, anchored, fuel)
	if n != int64(len(want)) || gotCode != code {
		t.Errorf("%s: CountMatches(%.100q, %.300q, %.60q, %t, %d): got %d and %d, want %d and %d", what, fmt.Sprint(env), impl.PatternText(p), subject, anchored, fuel, n, gotCode, len(want), code)
	}
}

// endsOf returns the end cursors of matches, unless there is an error.
func endsOf(matches []impl.Match, code int64) []int64 {
	if code != impl.OK {
		return nil
	}
	var ends []int64
	for _, m := range matches {
		ends = append(ends, m.End)
	}
	return ends
}

// checkEnds checks what EndsAt returns.
func checkEnds(t *testing.T, what string, env []impl.Named, p impl.Pattern, subject string, start, fuel int64, want []int64, code int64) {
	t.Helper()
	got, gotCode := impl.EndsAt(env, p, subject, start, fuel)
	if !slices.Equal(got, want) || gotCode != code {
		t.Errorf("%s: EndsAt(%.100q, %.300q, %.60q, %d, %d): got %v and %d, want %v and %d", what, fmt.Sprint(env), impl.PatternText(p), subject, start, fuel, got, gotCode, want, code)
	}
}

// fuelsAround returns amounts of fuel that are enough for a number of steps, and some that are not.
func fuelsAround(steps int64) (enough, few []int64) {
	for _, fuel := range []int64{steps, steps + 1, 2*steps + 7, 20000} {
		enough = append(enough, min(fuel, 20000))
	}
	for _, fuel := range []int64{steps - 1, steps - 2, steps / 2, 1, 0} {
		if fuel >= 0 && fuel < steps {
			few = append(few, fuel)
		}
	}
	return enough, few
}

// checkAgainstModel compares all matches and end cursors of a pattern with
// those of the model, for an amount of fuel and for those around the number of
// steps. It returns the result of the model for the unanchored match.
func checkAgainstModel(t *testing.T, env []impl.Named, p impl.Pattern, subject string, fuel int64) modelResult {
	t.Helper()
	var want modelResult
	for _, anchored := range []bool{true, false} {
		want = modelMatches(env, p, subject, 0, map[bool]int{true: 0, false: len(subject)}[anchored], fuel)
		checkMatches(t, "the given fuel", env, p, subject, anchored, fuel, want.matches, want.code)
		if want.code == impl.ErrSteps {
			continue
		}
		enough, few := fuelsAround(want.steps)
		for _, fuel := range enough {
			checkMatches(t, "enough fuel", env, p, subject, anchored, fuel, want.matches, want.code)
		}
		for _, fuel := range few {
			checkMatches(t, "little fuel", env, p, subject, anchored, fuel, nil, impl.ErrSteps)
		}
	}
	for start := range len(subject) + 1 {
		at := modelMatches(env, p, subject, start, start, fuel)
		checkEnds(t, "the given fuel", env, p, subject, int64(start), fuel, endsOf(at.matches, at.code), at.code)
		if at.code == impl.ErrSteps {
			continue
		}
		enough, few := fuelsAround(at.steps)
		checkEnds(t, "enough fuel", env, p, subject, int64(start), enough[0], endsOf(at.matches, at.code), at.code)
		for _, fuel := range few {
			checkEnds(t, "little fuel", env, p, subject, int64(start), fuel, nil, impl.ErrSteps)
		}
	}
	return want
}

// smallLeaves returns nodes without kids, of each kind at least one.
func smallLeaves() []impl.Pattern {
	return []impl.Pattern{
		texted(impl.PtString, ""), texted(impl.PtString, "a"), texted(impl.PtString, "a("), texted(impl.PtAny, "a("), texted(impl.PtNotAny, ")"), texted(impl.PtSpan, "a)"), texted(impl.PtBreak, "("),
		numbered(impl.PtLen, 0), numbered(impl.PtLen, 1), numbered(impl.PtPos, 1), numbered(impl.PtRPos, 1), numbered(impl.PtTab, 2), numbered(impl.PtRTab, 1), bare(impl.PtRem), bare(impl.PtArb), bare(impl.PtBal),
		bare(impl.PtFence), bare(impl.PtAbort), bare(impl.PtFail), bare(impl.PtSucceed), texted(impl.PtCursor, "v"), texted(impl.PtDefer, "x"), texted(impl.PtDefer, "y"), texted(impl.PtDefer, "z"),
	}
}

// smallEnv is an environment in which z is missing, and x refers to itself.
func smallEnv(t *testing.T) []impl.Named {
	t.Helper()
	return []impl.Named{{Name: "x", Pattern: readPattern(t, `alt("a",cat("(",cond(defer(x),w)))`)}, {Name: "y", Pattern: readPattern(t, "cat(now(arb,u),defer(x))")}}
}

// aboveAll returns all nodes whose kids are in a list.
func aboveAll(list []impl.Pattern) []impl.Pattern {
	var above []impl.Pattern
	for _, p := range list {
		above = append(above, tree(impl.PtArbno, p), capturing(impl.PtCond, p, "c"), capturing(impl.PtNow, p, "n"))
		for _, q := range list {
			above = append(above, tree(impl.PtAlt, p, q), tree(impl.PtCat, p, q))
		}
	}
	return above
}

// TestSmallPatternsAgainstModel has all patterns of up to three nodes, and the nodes above these.
func TestSmallPatternsAgainstModel(t *testing.T) {
	env := smallEnv(t)
	leaves := smallLeaves()
	small := aboveAll(leaves)
	codes := map[int64]int{}
	check := func(p impl.Pattern, subjects ...string) {
		for _, s := range subjects {
			codes[checkAgainstModel(t, env, p, s, 200).code]++
		}
	}
	eachText("a()", 3, func(s string) {
		for _, p := range leaves {
			check(p, s)
		}
	})
	for _, p := range small {
		check(p, "", "a", "a(", "(a)a", "a)a(")
	}
	for i, p := range small {
		check(tree(impl.PtArbno, p), "", "aa(")
		check(capturing(impl.PtCond, p, "d"), "(a)")
		check(capturing(impl.PtNow, p, "m"), "(a)")
		leaf := leaves[i%len(leaves)]
		check(tree(impl.PtAlt, p, leaf), "a(a")
		check(tree(impl.PtAlt, leaf, p), "a(a")
		check(tree(impl.PtCat, p, leaf), "a(a")
		check(tree(impl.PtCat, leaf, p), "a(a")
	}
	for _, code := range []int64{impl.OK, impl.ErrSteps, impl.ErrUndefined, impl.ErrFull} {
		if codes[code] < 50 {
			t.Errorf("the code %d was returned only %d times", code, codes[code])
		}
	}
}

// narrowPatterns returns a source of patterns that match in short subjects.
func narrowPatterns(seed int64) patternSource {
	return patternSource{rand.New(rand.NewSource(seed)), []string{"a", "b", "ab", "(", ")", "a(", "()", "ba)"}, []string{"x", "y", "z", "u"}, 4}
}

// env returns a random environment of up to three elements.
func (s patternSource) env(budget int) []impl.Named {
	var env []impl.Named
	for i := range s.Intn(4) {
		env = append(env, impl.Named{Name: s.names[(i+s.Intn(2)*2)%4], Pattern: s.pattern(budget)})
	}
	if !impl.ValidEnv(env) {
		return s.env(budget)
	}
	return env
}

// subject returns a random subject of up to length bytes.
func (s patternSource) subject(length int) string {
	var text strings.Builder
	for range s.Intn(length + 1) {
		text.WriteByte("aaab()"[s.Intn(6)])
	}
	return text.String()
}

func TestRandomPatternsAgainstModel(t *testing.T) {
	source := narrowPatterns(71)
	codes := map[int64]int{}
	captures := 0
	for i := range 15000 {
		env := source.env(1 + i%9)
		result := checkAgainstModel(t, env, source.pattern(1+i%17), source.subject(6), int64(source.Intn(500)))
		codes[result.code]++
		for _, m := range result.matches {
			captures += len(m.Captures)
		}
	}
	for _, code := range []int64{impl.OK, impl.ErrSteps, impl.ErrUndefined, impl.ErrFull} {
		if codes[code] < 100 {
			t.Errorf("the code %d was returned only %d times", code, codes[code])
		}
	}
	if captures < 5000 {
		t.Errorf("only %d captures", captures)
	}
}

// TestLongSubjectsAgainstModel has subjects of up to MaxString bytes, and as much fuel as there can be.
func TestLongSubjectsAgainstModel(t *testing.T) {
	source := narrowPatterns(72)
	codes := map[int64]int{}
	for i := range 400 {
		env, p := source.env(5), source.pattern(1+i%12)
		subject := strings.Repeat(source.subject(20), 10)
		want := modelMatches(env, p, subject, 0, len(subject), 20000)
		checkMatches(t, "the greatest fuel", env, p, subject, false, 20000, want.matches, want.code)
		if want.steps > 0 {
			checkMatches(t, "one step less", env, p, subject, false, want.steps-1, nil, impl.ErrSteps)
		}
		codes[want.code]++
	}
	if codes[impl.OK] < 20 || codes[impl.ErrFull] < 20 || codes[impl.ErrSteps] < 5 {
		t.Error("few results with some code:", codes)
	}
}
