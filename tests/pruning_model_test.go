package tests

import (
	"fmt"
	"slices"
	"strings"
	"testing"

	"loop.example/g00873/impl"
)

// modelStatic is what is known of a pattern without a subject. It is zero for a pattern that cannot match.
type modelStatic struct {
	matches  bool
	min, max int
	first    [256]bool
}

// modelSet returns a set with the bytes of a text, or with all others.
func modelSet(s string, isIn bool) [256]bool {
	var set [256]bool
	for i := range set {
		set[i] = !isIn
	}
	for _, b := range []byte(s) {
		set[b] = isIn
	}
	return set
}

// modelLeaf returns what is known of a pattern without kids and references.
func modelLeaf(p impl.Pattern) modelStatic {
	all, none := modelSet("", false), modelSet("", true)
	number := int(p.Num)
	var leaf modelStatic
	switch p.Kind {
	case impl.PtFail, impl.PtAbort:
		return leaf
	case impl.PtString:
		leaf = modelStatic{true, len(p.Text), len(p.Text), none}
		if p.Text != "" {
			leaf.first[p.Text[0]] = true
		}
	case impl.PtAny:
		leaf = modelStatic{true, 1, 1, modelSet(p.Text, true)}
	case impl.PtNotAny:
		leaf = modelStatic{true, 1, 1, modelSet(p.Text, false)}
	case impl.PtSpan:
		leaf = modelStatic{true, 1, 200, modelSet(p.Text, true)}
	case impl.PtBreak:
		leaf = modelStatic{true, 0, 199, modelSet(p.Text, false)}
	case impl.PtBal:
		leaf = modelStatic{true, 1, 200, modelSet(")", false)}
	case impl.PtLen:
		leaf = modelStatic{true, number, number, all}
	case impl.PtTab:
		leaf = modelStatic{true, 0, number, all}
	case impl.PtRTab:
		leaf = modelStatic{true, 0, 200 - number, all}
	case impl.PtRem, impl.PtArb:
		leaf = modelStatic{true, 0, 200, all}
	default:
		leaf.matches = true
	}
	if leaf.max == 0 {
		leaf.first = none
	}
	return leaf
}

// modelOf returns what is known of a pattern if something is known of those to which it refers.
func modelOf(p impl.Pattern, known map[string]modelStatic) modelStatic {
	var kids []modelStatic
	for _, kid := range p.Kids {
		kids = append(kids, modelOf(kid, known))
	}
	union := func(a, b [256]bool) [256]bool {
		for i := range a {
			a[i] = a[i] || b[i]
		}
		return a
	}
	switch p.Kind {
	case impl.PtDefer:
		return known[p.Text]
	case impl.PtCond, impl.PtNow:
		return kids[0]
	case impl.PtArbno:
		if kids[0].max == 0 {
			return modelStatic{matches: true}
		}
		return modelStatic{true, 0, 200, kids[0].first}
	case impl.PtAlt:
		a, b := kids[0], kids[1]
		switch {
		case !a.matches:
			return b
		case !b.matches:
			return a
		}
		return modelStatic{true, min(a.min, b.min), max(a.max, b.max), union(a.first, b.first)}
	case impl.PtCat:
		a, b := kids[0], kids[1]
		if !a.matches || !b.matches || a.min+b.min > 200 {
			return modelStatic{}
		}
		both := modelStatic{true, a.min + b.min, min(a.max+b.max, 200), a.first}
		if a.min == 0 {
			both.first = union(a.first, b.first)
		}
		return both
	}
	return modelLeaf(p)
}

// pruningModel is an environment with what is known of its patterns.
type pruningModel struct {
	env   []impl.Named
	known map[string]modelStatic
}

// newPruningModel computes what is known in rounds: each one begins with the results of the round before.
func newPruningModel(env []impl.Named) pruningModel {
	known := map[string]modelStatic{}
	for {
		next := map[string]modelStatic{}
		isSame := true
		for _, x := range env {
			next[x.Name] = modelOf(x.Pattern, known)
			isSame = isSame && next[x.Name] == known[x.Name]
		}
		if isSame {
			return pruningModel{env, next}
		}
		known = next
	}
}

// modelReached returns a pattern and those to which it refers, and whether all of them are in the environment.
func modelReached(env []impl.Named, p impl.Pattern) ([]impl.Pattern, bool) {
	seen := map[string]bool{}
	list, ok := []impl.Pattern{}, true
	var visit func(p impl.Pattern)
	visit = func(p impl.Pattern) {
		list = append(list, p)
		for _, name := range modelNames(p) {
			at := slices.IndexFunc(env, func(x impl.Named) bool { return x.Name == name })
			ok = ok && at >= 0
			if at >= 0 && !seen[name] {
				seen[name] = true
				visit(env[at].Pattern)
			}
		}
	}
	visit(p)
	return list, ok
}

// hasImpureNode reports whether a pattern has a node of a kind with an effect beside its matches.
func hasImpureNode(p impl.Pattern) bool {
	switch p.Kind {
	case impl.PtFence, impl.PtAbort, impl.PtSucceed, impl.PtNow, impl.PtCursor:
		return true
	}
	return slices.ContainsFunc(p.Kids, hasImpureNode)
}

func (m pruningModel) isPure(p impl.Pattern) bool {
	list, ok := modelReached(m.env, p)
	return ok && !slices.ContainsFunc(list, hasImpureNode)
}

func (m pruningModel) static(p impl.Pattern) modelStatic {
	return modelOf(p, m.known)
}

// modelStarts returns the candidate cursors.
func modelStarts(static modelStatic, subject string, anchored bool) []int64 {
	var starts []int64
	for at := range len(subject) + 1 {
		rest := subject[at:]
		isCandidate := static.matches && len(rest) >= static.min && (static.min == 0 || static.first[rest[0]])
		if isCandidate && (at == 0 || !anchored) {
			starts = append(starts, int64(at))
		}
	}
	return starts
}

// staticResult is all that is returned for a pattern without a subject.
type staticResult struct {
	min, max int64
	first    string
	isPure   bool
	code     int64
}

// staticOf calls the functions that have no subject.
func staticOf(t *testing.T, env []impl.Named, p impl.Pattern) staticResult {
	t.Helper()
	lengths, code := impl.LengthsOf(env, p)
	first, other := impl.FirstBytes(env, p)
	checkEqual(t, "code of FirstBytes", other, code)
	return staticResult{lengths.Min, lengths.Max, first, impl.IsPure(env, p), code}
}

// staticResult returns the same for a valid pattern.
func (m pruningModel) staticResult(p impl.Pattern) staticResult {
	if _, ok := modelReached(m.env, p); !ok {
		return staticResult{code: impl.ErrUndefined}
	}
	static := m.static(p)
	result := staticResult{min: int64(static.min), max: int64(static.max), isPure: m.isPure(p)}
	if !static.matches {
		result.min = 201
	}
	var first []byte
	for b, isFirst := range static.first {
		if isFirst {
			first = append(first, byte(b))
		}
	}
	result.first = string(first)
	return result
}

func checkStatic(t *testing.T, what string, env []impl.Named, p impl.Pattern, want staticResult) {
	t.Helper()
	if got := staticOf(t, env, p); got != want {
		t.Errorf("%s: %.300q with %.300q: got %v, want %v", what, impl.PatternText(p), fmt.Sprint(env), got, want)
	}
}

func checkStarts(t *testing.T, what string, env []impl.Named, p impl.Pattern, subject string, anchored bool, want []int64, code int64) {
	t.Helper()
	got, gotCode := impl.CandidateStarts(env, p, subject, anchored)
	if !slices.Equal(got, want) || gotCode != code {
		t.Errorf("%s: CandidateStarts(%.200q, %.300q, %.60q, %t): got %v and %d, want %v and %d", what, fmt.Sprint(env), impl.PatternText(p), subject, anchored, got, gotCode, want, code)
	}
}

// modelFrom matches a pattern with each of some start cursors, until there is a number of matches.
func modelFrom(env []impl.Named, p impl.Pattern, subject string, starts []int64, fuel int64, limit int) modelResult {
	m := modelMatching{env: env, subject: subject, fuel: int(fuel)}
	for _, start := range starts {
		m.start = int(start)
		m.branches = []modelBranch{{goal: &modelGoal{"match", p, 0, nil}, at: m.start}}
		for len(m.branches) > 0 && !m.isOver && len(m.matches) < limit {
			b := m.branches[len(m.branches)-1]
			m.branches = m.branches[:len(m.branches)-1]
			m.perform(b)
		}
		if m.isOver || len(m.matches) >= limit {
			break
		}
	}
	// What a PtNow captured is left also without a match.
	if limit == 1 && m.code == impl.OK && len(m.matches) == 0 {
		m.matches = []impl.Match{{Captures: m.now}}
		return modelResult{m.matches, noMatch, int64(m.steps)}
	}
	return modelResult{m.matches, m.code, int64(m.steps)}
}

// noMatch is the code of modelFrom if a single match was looked for, and not found.
const noMatch = -1

// tried returns the start cursors that pruned matching tries.
func (m pruningModel) tried(p impl.Pattern, subject string, anchored bool) []int64 {
	if m.isPure(p) {
		return modelStarts(m.static(p), subject, anchored)
	}
	return modelStarts(modelStatic{matches: true}, subject, anchored)
}

// first returns the result of PrunedFirst.
func (m pruningModel) first(p impl.Pattern, subject string, anchored bool, fuel int64) firstResult {
	r := modelFrom(m.env, p, subject, m.tried(p, subject, anchored), fuel, 1)
	switch r.code {
	case impl.OK:
		return firstResult{r.matches[0], true, r.steps, impl.OK}
	case noMatch:
		return firstResult{r.matches[0], false, r.steps, impl.OK}
	}
	return firstResult{code: r.code}
}

func equalFirst(a, b firstResult) bool {
	return equalMatches([]impl.Match{a.match}, []impl.Match{b.match}) && a.found == b.found && a.steps == b.steps && a.code == b.code
}

func prunedFirst(env []impl.Named, p impl.Pattern, subject string, anchored bool, fuel int64) (r firstResult) {
	r.match, r.found, r.steps, r.code = impl.PrunedFirst(env, p, subject, anchored, fuel)
	return r
}

func checkPrunedFirst(t *testing.T, what string, env []impl.Named, p impl.Pattern, subject string, anchored bool, fuel int64, want firstResult) {
	t.Helper()
	if got := prunedFirst(env, p, subject, anchored, fuel); !equalFirst(got, want) {
		t.Errorf("%s: PrunedFirst(%.200q, %.300q, %.60q, %t, %d): got %.300q, want %.300q", what, fmt.Sprint(env), impl.PatternText(p), subject, anchored, fuel, fmt.Sprint(got), fmt.Sprint(want))
	}
}

func checkPruned(t *testing.T, what string, env []impl.Named, p impl.Pattern, subject string, anchored bool, fuel int64, want []impl.Match, code int64) {
	t.Helper()
	got, gotCode := impl.PrunedMatches(env, p, subject, anchored, fuel)
	if !equalMatches(got, want) || gotCode != code {
		t.Errorf("%s: PrunedMatches(%.200q, %.300q, %.60q, %t, %d): got %.300q and %d, want %.300q and %d", what, fmt.Sprint(env), impl.PatternText(p), subject, anchored, fuel, fmt.Sprint(got), gotCode, fmt.Sprint(want), code)
	}
}

// check compares the results of pruned matching with those
// of the model, for an amount of fuel and for those around the number of steps.
// It returns the code of the unanchored matches.
func (m pruningModel) check(t *testing.T, p impl.Pattern, subject string, fuel int64) int64 {
	t.Helper()
	code := int64(0)
	for _, anchored := range []bool{true, false} {
		starts := m.tried(p, subject, anchored)
		all := modelFrom(m.env, p, subject, starts, fuel, 1000)
		checkPruned(t, "the given fuel", m.env, p, subject, anchored, fuel, all.matches, all.code)
		first := m.first(p, subject, anchored, fuel)
		checkPrunedFirst(t, "the given fuel", m.env, p, subject, anchored, fuel, first)
		code = all.code
		if code == impl.ErrSteps {
			continue
		}
		enough, few := fuelsAround(all.steps)
		for _, fuel := range enough {
			checkPruned(t, "enough fuel", m.env, p, subject, anchored, fuel, all.matches, all.code)
		}
		for _, fuel := range few {
			checkPruned(t, "little fuel", m.env, p, subject, anchored, fuel, nil, impl.ErrSteps)
		}
		if first.code == impl.OK {
			checkPrunedFirst(t, "exactly enough fuel", m.env, p, subject, anchored, first.steps, first)
			if first.steps > 0 {
				checkPrunedFirst(t, "one step less", m.env, p, subject, anchored, first.steps-1, firstResult{code: impl.ErrSteps})
			}
		}
	}
	return code
}

// modelElements returns the simplified elements of which a chain consists, without its neutral one.
func modelElements(kind int64, neutral, p impl.Pattern) []impl.Pattern {
	switch {
	case equalPatterns(p, neutral):
		return nil
	case p.Kind != kind:
		return []impl.Pattern{p}
	}
	return append(modelElements(kind, neutral, p.Kids[0]), modelElements(kind, neutral, p.Kids[1])...)
}

// modelChain returns the chain of some simplified elements.
func modelChain(kind int64, neutral impl.Pattern, parts []impl.Pattern) impl.Pattern {
	if len(parts) == 0 {
		return neutral
	}
	chain := parts[len(parts)-1]
	for _, p := range slices.Backward(parts[:len(parts)-1]) {
		chain = tree(kind, p, chain)
	}
	return chain
}

// modelCat returns the simplified concatenation of two simplified patterns: the parts of the first one are put before those of the second one.
func modelCat(a, b impl.Pattern) impl.Pattern {
	empty := texted(impl.PtString, "")
	parts := modelElements(impl.PtCat, empty, b)
	for _, p := range slices.Backward(modelElements(impl.PtCat, empty, a)) {
		switch {
		case p.Kind == impl.PtFail || p.Kind == impl.PtAbort:
			parts = []impl.Pattern{p}
		case len(parts) > 0 && p.Kind == impl.PtString && parts[0].Kind == impl.PtString && len(p.Text+parts[0].Text) <= 200:
			parts = slices.Concat([]impl.Pattern{texted(impl.PtString, p.Text+parts[0].Text)}, parts[1:])
		default:
			parts = slices.Insert(parts, 0, p)
		}
	}
	return modelChain(impl.PtCat, empty, parts)
}

// modelAlt returns the simplified alternation of two simplified patterns.
func modelAlt(a, b impl.Pattern) impl.Pattern {
	fail := bare(impl.PtFail)
	parts := append(modelElements(impl.PtAlt, fail, a), modelElements(impl.PtAlt, fail, b)...)
	if at := slices.IndexFunc(parts, func(p impl.Pattern) bool { return p.Kind == impl.PtAbort }); at >= 0 {
		parts = parts[:at+1]
	}
	return modelChain(impl.PtAlt, fail, parts)
}

// modelSimple returns a valid pattern in simplified form.
func modelSimple(p impl.Pattern) impl.Pattern {
	empty := texted(impl.PtString, "")
	simple := impl.Pattern{Kind: p.Kind, Num: p.Num, Text: p.Text}
	for _, kid := range p.Kids {
		simple.Kids = append(simple.Kids, modelSimple(kid))
	}
	switch p.Kind {
	case impl.PtCat:
		return modelCat(simple.Kids[0], simple.Kids[1])
	case impl.PtAlt:
		return modelAlt(simple.Kids[0], simple.Kids[1])
	}
	switch impl.PatternText(simple) {
	case "len(0)", "arbno(fail)", `arbno("")`:
		return empty
	case "cond(fail," + p.Text + ")", "now(fail," + p.Text + ")":
		return bare(impl.PtFail)
	case "cond(abort," + p.Text + ")", "now(abort," + p.Text + ")":
		return bare(impl.PtAbort)
	}
	return simple
}

func checkSimple(t *testing.T, what string, p, want impl.Pattern) {
	t.Helper()
	checkPattern(t, what+": SimplifyPattern of "+impl.PatternText(p), impl.SimplifyPattern(p), want)
}

func checkJoin(t *testing.T, what string, a, b, want impl.Pattern, ok bool) {
	t.Helper()
	got, gotOK := impl.JoinPatterns(a, b)
	checkEqual(t, what+": ok", gotOK, ok)
	checkPattern(t, what, got, want)
}

// replaceResult is all that ReplaceAll returns.
type replaceResult struct {
	s           string
	count, code int64
}

func replaceAll(env []impl.Named, p impl.Pattern, subject, text string, fuel int64) (r replaceResult) {
	r.s, r.count, r.code = impl.ReplaceAll(env, p, subject, text, fuel)
	return r
}

func checkReplaceAll(t *testing.T, what string, env []impl.Named, p impl.Pattern, subject, text string, fuel int64, want replaceResult) {
	t.Helper()
	if got := replaceAll(env, p, subject, text, fuel); got != want {
		t.Errorf("%s: ReplaceAll(%.200q, %.300q, %.60q, %.60q, %d): got %.300q, want %.300q", what, fmt.Sprint(env), impl.PatternText(p), subject, text, fuel, fmt.Sprint(got), fmt.Sprint(want))
	}
}

// modelReplaceAll returns the result of ReplaceAll for valid arguments, and the
// greatest number of steps at one cursor.
func modelReplaceAll(env []impl.Named, p impl.Pattern, subject, text string, fuel int64) (replaceResult, int64) {
	var parts []string
	count, steps := int64(0), int64(0)
	for at := int64(0); at < int64(len(subject)); {
		r := modelFrom(env, p, subject, []int64{at}, fuel, 1)
		if r.code > impl.OK {
			return replaceResult{code: r.code}, 0
		}
		steps = max(steps, r.steps)
		end := r.matches[0].End
		if r.code == impl.OK && end > at {
			parts = append(parts, text)
			count++
			at = end
			continue
		}
		parts = append(parts, subject[at:at+1])
		at++
	}
	result := strings.Join(parts, "")
	if len(result) > 200 {
		return replaceResult{code: impl.ErrFull}, steps
	}
	return replaceResult{result, count, impl.OK}, steps
}

// TestSmallPatternsAgainstPruningModel has all patterns of up to three nodes, and the nodes above these.
func TestSmallPatternsAgainstPruningModel(t *testing.T) {
	env := append(smallEnv(t), impl.Named{Name: "none", Pattern: readPattern(t, "cat(len(1),defer(none))")}, impl.Named{Name: "blank", Pattern: readPattern(t, `alt(pos(1),defer(blank))`)}, impl.Named{Name: "long", Pattern: readPattern(t, "len(101)")})
	model := newPruningModel(env)
	leaves := append(smallLeaves(), numbered(impl.PtLen, 100), numbered(impl.PtTab, 0), numbered(impl.PtRTab, 200), texted(impl.PtDefer, "none"), texted(impl.PtDefer, "blank"), texted(impl.PtDefer, "long"))
	small := slices.Concat(leaves, aboveAll(leaves))
	for i, p := range small {
		leaf := leaves[i%len(leaves)]
		for _, q := range []impl.Pattern{p, tree(impl.PtArbno, p), capturing(impl.PtCond, p, "d"), capturing(impl.PtNow, p, "m"), tree(impl.PtAlt, p, leaf), tree(impl.PtAlt, leaf, p), tree(impl.PtCat, p, leaf), tree(impl.PtCat, leaf, p)} {
			checkStatic(t, "a small pattern", env, q, model.staticResult(q))
			checkSimple(t, "a small pattern", q, modelSimple(q))
			joined := modelCat(modelSimple(q), modelSimple(leaf))
			checkJoin(t, impl.PatternText(q), q, leaf, joined, true)
		}
		for _, s := range []string{"", "a", "(a)a"} {
			model.check(t, p, s, 100)
			want, _ := modelReplaceAll(env, p, s, "xy", 100)
			checkReplaceAll(t, "a small pattern", env, p, s, "xy", 100, want)
		}
	}
}

func TestRandomPatternsAgainstPruningModel(t *testing.T) {
	codes, replaced, lengths := map[int64]int{}, map[int64]int{}, map[string]int{}
	for i := range 12000 {
		source := narrowPatterns(int64(1510000 + i))
		env, p, q := source.env(1+i%9), source.pattern(1+i%25), source.pattern(1+i%31)
		subject, text := source.subject(9), source.subject(3)
		model := newPruningModel(env)
		want := model.staticResult(p)
		checkStatic(t, "a random pattern", env, p, want)
		checkSimple(t, "a random pattern", p, modelSimple(p))
		checkSimple(t, "a random pattern", q, modelSimple(q))
		checkJoin(t, impl.PatternText(p)+" and "+impl.PatternText(q), p, q, modelCat(modelSimple(p), modelSimple(q)), true)
		codes[model.check(t, p, subject, int64(source.Intn(400)))]++
		if want.code == impl.OK {
			static := model.static(p)
			lengths[fmt.Sprint(static.matches, static.min > 0, static.max < 200, want.isPure)]++
			for _, anchored := range []bool{true, false} {
				checkStarts(t, "a random pattern", env, p, subject, anchored, modelStarts(static, subject, anchored), impl.OK)
			}
		}
		result, steps := modelReplaceAll(env, p, subject, text, 300)
		checkReplaceAll(t, "a random pattern", env, p, subject, text, 300, result)
		replaced[result.count]++
		if result.code == impl.OK && subject != "" {
			checkReplaceAll(t, "exactly enough fuel", env, p, subject, text, steps, result)
			checkReplaceAll(t, "one step less", env, p, subject, text, steps-1, replaceResult{code: impl.ErrSteps})
		}
	}
	for _, code := range []int64{impl.OK, impl.ErrSteps, impl.ErrUndefined, impl.ErrFull} {
		if codes[code] < 100 {
			t.Errorf("the code %d was returned only %d times", code, codes[code])
		}
	}
	for _, what := range []string{"true true true true", "true true false true", "true false true true", "true false false true", "false false true true", "true true true false", "false false true false"} {
		if lengths[what] < 50 {
			t.Errorf("lengths (matches, a byte at least, limited, pure) %s: only %d patterns", what, lengths[what])
		}
	}
	if replaced[0] < 1000 || replaced[1] < 500 || replaced[2] < 200 || replaced[3] < 100 {
		t.Error("few patterns with some number of replacements:", replaced)
	}
}
