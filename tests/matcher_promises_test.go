package tests

import (
	"fmt"
	"math/rand"
	"slices"
	"strings"
	"testing"

	"loop.example/g00873/impl"
)

// The tests of this file are promises 19 and 20. They compare every state
// through which a matcher passes with the definition of chapter 12.

// countedStep is a step that the definition counts, with the state before it.
// Its Op is the kind of a node without kids, CoStep for a node with kids, and
// CoEnd for an end cursor of the whole pattern.
type countedStep struct {
	op, start, cursor int64
	now, conds        []impl.Capture
}

// definition matches a pattern as chapter 12 defines it, and notes each counted step.
type definition struct {
	env     []impl.Named
	subject string
	start   int
	limit   int
	steps   []countedStep
	now     []impl.Capture
	conds   []impl.Capture
	matches []impl.Match
	code    int64
}

// count notes a step, and reports whether matching goes on.
func (d *definition) count(op int64, c int) bool {
	if len(d.steps) == d.limit {
		d.code = impl.ErrSteps
		return false
	}
	d.steps = append(d.steps, countedStep{op, int64(d.start), int64(c), slices.Clone(d.now), slices.Clone(d.conds)})
	return true
}

// record records a capture, continues, and removes it if it is conditional.
func (d *definition) record(x impl.Capture, next func(e int) bool) bool {
	count := len(d.conds)
	if x.Kind == impl.CaCond {
		d.conds = append(d.conds, x)
	} else {
		d.now = append(d.now, x)
	}
	if len(d.now)+len(d.conds) > 100 {
		d.code = impl.ErrFull
		return false
	}
	goesOn := next(int(x.Cursor))
	d.conds = d.conds[:count]
	return goesOn
}

// match continues with each end cursor of a pattern, and reports whether matching goes on.
func (d *definition) match(p impl.Pattern, c int, next func(e int) bool) bool {
	if len(p.Kids) > 0 {
		return d.count(impl.CoStep, c) && d.matchKids(p, c, next)
	}
	if !d.count(p.Kind, c) {
		return false
	}
	switch p.Kind {
	case impl.PtFence:
		next(c)
		return false
	case impl.PtAbort:
		return false
	case impl.PtSucceed:
		for next(c) && d.count(p.Kind, c) {
		}
		return false
	case impl.PtCursor:
		return d.record(cursor(p.Text, int64(c)), next)
	case impl.PtDefer:
		for _, x := range d.env {
			if x.Name == p.Text {
				return d.match(x.Pattern, c, next)
			}
		}
		d.code = impl.ErrUndefined
		return false
	}
	for e := c; e <= len(d.subject); e++ {
		if modelIsEnd(p, d.subject, c, e) && !next(e) {
			return false
		}
	}
	return true
}

func (d *definition) matchKids(p impl.Pattern, c int, next func(e int) bool) bool {
	kid := p.Kids[0]
	switch p.Kind {
	case impl.PtAlt:
		return d.match(kid, c, next) && d.match(p.Kids[1], c, next)
	case impl.PtCat:
		return d.match(kid, c, func(e int) bool { return d.match(p.Kids[1], e, next) })
	case impl.PtArbno:
		return next(c) && d.match(kid, c, func(e int) bool { return e == c || d.match(p, e, next) })
	}
	return d.match(kid, c, func(e int) bool {
		text := d.subject[c:e]
		if p.Kind == impl.PtCond {
			return d.record(cond(p.Text, text, int64(e)), next)
		}
		return d.record(now(p.Text, text, int64(e)), next)
	})
}

// defined returns the definition after matching with up to a number of steps.
func defined(env []impl.Named, p impl.Pattern, subject string, anchored bool, limit int) *definition {
	d := &definition{env: env, subject: subject, limit: limit}
	last := len(subject)
	if anchored {
		last = 0
	}
	for ; d.start <= last; d.start++ {
		goesOn := d.match(p, d.start, func(e int) bool {
			if !d.count(impl.CoEnd, e) {
				return false
			}
			d.matches = append(d.matches, impl.Match{Start: int64(d.start), End: int64(e), Captures: slices.Concat(d.now, d.conds)})
			return true
		})
		if !goesOn {
			break
		}
	}
	return d
}

// follower steps a matcher, and compares each state with the definition.
type follower struct {
	*testing.T
	what string
	d    *definition
	c    impl.PatternCode
	m    impl.Matcher
	// matches is the number of matches that were found.
	matches int
}

// isAtLimit reports whether the next step is counted, and is one more than the definition counted.
func (f *follower) isAtLimit() bool {
	return f.m.Status == impl.MtRun && modelIsCounted(f.c, f.m) && f.m.Steps == int64(f.d.limit)
}

// check compares the state with the definition, and reports whether there is a further step.
func (f *follower) check() bool {
	f.Helper()
	m := f.m
	if !impl.ValidMatcher(f.c, m) {
		f.Errorf("%s: a matcher that is not valid: %+v", f.what, m)
		return false
	}
	switch m.Status {
	case impl.MtRun:
		return f.checkStep()
	case impl.MtFound:
		match := impl.Match{Start: m.Start, End: m.Cursor, Captures: slices.Concat(m.Now, m.Conds)}
		if f.matches == len(f.d.matches) || !equalMatches([]impl.Match{match}, f.d.matches[f.matches:f.matches+1]) {
			f.Errorf("%s: the match %d is %v", f.what, f.matches, match)
			return false
		}
		f.matches++
		return true
	}
	fault := map[int64]int64{impl.MtDone: impl.OK, impl.MtFault: f.d.code}[m.Status]
	if fault != f.d.code || m.Fault != f.d.code || m.Steps != int64(len(f.d.steps)) || f.matches != len(f.d.matches) || !slices.Equal(m.Now, f.d.now) {
		f.Errorf("%s: %d matches, then %+v; want %d matches, %d steps and the code %d", f.what, f.matches, m, len(f.d.matches), len(f.d.steps), f.d.code)
	}
	return false
}

// checkStep compares a state before a counted step with the definition.
func (f *follower) checkStep() bool {
	f.Helper()
	m := f.m
	if !modelIsCounted(f.c, m) {
		return true
	}
	if f.isAtLimit() {
		if f.d.code != impl.ErrSteps || f.matches != len(f.d.matches) {
			f.Errorf("%s: more than %d steps, and %d matches", f.what, m.Steps, f.matches)
		}
		return false
	}
	if m.Steps >= int64(len(f.d.steps)) {
		f.Errorf("%s: a step more than %d: %+v", f.what, len(f.d.steps), m)
		return false
	}
	want := f.d.steps[m.Steps]
	if want.op != f.c.Code[m.PC].Op || want.start != m.Start || want.cursor != m.Cursor || !slices.Equal(want.now, m.Now) || !slices.Equal(want.conds, m.Conds) {
		f.Errorf("%s: the step %d is that of %+v, want %+v", f.what, m.Steps, m, want)
		return false
	}
	return true
}

// compact removes unreachable frames, and checks that nothing else changes.
func (f *follower) compact() {
	f.Helper()
	small, code := impl.CompactMatcher(f.c, f.m)
	checkEqual(f.T, f.what+": code of CompactMatcher", code, impl.OK)
	checkMatcher(f.T, f.what+": compacted", small, modelCompacted(f.m))
	if !impl.ValidMatcher(f.c, small) {
		f.Errorf("%s: compacting makes %+v invalid", f.what, f.m)
	}
	f.m = small
}

// follow steps to the end or the limit, and returns the states in between. The
// matcher is compacted before the steps for which this is asked.
func (f *follower) follow(compacts func(step int) bool) []impl.Matcher {
	f.Helper()
	f.m = newMatcher(f.T, f.c, f.d.subject, f.m.Anchored)
	f.matches = 0
	var states []impl.Matcher
	for f.check() {
		if compacts(len(states)) {
			f.compact()
		}
		states = append(states, f.m)
		f.m = stepped(f.T, f.c, f.m)
	}
	return append(states, f.m)
}

// checkRuns checks that running from each of some states leads to the next
// state with a match or an end, or to the one in which the fuel is used up, also
// if it is compacted before.
func (f *follower) checkRuns(states []impl.Matcher) {
	f.Helper()
	goal := len(states) - 1
	for i, m := range slices.Backward(states) {
		if i == len(states)-1 && (m.Status == impl.MtDone || m.Status == impl.MtFault) {
			continue
		}
		r := nextMatch(f.c, m, int64(f.d.limit))
		want := nextResult{m: states[goal], code: states[goal].Fault}
		switch want.m.Status {
		case impl.MtFound:
			want.found, want.match = true, impl.Match{Start: want.m.Start, End: want.m.Cursor, Captures: slices.Concat(want.m.Now, want.m.Conds)}
		case impl.MtRun:
			want.code = impl.ErrSteps
		}
		checkNext(f.T, f.what, r, want)
		small, _ := impl.CompactMatcher(f.c, m)
		again := nextMatch(f.c, small, int64(f.d.limit))
		r.m, again.m = modelCompacted(r.m), modelCompacted(again.m)
		checkNext(f.T, f.what+": from a compacted matcher", again, r)
		if m.Status == impl.MtFound {
			goal = i
		}
	}
}

// checkFollowed compares all states of the matchers of a pattern with the
// definition, also if they are compacted in between. It returns the definition.
func checkFollowed(t *testing.T, env []impl.Named, p impl.Pattern, subject string, anchored bool, limit int) *definition {
	t.Helper()
	d := defined(env, p, subject, anchored, limit)
	c, _ := impl.CompileAll(env, p)
	f := follower{T: t, what: fmt.Sprintf("%.300s in %.60q with %.300q, anchored %t", impl.PatternText(p), subject, fmt.Sprint(env), anchored), d: d, c: c, m: impl.Matcher{Anchored: anchored}}
	states := f.follow(func(step int) bool { return false })
	f.checkRuns(states)
	for name, compacts := range map[string]func(step int) bool{
		"each time":    func(step int) bool { return true },
		"in between":   func(step int) bool { return step%3 == limit%3 },
		"now and then": func(step int) bool { return step%17 == limit%17 },
	} {
		compacted := f.follow(compacts)
		checkEqual(t, f.what+": number of states if they are compacted "+name, len(compacted), len(states))
	}
	return d
}

// checkFuels compares the matches that a matcher finds with those of the definition, with several amounts of fuel.
func checkFuels(t *testing.T, d *definition, p impl.Pattern, anchored bool, fuels []int64) {
	t.Helper()
	for _, fuel := range fuels {
		want, code := impl.MatchesOf(d.env, p, d.subject, anchored, fuel)
		checkAll(t, "as MatchesOf", d.env, p, d.subject, anchored, fuel, want, code)
		checkFirst(t, "as the definition", d.env, p, d.subject, anchored, fuel, d.first(fuel))
	}
}

// first returns the result of FirstMatch with an amount of fuel that is at most the limit of the definition.
func (d *definition) first(fuel int64) firstResult {
	for i, step := range d.steps {
		if int64(i) == fuel {
			return firstResult{code: impl.ErrSteps}
		}
		if step.op == impl.CoEnd {
			return firstResult{match: d.matches[0], found: true, steps: int64(i + 1)}
		}
	}
	if d.code != impl.OK {
		return firstResult{code: d.code}
	}
	return firstResult{match: impl.Match{Captures: d.now}, steps: int64(len(d.steps))}
}

// allFuels returns the amounts of fuel from 0 up to a limit.
func allFuels(limit int) []int64 {
	var list []int64
	for fuel := range int64(limit + 1) {
		list = append(list, fuel)
	}
	return list
}

// TestSmallPatternsInMatcher is promises 19 and 20 for all patterns of up to three nodes, and for nodes above these.
func TestSmallPatternsInMatcher(t *testing.T) {
	t.Parallel()
	env := smallEnv(t)
	leaves := smallLeaves()
	small := aboveAll(leaves)
	codes := map[int64]int{}
	const limit = 70
	check := func(p impl.Pattern, subjects ...string) {
		for _, s := range subjects {
			for _, anchored := range []bool{true, false} {
				d := checkFollowed(t, env, p, s, anchored, limit)
				codes[d.code]++
				checkFuels(t, d, p, anchored, []int64{0, 1, 2, 3, 5, 8, 13, max(int64(len(d.steps))-1, 0), int64(len(d.steps)), limit - 1, limit})
			}
		}
	}
	for _, p := range leaves {
		check(p, "", "a", "(", "a(", "aa)", "(a)a", "a)a(")
	}
	for i, p := range small {
		check(p, "", "a(a")
		leaf := leaves[i%len(leaves)]
		switch i % 6 {
		case 0:
			check(tree(impl.PtArbno, p), "aa(")
		case 1:
			check(capturing(impl.PtCond, p, "d"), "(a)")
		case 2:
			check(capturing(impl.PtNow, p, "m"), "(a)")
		case 3:
			check(tree(impl.PtAlt, p, leaf), "a(a")
		case 4:
			check(tree(impl.PtCat, leaf, p), "a(a")
		default:
			check(tree(impl.PtCat, p, leaf), "a(a")
		}
	}
	for _, code := range []int64{impl.OK, impl.ErrSteps, impl.ErrUndefined} {
		if codes[code] < 100 {
			t.Errorf("the code %d was reached only %d times", code, codes[code])
		}
	}
}

// TestRandomPatternsInMatcher is promises 19 and 20 for random patterns.
func TestRandomPatternsInMatcher(t *testing.T) {
	t.Parallel()
	source := narrowPatterns(111)
	codes := map[int64]int{}
	captures, shared := 0, 0
	for i := range 2500 {
		env, p, subject := source.env(1+i%9), source.pattern(1+i%17), source.subject(6)
		anchored, limit := i%2 == 0, 20+source.Intn(200)
		d := checkFollowed(t, env, p, subject, anchored, limit)
		codes[d.code]++
		for _, m := range d.matches {
			captures += len(m.Captures)
		}
		fuels := allFuels(limit)
		if i%20 > 0 {
			fuels = []int64{0, int64(source.Intn(limit)), int64(limit)}
			for _, fuel := range []int{len(d.steps) - 1, len(d.steps), len(d.steps) + 1} {
				if fuel >= 0 && fuel <= limit {
					fuels = append(fuels, int64(fuel))
				}
			}
		}
		checkFuels(t, d, p, anchored, fuels)
		shared += sharedFrames(t, env, p, subject, anchored)
	}
	if codes[impl.OK] < 500 || codes[impl.ErrSteps] < 200 || codes[impl.ErrUndefined] < 150 || captures < 10000 || shared < 300 {
		t.Errorf("codes %v, %d captures, %d shared frames", codes, captures, shared)
	}
}

// sharedFrames returns the number of frames that lie directly below several frames, after up to 60 steps.
func sharedFrames(t *testing.T, env []impl.Named, p impl.Pattern, subject string, anchored bool) int {
	t.Helper()
	c, _ := impl.CompileAll(env, p)
	m := newMatcher(t, c, subject, anchored)
	most := 0
	for range 60 {
		above := map[int64]int{}
		shared := 0
		for _, f := range m.Frames {
			above[f.Below]++
			if f.Below > 0 && above[f.Below] == 2 {
				shared++
			}
		}
		most = max(most, shared)
		if m.Status == impl.MtDone || m.Status == impl.MtFault {
			break
		}
		m = stepped(t, c, m)
	}
	return most
}

// chosenPatterns has the patterns with which chapters 13 and 14 are difficult.
func chosenPatterns(t *testing.T) ([]impl.Named, []string) {
	t.Helper()
	var env []impl.Named
	for _, x := range [][2]string{
		{"f", "fence"}, {"stop", "abort"}, {"par", `alt("a",cat("(",cat(defer(par),")")))`}, {"even", `alt("",cat("a",defer(odd)))`}, {"odd", `cat("a",defer(even))`},
		{"loop", "defer(loop)"}, {"left", `alt(cat(defer(left),"a"),"a")`}, {"right", `alt(cat("a",defer(right)),"a")`}, {"lazy", `alt("",cat("a",defer(lazy)))`}, {"deep", `alt(cat("a",cond(defer(deep),d)),"")`},
		{"many", "cat(cursor(c),defer(many))"}, {"held", `cat(cond("",c),defer(held))`}, {"star", "arbno(defer(pair))"}, {"pair", "now(cat(len(1),alt(len(1),defer(star))),q)"}, {"none_", "alt(fail,defer(gone))"}, {"every", "arb"},
	} {
		env = append(env, impl.Named{Name: x[0], Pattern: readPattern(t, x[1])})
	}
	return env, []string{
		"arb", "bal", "succeed", "cat(arb,arb)", "cat(bal,bal)", "cat(bal,arb)", "cat(arb,cat(bal,rpos(0)))", "cat(arb,succeed)", "alt(arb,bal)", "cond(arb,x)", "now(bal,x)", "cat(now(arb,x),cond(bal,y))",
		`arbno("")`, "arbno(arb)", "arbno(bal)", "arbno(alt(\"\",len(1)))", "arbno(arbno(len(1)))", "arbno(arbno(arb))", "arbno(cond(arb,x))", "arbno(now(alt(\"\",len(1)),x))", "arbno(pos(0))", "arbno(rem)", "arbno(fail)", "arbno(succeed)", "cat(arbno(len(1)),rpos(0))", "cat(arbno(cond(len(1),x)),\"b\")",
		"fence", "cat(arb,fence)", "cat(fence,arb)", "alt(fence,arb)", "alt(\"b\",fence)", "arbno(fence)", "arbno(cat(len(1),fence))", "cond(fence,x)", "now(cat(fence,arb),x)", "cat(fence,cat(cond(arb,x),\"b\"))", "defer(f)", "cat(arb,cat(defer(f),\"b\"))", "cat(cond(arb,x),cat(fence,cat(cond(arb,y),\")\")))",
		"abort", "alt(arb,abort)", "cat(arb,abort)", "arbno(abort)", "arbno(alt(len(1),abort))", "cond(abort,x)", "now(alt(\"a\",abort),x)", "defer(stop)", "alt(\"b\",defer(stop))", "cat(fence,abort)",
		"defer(par)", "cond(defer(par),x)", "arbno(defer(par))", "now(cat(defer(par),defer(par)),x)", "cat(defer(even),rpos(0))", "cat(defer(odd),defer(even))", "defer(loop)", "alt(len(1),defer(loop))", "defer(left)", "defer(right)", "cond(arbno(defer(right)),x)", "defer(lazy)", "cat(defer(deep),rpos(0))", "defer(many)", "defer(held)", "defer(star)", "defer(pair)", "cat(defer(star),cond(defer(pair),x))", "defer(none_)", "arbno(defer(none_))", "cat(defer(every),cat(defer(every),defer(every)))", "defer(gone)", "cond(defer(gone),x)", "now(arbno(defer(gone)),x)", "cat(fail,defer(gone))",
		"cat(tab(2),cursor(x))", "cat(pos(1),rem)", "cat(rtab(1),cat(cursor(x),arb))", "cat(break(\"b(\"),span(\"b()\"))", "cond(now(cond(now(arb,a),b),c),d)", "cat(succeed,cat(cursor(x),fail))", "cat(now(len(1),x),\"b\")", "alt(cat(cond(len(1),x),fail),cat(now(len(1),y),cond(arb,z)))",
	}
}

// TestChosenPatternsInMatcher is promises 19 and 20 for chosen patterns.
func TestChosenPatternsInMatcher(t *testing.T) {
	t.Parallel()
	env, list := chosenPatterns(t)
	for _, text := range list {
		p := readPattern(t, text)
		for _, subject := range []string{"", "a", "ab", "aab", "(a)b", "((a))a"} {
			for _, anchored := range []bool{true, false} {
				d := checkFollowed(t, env, p, subject, anchored, 150)
				steps := int64(len(d.steps))
				checkFuels(t, d, p, anchored, append(allFuels(40), max(steps-1, 0), steps, min(steps+1, 150), 150))
			}
		}
	}
}

// TestMatchesOneAfterTheOther is promise 20: the successive matches are all matches, with as many steps as the model counts.
func TestMatchesOneAfterTheOther(t *testing.T) {
	t.Parallel()
	env, list := chosenPatterns(t)
	found, finished := 0, 0
	check := func(env []impl.Named, p impl.Pattern, subject string, anchored, compacts bool) {
		last := len(subject)
		if anchored {
			last = 0
		}
		want := modelMatches(env, p, subject, 0, last, 20000)
		c, _ := impl.CompileAll(env, p)
		r := nextResult{m: newMatcher(t, c, subject, anchored), found: true}
		var matches []impl.Match
		for r.found && len(matches) < 61 {
			if compacts {
				r.m, _ = impl.CompactMatcher(c, r.m)
			}
			r = nextMatch(c, r.m, 20000)
			if r.found {
				matches = append(matches, r.match)
			}
		}
		what := fmt.Sprintf("%.300s in %.60q", impl.PatternText(p), subject)
		isFull := len(matches) > 60
		if isFull {
			r.code, matches = impl.ErrFull, matches[:60]
		}
		checkEqual(t, what+": code", r.code, want.code)
		checkEqual(t, what+": steps", r.m.Steps, want.steps)
		if r.code == impl.OK || isFull {
			if !equalMatches(matches, want.matches) {
				t.Errorf("%s: %.300q, want %.300q", what, fmt.Sprint(matches), fmt.Sprint(want.matches))
			}
			found += len(matches)
			finished++
		}
		checkEqual(t, what+": valid", impl.ValidMatcher(c, r.m), true)
		checkAll(t, what, env, p, subject, anchored, 20000, want.matches, want.code)
	}
	for i, text := range list {
		for _, subject := range []string{"", "aab(a)", strings.Repeat("a(b)", 10)} {
			check(env, readPattern(t, text), subject, i%2 == 0, i%3 == 0)
			check(env, readPattern(t, text), subject, i%2 == 1, i%3 == 1)
		}
	}
	source := narrowPatterns(112)
	for i := range 1500 {
		subject := source.subject(7)
		if i%10 == 0 {
			subject = strings.Repeat(source.subject(20), 10)
		}
		check(source.env(5), source.pattern(1+i%14), subject, i%2 == 0, i%4 == 0)
	}
	if found < 3000 || finished < 500 {
		t.Errorf("only %d matches in %d cases", found, finished)
	}
}

// TestFirstIsFirstOfAll is promise 19: the first match is the first one of all matches, whatever the fuel is.
func TestFirstIsFirstOfAll(t *testing.T) {
	source := narrowPatterns(113)
	counts := map[string]int{}
	for i := range 6000 {
		env, p, subject := source.env(1+i%6), source.pattern(1+i%14), source.subject(7)
		anchored, fuel := i%2 == 0, int64(source.Intn(60))
		all, code := impl.AllMatches(env, p, subject, anchored, 20000)
		first, found, steps, firstCode := impl.FirstMatch(env, p, subject, anchored, 20000)
		what := fmt.Sprintf("%.300s in %q", impl.PatternText(p), subject)
		switch {
		case len(all) > 0:
			counts["found"]++
			checkEqual(t, what+": found", found, true)
			checkEqual(t, what+": first", impl.SameMatch(first, all[0]), true)
		case code == impl.OK:
			counts["none"]++
			checkEqual(t, what+": not found", found || firstCode != impl.OK, false)
			immediate, conditional, _ := split(first)
			checkEqual(t, what+": immediate captures", first.Start == 0 && first.End == 0 && len(conditional) == 0 && slices.Equal(immediate, first.Captures), true)
		default:
			counts["error"]++
			checkEqual(t, what+": an error, or a match before it", found || firstCode == code, true)
		}
		if firstCode != impl.OK {
			checkEqual(t, what+": nothing beside an error", !found && steps == 0 && impl.SameMatch(first, impl.Match{}), true)
			continue
		}
		want := firstResult{first, found, steps, impl.OK}
		if fuel < steps {
			want = firstResult{code: impl.ErrSteps}
		}
		checkFirst(t, what, env, p, subject, anchored, fuel, want)
	}
	for _, what := range []string{"found", "none", "error"} {
		if counts[what] < 300 {
			t.Errorf("%s: only %d times", what, counts[what])
		}
	}
}

// stateMaker makes matchers by hand.
type stateMaker struct {
	patternSource
}

// code returns valid pattern code, often code of no pattern.
func (s stateMaker) code(size int) impl.PatternCode {
	c, _ := impl.CompileAll(s.env(1+s.Intn(size)), s.pattern(1+s.Intn(size)))
	for range s.Intn(12) {
		other := copyCode(c)
		other.Code = changedCode(s.Rand, other.Code)
		if _, ok := modelMarks(other); ok {
			c = other
		}
	}
	return c
}

// number returns a number that is often one of those that may be there.
func (s stateMaker) number(n, high int64) int64 {
	switch s.Intn(4) {
	case 0:
		return n + 1
	case 1:
		return n - 1
	}
	return int64(s.Intn(int(high)+3)) - 1
}

// change makes a random change.
func (s stateMaker) change(c impl.PatternCode, m *impl.Matcher) {
	n, last := int64(len(m.Subject)), int64(len(c.Code))
	top := int64(len(m.Frames))
	switch s.Intn(17) {
	case 0:
		m.Status = s.number(m.Status, 4)
	case 1:
		m.Fault = []int64{impl.OK, impl.ErrUndefined, impl.ErrFull, impl.ErrSteps}[s.Intn(4)]
	case 2:
		m.Start = s.number(m.Start, n)
	case 3:
		m.PC = s.number(m.PC, last)
	case 4:
		m.Cursor = s.number(m.Cursor, n)
	case 5:
		m.Top = s.number(m.Top, top)
	case 6:
		m.Resume = !m.Resume
		m.Last = s.number(m.Last, n)
	case 7:
		m.Last = s.number(m.Last, n)
	case 8:
		m.Anchored = !m.Anchored
	case 9:
		m.Steps = s.number(m.Steps, 20)
	case 10:
		m.Frames = append(m.Frames, impl.MatchFrame{Below: int64(s.Intn(int(top) + 1)), Num: int64(s.Intn(int(max(n, last)) + 1)), Return: s.Intn(2) == 0})
		if s.Intn(2) == 0 {
			m.Top = top + 1
		}
	case 11:
		if top > 0 {
			f := &m.Frames[s.Intn(int(top))]
			f.Below, f.Num = s.number(f.Below, top), s.number(f.Num, max(n, last))
		}
	case 12:
		if top > 0 {
			f := &m.Frames[s.Intn(int(top))]
			f.Num = s.number(f.Num, max(n, last))
		}
	case 13:
		m.Choices = append(m.Choices, impl.MatchChoice{Kind: int64(1 + s.Intn(3)), PC: int64(s.Intn(int(last))), Cursor: m.Cursor, Top: int64(s.Intn(int(top) + 1)), Conds: int64(len(m.Conds))})
	case 14:
		s.changeChoice(m, n, last, top)
	case 15:
		m.Conds = append(m.Conds, cond("h", "", m.Cursor))
	default:
		m.Now = append(m.Now, now("h", "", m.Start))
	}
}

func (s stateMaker) changeChoice(m *impl.Matcher, n, last, top int64) {
	if len(m.Choices) == 0 {
		return
	}
	x := &m.Choices[s.Intn(len(m.Choices))]
	switch s.Intn(6) {
	case 0:
		x.Kind = s.number(x.Kind, 3)
	case 1:
		x.PC = s.number(x.PC, last)
	case 2:
		x.Cursor = s.number(x.Cursor, n)
	case 3:
		x.Top = s.number(x.Top, top)
	case 4:
		x.Conds = s.number(x.Conds, int64(len(m.Conds)))
	default:
		x.Last = s.number(x.Last, n)
	}
}

// onTheWay returns one of the matchers that are reached within a number of steps.
func (s stateMaker) onTheWay(c impl.PatternCode, m impl.Matcher, steps int) impl.Matcher {
	list := []impl.Matcher{m}
	for len(list) < steps && m.Status != impl.MtDone && m.Status != impl.MtFault {
		m = modelStep(c, m)
		list = append(list, m)
	}
	return list[s.Intn(len(list))]
}

// TestHandMadeMatchersAgainstModel is promise 20 for matchers and code that no compilation and no step makes.
func TestHandMadeMatchersAgainstModel(t *testing.T) {
	t.Parallel()
	maker := stateMaker{narrowPatterns(114)}
	counts := map[string]int{}
	for i := range 12000 {
		c := maker.code(1 + i%9)
		m := maker.onTheWay(c, newMatcher(t, c, maker.subject(6), i%3 == 0), 60)
		for range maker.Intn(4) {
			other := changed(m, func(m *impl.Matcher) { maker.change(c, m) })
			if modelIsMatcher(c, other) || maker.Intn(10) == 0 {
				m = other
			}
		}
		what := fmt.Sprint("case ", i)
		if !checkState(t, what, c, m, int64(maker.Intn(200))) {
			counts[fmt.Sprint("valid ", impl.ValidMatcher(c, m), ", but no step")]++
			continue
		}
		counts["steps"]++
		for range 8 {
			m = stepped(t, c, m)
			if !impl.ValidMatcher(c, m) {
				t.Errorf("%s: a step leads to a matcher that is not valid: %+v", what, m)
			}
			if !checkState(t, what+", later", c, m, int64(maker.Intn(200))) {
				break
			}
			if maker.Intn(5) == 0 {
				m, _ = impl.CompactMatcher(c, m)
			}
		}
	}
	for what, least := range map[string]int{"steps": 5000, "valid true, but no step": 500, "valid false, but no step": 500} {
		if counts[what] < least {
			t.Errorf("%s: only %d times: %v", what, counts[what], counts)
		}
	}
}

// TestChangedMatchersAgainstModel has matchers with one change each, most of which are not valid.
func TestChangedMatchersAgainstModel(t *testing.T) {
	maker := stateMaker{narrowPatterns(115)}
	counts := map[bool]int{}
	for i := range 4000 {
		c := maker.code(1 + i%7)
		m := maker.onTheWay(c, newMatcher(t, c, maker.subject(5), false), 40)
		for range 8 {
			other := changed(m, func(m *impl.Matcher) { maker.change(c, m) })
			checkState(t, fmt.Sprint("case ", i), c, other, 50)
			counts[impl.ValidMatcher(c, other)]++
		}
	}
	if counts[true] < 5000 || counts[false] < 5000 {
		t.Error("few valid matchers, or few others:", counts)
	}
}

// TestLongRunsInMatcher is promise 19 with long subjects and as much fuel as there can be.
func TestLongRunsInMatcher(t *testing.T) {
	source := narrowPatterns(116)
	codes := map[int64]int{}
	for i := range 300 {
		env, p := source.env(5), source.pattern(1+i%12)
		subject := strings.Repeat(source.subject(20), 10)
		want, code := impl.MatchesOf(env, p, subject, false, 20000)
		checkAll(t, "the greatest fuel", env, p, subject, false, 20000, want, code)
		codes[code]++
	}
	if codes[impl.OK] < 20 || codes[impl.ErrFull] < 20 || codes[impl.ErrSteps] < 5 {
		t.Error("few results with some code:", codes)
	}
	// As many frames and choices as fuel allows are within the limits of the machine.
	deep := []impl.Named{{Name: "x", Pattern: readPattern(t, `cat("",defer(x))`)}, {Name: "y", Pattern: readPattern(t, `alt(defer(y),"a")`)}, {Name: "z", Pattern: readPattern(t, `now(cond(defer(z),u),v)`)}, {Name: "w", Pattern: readPattern(t, "cat(arb,defer(w))")}}
	for _, name := range []string{"x", "y", "z", "w"} {
		p := texted(impl.PtDefer, name)
		checkAll(t, name, deep, p, "ab", true, 20000, nil, impl.ErrSteps)
		checkFirst(t, name, deep, p, "ab", true, 20000, firstResult{code: impl.ErrSteps})
	}
}

// TestRandomCodeInMatcher has pattern code that is made of random instructions.
func TestRandomCodeInMatcher(t *testing.T) {
	t.Parallel()
	source := rand.New(rand.NewSource(117))
	runs := 0
	for range 150000 {
		size := 3 + source.Intn(7)
		var c impl.PatternCode
		for at := range size {
			up := int64(at + 1 + source.Intn(size))
			down := int64(source.Intn(at + 1))
			list := []impl.PatternIns{op(impl.PtArb), op(impl.PtBal), opFor(impl.PtString, "a"), op(impl.PtSucceed), opFor(impl.PtDefer, "x"), op(impl.CoStep), op(impl.CoStep), op(impl.CoMark), op(impl.CoMark), opFor(impl.CoCond, "c"), opFor(impl.CoNow, "n"), opTo(impl.CoChoice, up), opTo(impl.CoChoice, up), opTo(impl.CoJump, up), opTo(impl.CoLoop, down), opTo(impl.CoLoop, down)}
			c.Code = append(c.Code, list[source.Intn(len(list))])
		}
		if source.Intn(2) == 0 {
			at := 1 + source.Intn(size-1)
			c.Entries = []impl.PatternEntry{{Name: "x", At: int64(at)}}
			c.Code[at-1] = op(impl.CoEnd)
			c.Code = append(c.Code, op(impl.CoReturn))
		} else {
			c.Code = append(c.Code, op(impl.CoEnd))
		}
		if _, ok := modelMarks(c); !ok {
			continue
		}
		runs++
		checkCode(t, c)
		m := newMatcher(t, c, []string{"", "a", "a(a)"}[source.Intn(3)], source.Intn(2) == 0)
		for range 6 {
			if !checkState(t, impl.CodeListing(c), c, m, int64(source.Intn(60))) {
				break
			}
			r := nextMatch(c, m, int64(20+source.Intn(60)))
			if m = r.m; r.code == impl.ErrSteps {
				m = stepped(t, c, m)
			}
		}
	}
	if runs < 2000 {
		t.Errorf("only %d valid lists", runs)
	}
}
