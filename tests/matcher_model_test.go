package tests

import (
	"fmt"
	"slices"
	"testing"

	"loop.example/g00873/impl"
)

// modelOwner has what is needed to tell to which addresses stacks belong.
type modelOwner struct {
	c      impl.PatternCode
	marks  []int64
	frames []impl.MatchFrame
}

// belongs reports whether the stack with a top frame belongs to an address.
func (o modelOwner) belongs(top, at int64) bool {
	if at < 0 || at >= int64(len(o.marks)) || o.marks[at] == -1 {
		return false
	}
	count := int64(0)
	for top != 0 && !o.frames[top-1].Return {
		top = o.frames[top-1].Below
		count++
	}
	isMain := modelRegion(o.c, at) == 0
	if count != o.marks[at] || isMain != (top == 0) {
		return false
	}
	return top == 0 || o.belongs(o.frames[top-1].Below, o.frames[top-1].Num)
}

// modelCanResume reports whether an instruction can be resumed.
func modelCanResume(i impl.PatternIns, c, k, n int64) bool {
	switch i.Op {
	case impl.PtArb:
		return k >= c && k <= n-1
	case impl.PtBal:
		return k >= c+1 && k <= n-1
	case impl.PtSucceed:
		return k == 0
	}
	return false
}

// modelHasCaptures reports whether a matcher satisfies the first condition of valid ones.
func modelHasCaptures(m impl.Matcher) bool {
	n := int64(len(m.Subject))
	for _, x := range m.Now {
		isKind := x.Kind == impl.CaNow || x.Kind == impl.CaCursor && x.Text == ""
		if !nameSyntax.MatchString(x.Name) || int64(len(x.Text)) > n || x.Cursor < 0 || x.Cursor > n || !isKind {
			return false
		}
	}
	for _, x := range m.Conds {
		if !nameSyntax.MatchString(x.Name) || int64(len(x.Text)) > n || x.Cursor < m.Start || x.Cursor > n || x.Kind != impl.CaCond {
			return false
		}
	}
	total := len(m.Now) + len(m.Conds)
	return total <= 100 || total == 101 && m.Status == impl.MtFault
}

// modelIsOver reports whether a matcher that has ended satisfies the second condition.
func modelIsOver(m impl.Matcher) bool {
	isFault := m.Status == impl.MtFault && (m.Fault == impl.ErrUndefined || m.Fault == impl.ErrFull)
	isDone := m.Status == impl.MtDone && m.Fault == impl.OK
	isEmpty := len(m.Frames) == 0 && len(m.Choices) == 0 && len(m.Conds) == 0
	return (isFault || isDone) && isEmpty && m.PC == 0 && m.Cursor == 0 && m.Top == 0 && !m.Resume && m.Last == 0
}

// modelIsMatcher reports whether a matcher is valid.
func modelIsMatcher(c impl.PatternCode, m impl.Matcher) bool {
	marks, ok := modelMarks(c)
	n := int64(len(m.Subject))
	if !ok || n > 200 || m.Start < 0 || m.Start > n || m.Anchored && m.Start != 0 || m.Steps < 0 || m.Steps > 1000000 || len(m.Choices) > 40000 || !modelHasCaptures(m) {
		return false
	}
	if m.Status == impl.MtDone || m.Status == impl.MtFault {
		return modelIsOver(m)
	}
	if m.Status != impl.MtRun && m.Status != impl.MtFound || m.Fault != impl.OK || len(m.Frames) > 40000 {
		return false
	}
	for i, f := range m.Frames {
		if f.Below < 0 || f.Below > int64(i) {
			return false
		}
	}
	owner := modelOwner{c, marks, m.Frames}
	for _, f := range m.Frames {
		if f.Return && !owner.belongs(f.Below, f.Num) || !f.Return && (f.Num < m.Start || f.Num > n) {
			return false
		}
	}
	isPlace := func(pc, at, top int64) bool {
		return at >= m.Start && at <= n && top >= 0 && top <= int64(len(m.Frames)) && owner.belongs(top, pc)
	}
	if !isPlace(m.PC, m.Cursor, m.Top) {
		return false
	}
	switch {
	case m.Resume && (m.Status != impl.MtRun || !modelCanResume(c.Code[m.PC], m.Cursor, m.Last, n)), !m.Resume && m.Last != 0, m.Status == impl.MtFound && c.Code[m.PC].Op != impl.CoEnd:
		return false
	}
	before := int64(0)
	for _, x := range m.Choices {
		if x.Conds < before || x.Conds > int64(len(m.Conds)) {
			return false
		}
		before = x.Conds
		switch x.Kind {
		case impl.ChAbort:
			ok = x.PC == 0 && x.Cursor == 0 && x.Top == 0 && x.Last == 0
		case impl.ChGo:
			ok = isPlace(x.PC, x.Cursor, x.Top) && x.Last == 0
		case impl.ChMore:
			ok = isPlace(x.PC, x.Cursor, x.Top) && modelCanResume(c.Code[x.PC], x.Cursor, x.Last, n)
		default:
			ok = false
		}
		if !ok {
			return false
		}
	}
	return true
}

// copyMatcher returns an equal matcher that shares no memory.
func copyMatcher(m impl.Matcher) impl.Matcher {
	m.Frames = slices.Clone(m.Frames)
	m.Choices = slices.Clone(m.Choices)
	m.Now = slices.Clone(m.Now)
	m.Conds = slices.Clone(m.Conds)
	return m
}

// equalMatchers reports whether two matchers are equal.
func equalMatchers(a, b impl.Matcher) bool {
	return a.Status == b.Status && a.Fault == b.Fault && a.Subject == b.Subject && a.Anchored == b.Anchored && a.Start == b.Start &&
		a.PC == b.PC && a.Cursor == b.Cursor && a.Top == b.Top && a.Resume == b.Resume && a.Last == b.Last && a.Steps == b.Steps &&
		slices.Equal(a.Frames, b.Frames) && slices.Equal(a.Choices, b.Choices) && slices.Equal(a.Now, b.Now) && slices.Equal(a.Conds, b.Conds)
}

func checkMatcher(t *testing.T, what string, got, want impl.Matcher) {
	t.Helper()
	if !equalMatchers(got, want) {
		t.Errorf("%s: got %.800q, want %.800q", what, fmt.Sprintf("%+v", got), fmt.Sprintf("%+v", want))
	}
}

// modelEnd ends with a status.
func modelEnd(m impl.Matcher, status, fault int64) impl.Matcher {
	return impl.Matcher{Status: status, Fault: fault, Subject: m.Subject, Anchored: m.Anchored, Start: m.Start, Steps: m.Steps, Now: m.Now}
}

// modelFail fails.
func modelFail(m impl.Matcher) impl.Matcher {
	count := len(m.Choices)
	if count == 0 {
		if m.Anchored || m.Start == int64(len(m.Subject)) {
			return modelEnd(m, impl.MtDone, impl.OK)
		}
		m = modelEnd(m, impl.MtRun, impl.OK)
		m.Start++
		m.Cursor = m.Start
		return m
	}
	x := m.Choices[count-1]
	if x.Kind == impl.ChAbort {
		return modelEnd(m, impl.MtDone, impl.OK)
	}
	m.Choices = m.Choices[:count-1]
	m.Conds = m.Conds[:x.Conds]
	m.Status, m.Resume = impl.MtRun, x.Kind == impl.ChMore
	m.PC, m.Cursor, m.Top, m.Last = x.PC, x.Cursor, x.Top, x.Last
	return m
}

// modelIsCounted reports whether the next step of a matcher with the status MtRun is counted.
func modelIsCounted(c impl.PatternCode, m impl.Matcher) bool {
	code := c.Code[m.PC].Op
	if m.Resume {
		return code == impl.PtSucceed
	}
	return code <= 24 || code == impl.CoStep || code == impl.CoEnd
}

// modelNote appends a capture.
func modelNote(m impl.Matcher, x impl.Capture) impl.Matcher {
	if x.Kind == impl.CaCond {
		m.Conds = append(m.Conds, x)
	} else {
		m.Now = append(m.Now, x)
	}
	if len(m.Now)+len(m.Conds) > 100 {
		return modelEnd(m, impl.MtFault, impl.ErrFull)
	}
	return m
}

// modelEnds returns the end cursors of an instruction from a cursor on.
func modelEnds(i impl.PatternIns, s string, c, from int64) []int64 {
	var ends []int64
	for e := max(c, from); e <= int64(len(s)); e++ {
		if modelIsEnd(impl.Pattern{Kind: i.Op, Num: i.Num, Text: i.Text}, s, int(c), int(e)) {
			ends = append(ends, e)
		}
	}
	return ends
}

// modelStep performs a step of a valid matcher that is not over.
func modelStep(c impl.PatternCode, m impl.Matcher) impl.Matcher {
	m = copyMatcher(m)
	if m.Status == impl.MtFound {
		return modelFail(m)
	}
	i, pc, from := c.Code[m.PC], m.PC, m.Cursor
	if m.Resume {
		from = m.Last + 1
	}
	if modelIsCounted(c, m) {
		m.Steps++
	}
	m.Resume, m.Last = false, 0
	m.PC++
	add := func(kind, pc, last int64) {
		m.Choices = append(m.Choices, impl.MatchChoice{Kind: kind, PC: pc, Cursor: m.Cursor, Top: m.Top, Conds: int64(len(m.Conds)), Last: last})
	}
	pop := func() int64 {
		f := m.Frames[m.Top-1]
		m.Top = f.Below
		return f.Num
	}
	push := func(num int64, isReturn bool) {
		m.Frames = append(m.Frames, impl.MatchFrame{Below: m.Top, Num: num, Return: isReturn})
		m.Top = int64(len(m.Frames))
	}
	switch i.Op {
	case impl.CoStep:
	case impl.CoChoice:
		add(impl.ChGo, i.Num, 0)
	case impl.CoJump:
		m.PC = i.Num
	case impl.CoMark:
		push(m.Cursor, false)
	case impl.CoCond, impl.CoNow:
		text := ""
		if from := pop(); from < m.Cursor {
			text = m.Subject[from:m.Cursor]
		}
		kind := map[int64]int64{impl.CoCond: impl.CaCond, impl.CoNow: impl.CaNow}[i.Op]
		return modelNote(m, impl.Capture{Name: i.Text, Text: text, Cursor: m.Cursor, Kind: kind})
	case impl.CoLoop:
		m.PC = i.Num
		if pop() == m.Cursor {
			return modelFail(m)
		}
	case impl.CoReturn:
		m.PC = pop()
	case impl.CoEnd:
		m.Status, m.PC = impl.MtFound, pc
	case impl.PtDefer:
		for _, entry := range c.Entries {
			if entry.Name == i.Text {
				push(m.PC, true)
				m.PC = entry.At
				return m
			}
		}
		return modelEnd(m, impl.MtFault, impl.ErrUndefined)
	case impl.PtCursor:
		return modelNote(m, impl.Capture{Name: i.Text, Cursor: m.Cursor, Kind: impl.CaCursor})
	case impl.PtFence:
		m.Choices = append(m.Choices, impl.MatchChoice{Kind: impl.ChAbort, Conds: int64(len(m.Conds))})
	case impl.PtAbort:
		return modelEnd(m, impl.MtDone, impl.OK)
	case impl.PtSucceed:
		add(impl.ChMore, pc, 0)
	default:
		ends := modelEnds(i, m.Subject, m.Cursor, from)
		if len(ends) == 0 {
			return modelFail(m)
		}
		if (i.Op == impl.PtArb || i.Op == impl.PtBal) && ends[0] < int64(len(m.Subject)) {
			add(impl.ChMore, pc, ends[0])
		}
		m.Cursor = ends[0]
	}
	return m
}

// modelIsFull reports whether a limit forbids the next step.
func modelIsFull(m impl.Matcher) bool {
	return m.Status == impl.MtRun && (len(m.Frames) == 40000 || len(m.Choices) == 40000 || m.Steps == 1000000)
}

// nextResult is what NextMatch returns.
type nextResult struct {
	m     impl.Matcher
	match impl.Match
	found bool
	code  int64
}

func nextMatch(c impl.PatternCode, m impl.Matcher, fuel int64) nextResult {
	var r nextResult
	r.m, r.match, r.found, r.code = impl.NextMatch(c, m, fuel)
	return r
}

func checkNext(t *testing.T, what string, got, want nextResult) {
	t.Helper()
	checkMatcher(t, what, got.m, want.m)
	if !equalMatches([]impl.Match{got.match}, []impl.Match{want.match}) || got.found != want.found || got.code != want.code {
		t.Errorf("%s: got %v, %t and %d, want %v, %t and %d", what, got.match, got.found, got.code, want.match, want.found, want.code)
	}
}

// modelNext performs steps up to the next match of a valid matcher that is not
// over. It reports false if there are more steps than a limit.
func modelNext(c impl.PatternCode, m impl.Matcher, fuel int64, limit int) (nextResult, bool) {
	if m.Status == impl.MtFound {
		m = modelStep(c, m)
	}
	for ; m.Status == impl.MtRun; limit-- {
		switch {
		case limit == 0:
			return nextResult{}, false
		case modelIsCounted(c, m) && m.Steps >= fuel:
			return nextResult{m: m, code: impl.ErrSteps}, true
		case modelIsFull(m):
			return nextResult{m: m, code: impl.ErrFull}, true
		}
		m = modelStep(c, m)
	}
	if m.Status == impl.MtFound {
		return nextResult{m, impl.Match{Start: m.Start, End: m.Cursor, Captures: slices.Concat(m.Now, m.Conds)}, true, impl.OK}, true
	}
	return nextResult{m: m, code: m.Fault}, true
}

// modelCompacted removes the frames of a valid matcher that are on no stack.
func modelCompacted(m impl.Matcher) impl.Matcher {
	m = copyMatcher(m)
	used := map[int64]bool{}
	tops := []*int64{&m.Top}
	for i := range m.Choices {
		tops = append(tops, &m.Choices[i].Top)
	}
	for _, top := range tops {
		for number := *top; number != 0; number = m.Frames[number-1].Below {
			used[number] = true
		}
	}
	numbers := map[int64]int64{}
	var frames []impl.MatchFrame
	for i, f := range m.Frames {
		if used[int64(i+1)] {
			f.Below = numbers[f.Below]
			frames = append(frames, f)
			numbers[int64(i+1)] = int64(len(frames))
		}
	}
	for _, top := range tops {
		*top = numbers[*top]
	}
	m.Frames = frames
	return m
}

// checkState checks what the functions of chapter 14 return for a matcher,
// against the model, and reports whether it is valid and not over.
func checkState(t *testing.T, what string, c impl.PatternCode, m impl.Matcher, fuel int64) bool {
	t.Helper()
	isValid := modelIsMatcher(c, m)
	if got := impl.ValidMatcher(c, m); got != isValid {
		t.Errorf("%s: ValidMatcher %t, want %t: %.300q and %.900q", what, got, isValid, impl.CodeListing(c), fmt.Sprintf("%+v", m))
		return false
	}
	stepped, stepCode := impl.StepMatcher(c, m)
	compacted, compactCode := impl.CompactMatcher(c, m)
	next := nextMatch(c, m, fuel)
	code := int64(impl.OK)
	switch {
	case !isValid:
		code = impl.ErrInvalid
	case m.Status == impl.MtDone || m.Status == impl.MtFault:
		code = impl.ErrState
	}
	if !isValid {
		checkMatcher(t, what+": invalid, compacted", compacted, impl.Matcher{})
		checkEqual(t, what+": code of CompactMatcher", compactCode, impl.ErrInvalid)
	} else {
		checkMatcher(t, what+": compacted", compacted, modelCompacted(m))
		checkEqual(t, what+": code of CompactMatcher", compactCode, impl.OK)
	}
	if code != impl.OK {
		checkMatcher(t, what+": no step", stepped, impl.Matcher{})
		checkEqual(t, what+": code of StepMatcher", stepCode, code)
		checkNext(t, what+": no match", next, nextResult{code: code})
		return false
	}
	if modelIsFull(m) {
		checkMatcher(t, what+": full", stepped, impl.Matcher{})
		checkEqual(t, what+": code of StepMatcher", stepCode, impl.ErrFull)
	} else {
		checkMatcher(t, what+": a step from "+fmt.Sprintf("%+v", m), stepped, modelStep(c, m))
		checkEqual(t, what+": code of StepMatcher", stepCode, impl.OK)
	}
	if want, ok := modelNext(c, m, fuel, 5000); ok {
		checkNext(t, what+": next match", next, want)
	}
	return true
}
