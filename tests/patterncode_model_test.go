package tests

import (
	"fmt"
	"slices"
	"strconv"
	"strings"
	"testing"

	"loop.example/g00873/impl"
)

// controlWords has the words of the control instructions, and controlFields what stands behind them.
var (
	controlWords  = map[int64]string{31: "step", 32: "choice", 33: "jump", 34: "mark", 35: "cond", 36: "now", 37: "loop", 38: "return", 39: "end"}
	controlFields = map[int64]string{32: "address", 33: "address", 35: "name", 36: "name", 37: "address"}
)

// modelIns returns the text form of an instruction, and whether it is valid.
func modelIns(i impl.PatternIns) (string, bool) {
	word, isControl := controlWords[i.Op]
	switch field := controlFields[i.Op]; {
	case !isControl:
		nodes, text := modelPattern(impl.Pattern{Kind: i.Op, Num: i.Num, Text: i.Text})
		return text, nodes == 1
	case field == "address":
		return word + " " + fmt.Sprint(i.Num), i.Text == "" && i.Num >= 0 && i.Num < 13000
	case field == "name":
		return word + " " + i.Text, i.Num == 0 && nameSyntax.MatchString(i.Text)
	}
	return word, i.Num == 0 && i.Text == ""
}

// modelRegion returns the number of the region of an address: 0 for the main region.
func modelRegion(c impl.PatternCode, at int64) int {
	number := 0
	for _, entry := range c.Entries {
		if entry.At <= at {
			number++
		}
	}
	return number
}

// modelHasForm reports whether pattern code satisfies the first condition of valid code.
func modelHasForm(c impl.PatternCode) bool {
	if len(c.Code) < 1 || len(c.Code) > 13000 || len(c.Entries) > 40 {
		return false
	}
	for _, i := range c.Code {
		if _, ok := modelIns(i); !ok {
			return false
		}
	}
	names := map[string]bool{}
	for i, entry := range c.Entries {
		names[entry.Name] = true
		if !nameSyntax.MatchString(entry.Name) || entry.At < 1 || entry.At >= int64(len(c.Code)) || i > 0 && entry.At <= c.Entries[i-1].At {
			return false
		}
	}
	return len(names) == len(c.Entries)
}

// modelHasRegions reports whether pattern code satisfies the second and the third condition.
func modelHasRegions(c impl.PatternCode) bool {
	for at, i := range c.Code {
		here := modelRegion(c, int64(at))
		isLast := at == len(c.Code)-1 || modelRegion(c, int64(at+1)) != here
		last := map[bool]int64{true: impl.CoEnd, false: impl.CoReturn}[here == 0]
		if isLast != (i.Op == impl.CoEnd || i.Op == impl.CoReturn) || isLast && i.Op != last {
			return false
		}
		isWithinRegion := i.Num < int64(len(c.Code)) && modelRegion(c, i.Num) == here
		switch i.Op {
		case impl.CoChoice, impl.CoJump:
			if !isWithinRegion || i.Num <= int64(at) {
				return false
			}
		case impl.CoLoop:
			if !isWithinRegion || i.Num >= int64(at) || c.Code[i.Num].Op != impl.CoStep {
				return false
			}
		}
	}
	return true
}

// modelSuccessors returns the successors of an instruction.
func modelSuccessors(c impl.PatternCode, at int64) []int64 {
	switch i := c.Code[at]; i.Op {
	case impl.CoJump, impl.CoLoop:
		return []int64{i.Num}
	case impl.CoChoice:
		return []int64{at + 1, i.Num}
	case impl.CoEnd, impl.CoReturn:
		return nil
	}
	return []int64{at + 1}
}

// modelMarks returns the number of marks at each address, and whether pattern
// code is valid. It spreads the numbers until no address gets one any more.
func modelMarks(c impl.PatternCode) ([]int64, bool) {
	if !modelHasForm(c) || !modelHasRegions(c) {
		return nil, false
	}
	marks := slices.Repeat([]int64{-1}, len(c.Code))
	marks[0] = 0
	for _, entry := range c.Entries {
		marks[entry.At] = 0
	}
	added := map[int64]int64{impl.CoMark: 1, impl.CoCond: -1, impl.CoNow: -1, impl.CoLoop: -1}
	for spreads := true; spreads; {
		spreads = false
		for at, i := range c.Code {
			if marks[at] < 0 {
				continue
			}
			behind := marks[at] + added[i.Op]
			if behind < 0 || behind > 0 && (i.Op == impl.CoEnd || i.Op == impl.CoReturn) {
				return nil, false
			}
			for _, next := range modelSuccessors(c, int64(at)) {
				if marks[next] >= 0 && marks[next] != behind {
					return nil, false
				}
				spreads = spreads || marks[next] < 0
				marks[next] = behind
			}
		}
	}
	return marks, true
}

// modelListing returns the listing of valid pattern code.
func modelListing(c impl.PatternCode) string {
	var lines []string
	for at, i := range c.Code {
		for _, entry := range c.Entries {
			if entry.At == int64(at) {
				lines = append(lines, entry.Name+":")
			}
		}
		text, _ := modelIns(i)
		lines = append(lines, strconv.Itoa(at)+" "+text)
	}
	return strings.Join(lines, "\n") + "\n"
}

// op, opTo and opFor return instructions: without fields, with an address or number, and with a text.
func op(code int64) impl.PatternIns              { return impl.PatternIns{Op: code} }
func opTo(code, n int64) impl.PatternIns         { return impl.PatternIns{Op: code, Num: n} }
func opFor(code int64, s string) impl.PatternIns { return impl.PatternIns{Op: code, Text: s} }

// modelCompiled returns the code of a pattern that begins at an address.
func modelCompiled(p impl.Pattern, begin int64) []impl.PatternIns {
	behind := func(code []impl.PatternIns, at int64) int64 { return at + int64(len(code)) }
	step := []impl.PatternIns{op(impl.CoStep)}
	switch p.Kind {
	case impl.PtAlt:
		first := modelCompiled(p.Kids[0], begin+2)
		at := behind(first, begin+3)
		second := modelCompiled(p.Kids[1], at)
		return slices.Concat(step, []impl.PatternIns{opTo(impl.CoChoice, at)}, first, []impl.PatternIns{opTo(impl.CoJump, behind(second, at))}, second)
	case impl.PtCat:
		first := modelCompiled(p.Kids[0], begin+1)
		return slices.Concat(step, first, modelCompiled(p.Kids[1], behind(first, begin+1)))
	case impl.PtArbno:
		kid := modelCompiled(p.Kids[0], begin+4)
		return slices.Concat(step, []impl.PatternIns{opTo(impl.CoChoice, begin+3), opTo(impl.CoJump, behind(kid, begin+5)), op(impl.CoMark)}, kid, []impl.PatternIns{opTo(impl.CoLoop, begin)})
	case impl.PtCond, impl.PtNow:
		last := map[int64]int64{impl.PtCond: impl.CoCond, impl.PtNow: impl.CoNow}[p.Kind]
		return slices.Concat(step, []impl.PatternIns{op(impl.CoMark)}, modelCompiled(p.Kids[0], begin+2), []impl.PatternIns{opFor(last, p.Text)})
	}
	return []impl.PatternIns{{Op: p.Kind, Num: p.Num, Text: p.Text}}
}

// modelCompiledAll returns the code of a pattern with an environment.
func modelCompiledAll(env []impl.Named, p impl.Pattern) impl.PatternCode {
	c := impl.PatternCode{Code: append(modelCompiled(p, 0), op(impl.CoEnd))}
	for _, x := range env {
		at := int64(len(c.Code))
		c.Entries = append(c.Entries, impl.PatternEntry{Name: x.Name, At: at})
		c.Code = append(append(c.Code, modelCompiled(x.Pattern, at)...), op(impl.CoReturn))
	}
	return c
}

// modelDecode tries each kind of pattern at an address. It returns the pattern
// whose code begins there with the address behind it, and whether there is one.
func modelDecode(code []impl.PatternIns, at int) (impl.Pattern, int, bool) {
	has := func(at int, want impl.PatternIns) bool { return at < len(code) && code[at] == want }
	if at < len(code) && code[at].Op < 31 {
		i := code[at]
		return impl.Pattern{Kind: i.Op, Num: i.Num, Text: i.Text}, at + 1, true
	}
	if !has(at, op(impl.CoStep)) {
		return impl.Pattern{}, 0, false
	}
	if p, end, ok := modelDecode(code, at+1); ok {
		q, end, ok := modelDecode(code, end)
		return tree(impl.PtCat, p, q), end, ok
	}
	if p, middle, ok := modelDecode(code, at+2); ok {
		for kind, last := range map[int64]int64{impl.PtCond: impl.CoCond, impl.PtNow: impl.CoNow} {
			if has(at+1, op(impl.CoMark)) && middle < len(code) && has(middle, opFor(last, code[middle].Text)) {
				return capturing(kind, p, code[middle].Text), middle + 1, true
			}
		}
		q, end, ok := modelDecode(code, middle+1)
		isAlt := ok && has(at+1, opTo(impl.CoChoice, int64(middle+1))) && has(middle, opTo(impl.CoJump, int64(end)))
		return tree(impl.PtAlt, p, q), end, isAlt
	}
	p, end, ok := modelDecode(code, at+4)
	isArbno := ok && has(at+1, opTo(impl.CoChoice, int64(at+3))) && has(at+2, opTo(impl.CoJump, int64(end+1))) && has(at+3, op(impl.CoMark)) && has(end, opTo(impl.CoLoop, int64(at)))
	return tree(impl.PtArbno, p), end + 1, isArbno
}

// modelDecompiled returns the pattern whose code this is, and whether there is one.
func modelDecompiled(code []impl.PatternIns) (impl.Pattern, bool) {
	p, end, ok := modelDecode(code, 0)
	if !ok || end != len(code) {
		return impl.Pattern{}, false
	}
	if nodes, _ := modelPattern(p); nodes == 0 {
		return impl.Pattern{}, false
	}
	return p, true
}

// readIns returns the instruction with a text form, which must be one.
func readIns(t *testing.T, s string) impl.PatternIns {
	t.Helper()
	word, field, _ := strings.Cut(s, " ")
	for code, known := range controlWords {
		if known != word {
			continue
		}
		switch controlFields[code] {
		case "address":
			n, err := strconv.ParseInt(field, 10, 64)
			if err != nil {
				t.Fatalf("no address: %q", s)
			}
			return opTo(code, n)
		default:
			return opFor(code, field)
		}
	}
	p := readPattern(t, s)
	return impl.PatternIns{Op: p.Kind, Num: p.Num, Text: p.Text}
}

// readCode returns pattern code from the text forms of its instructions, which
// are separated by semicolons. Before the first one of an entry there is its
// name with a colon.
func readCode(t *testing.T, s string) impl.PatternCode {
	t.Helper()
	var c impl.PatternCode
	for _, part := range strings.Split(s, ";") {
		part = strings.TrimSpace(part)
		if name, rest, found := strings.Cut(part, ": "); found {
			c.Entries = append(c.Entries, impl.PatternEntry{Name: name, At: int64(len(c.Code))})
			part = rest
		}
		if part != "" {
			c.Code = append(c.Code, readIns(t, part))
		}
	}
	return c
}

// equalCode reports whether two values are equal.
func equalCode(a, b impl.PatternCode) bool {
	return slices.Equal(a.Code, b.Code) && slices.Equal(a.Entries, b.Entries)
}

// copyCode returns equal pattern code that shares no memory.
func copyCode(c impl.PatternCode) impl.PatternCode {
	return impl.PatternCode{Code: slices.Clone(c.Code), Entries: slices.Clone(c.Entries)}
}

// compiled returns the code of a pattern in text form with an environment.
func compiled(t *testing.T, env []impl.Named, s string) impl.PatternCode {
	t.Helper()
	c, code := impl.CompileAll(env, readPattern(t, s))
	if code != impl.OK {
		t.Fatalf("CompileAll(%v, %.200q): code %d", env, s, code)
	}
	return c
}

// checkCode checks what all functions of chapter 13 with pattern code return, against the model.
func checkCode(t *testing.T, c impl.PatternCode) bool {
	t.Helper()
	marks, ok := modelMarks(c)
	listing := ""
	code := int64(impl.ErrInvalid)
	if ok {
		listing, code = modelListing(c), impl.OK
	}
	gotMarks, gotCode := impl.MarksOf(c)
	valid := impl.ValidPatternCode(c)
	if valid != ok || gotCode != code || !slices.Equal(gotMarks, marks) {
		t.Errorf("%.600q: valid %t, marks %v and %d, want %t, %v and %d", fmt.Sprint(c), valid, gotMarks, gotCode, ok, marks, code)
	}
	if got := impl.CodeListing(c); got != listing {
		t.Errorf("%.600q: listing %.300q, want %.300q", fmt.Sprint(c), got, listing)
	}
	for i, entry := range c.Entries {
		at, found := impl.EntryOf(c, entry.Name)
		if found != ok || ok && at != entry.At || !ok && at != 0 {
			t.Errorf("%.600q: entry %d at %d, %t", fmt.Sprint(c), i, at, found)
		}
	}
	return ok
}
