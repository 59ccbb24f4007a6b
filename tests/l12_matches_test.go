package tests

import (
	"fmt"
	"math"
	"slices"
	"strings"
	"testing"

	"loop.example/g00873/impl"
)

// cond, now and cursor return captures.
func cond(name, s string, at int64) impl.Capture {
	return impl.Capture{Name: name, Text: s, Cursor: at, Kind: impl.CaCond}
}

func now(name, s string, at int64) impl.Capture {
	return impl.Capture{Name: name, Text: s, Cursor: at, Kind: impl.CaNow}
}

func cursor(name string, at int64) impl.Capture {
	return impl.Capture{Name: name, Cursor: at, Kind: impl.CaCursor}
}

// matched returns a match.
func matched(start, end int64, captures ...impl.Capture) impl.Match {
	return impl.Match{Start: start, End: end, Captures: captures}
}

// spans returns matches without captures from a text such as "0-1 1-1".
func spans(s string) []impl.Match {
	var list []impl.Match
	for _, span := range strings.Fields(s) {
		var m impl.Match
		fmt.Sscanf(span, "%d-%d", &m.Start, &m.End)
		list = append(list, m)
	}
	return list
}

func TestMatchConstants(t *testing.T) {
	checkList(t, "kinds of captures", []int64{impl.CaCond, impl.CaNow, impl.CaCursor}, []int64{1, 2, 3})
	checkList(t, "limits", []int64{impl.MaxMatches, impl.MaxMatchSteps, impl.MaxCaptures}, []int64{60, 20000, 100})
}

func TestMatchExamples(t *testing.T) {
	pattern := func(s string) impl.Pattern { return readPattern(t, s) }
	checkMatches(t, "arb", nil, pattern("arb"), "ab", false, 100, spans("0-0 0-1 0-2 1-1 1-2 2-2"), impl.OK)
	checkMatches(t, "captures", nil, pattern("cat(cond(len(1),x),now(len(1),y))"), "ab", true, 100, []impl.Match{matched(0, 2, now("y", "b", 2), cond("x", "a", 1))}, impl.OK)
	checkMatches(t, "fence", nil, pattern(`cat(fence,"b")`), "ab", false, 100, nil, impl.OK)
	checkMatches(t, "succeed", nil, pattern("succeed"), "ab", false, 1000, slices.Repeat(spans("0-0"), 60), impl.ErrFull)
	checkEnds(t, "span", nil, pattern(`span("ab")`), "abba", 1, 100, []int64{4}, impl.OK)
	checkEqual(t, "MatchText", impl.MatchText("abcd", matched(1, 3)), "bc")
	checkEqual(t, "abab", impl.IsFullMatch(nil, pattern(`arbno("ab")`), "abab", 100), true)
	checkEqual(t, "aba", impl.IsFullMatch(nil, pattern(`arbno("ab")`), "aba", 100), false)
}

// TestEndCursors has the end cursors of each kind of nodes at each cursor of a subject.
func TestEndCursors(t *testing.T) {
	env := []impl.Named{{Name: "p", Pattern: readPattern(t, `"ab"`)}, {Name: "q", Pattern: readPattern(t, `alt(cat("a",defer(q)),"")`)}, {Name: "r", Pattern: readPattern(t, `alt(cat("(",cat(defer(r),")")),"")`)}}
	for _, c := range []struct {
		pattern, subject string
		want             [][]int64
	}{
		{`""`, "", [][]int64{{0}}},
		{`""`, "ab", [][]int64{{0}, {1}, {2}}},
		{`"a"`, "", [][]int64{{}}},
		{`"a"`, "aba", [][]int64{{1}, {}, {3}, {}}},
		{`"ab"`, "abab", [][]int64{{2}, {}, {4}, {}, {}}},
		{`"aa"`, "aaa", [][]int64{{2}, {3}, {}, {}}},
		{`"abc"`, "ab", [][]int64{{}, {}, {}}},
		{"\"\xac\"", "\u20ac", [][]int64{{}, {}, {3}, {}}},
		{`any("ab")`, "", [][]int64{{}}},
		{`any("ab")`, "acb", [][]int64{{1}, {}, {3}, {}}},
		{`any("bb")`, "ab", [][]int64{{}, {2}, {}}},
		{"any(\"\u20ac\")", "\x82a\xac", [][]int64{{1}, {}, {3}, {}}},
		{`notany("ab")`, "", [][]int64{{}}},
		{`notany("ab")`, "acb\x00\xff", [][]int64{{}, {2}, {}, {4}, {5}, {}}},
		{`span("ab")`, "", [][]int64{{}}},
		{`span("ab")`, "abcba", [][]int64{{2}, {2}, {}, {5}, {5}, {}}},
		{`span("a")`, "aaa", [][]int64{{3}, {3}, {3}, {}}},
		{`break("ab")`, "", [][]int64{{}}},
		{`break("ab")`, "cadbc", [][]int64{{1}, {1}, {3}, {3}, {}, {}}},
		{`break("a")`, "bbb", [][]int64{{}, {}, {}, {}}},
		{"len(0)", "ab", [][]int64{{0}, {1}, {2}}},
		{"len(1)", "ab", [][]int64{{1}, {2}, {}}},
		{"len(2)", "ab", [][]int64{{2}, {}, {}}},
		{"len(3)", "ab", [][]int64{{}, {}, {}}},
		{"len(200)", "ab", [][]int64{{}, {}, {}}},
		{"pos(0)", "ab", [][]int64{{0}, {}, {}}},
		{"pos(1)", "ab", [][]int64{{}, {1}, {}}},
		{"pos(2)", "ab", [][]int64{{}, {}, {2}}},
		{"pos(3)", "ab", [][]int64{{}, {}, {}}},
		{"rpos(0)", "ab", [][]int64{{}, {}, {2}}},
		{"rpos(1)", "ab", [][]int64{{}, {1}, {}}},
		{"rpos(2)", "ab", [][]int64{{0}, {}, {}}},
		{"rpos(3)", "ab", [][]int64{{}, {}, {}}},
		{"tab(0)", "ab", [][]int64{{0}, {}, {}}},
		{"tab(1)", "ab", [][]int64{{1}, {1}, {}}},
		{"tab(2)", "ab", [][]int64{{2}, {2}, {2}}},
		{"tab(3)", "ab", [][]int64{{}, {}, {}}},
		{"rtab(0)", "ab", [][]int64{{2}, {2}, {2}}},
		{"rtab(1)", "ab", [][]int64{{1}, {1}, {}}},
		{"rtab(2)", "ab", [][]int64{{0}, {}, {}}},
		{"rtab(3)", "ab", [][]int64{{}, {}, {}}},
		{"rem", "", [][]int64{{0}}},
		{"rem", "ab", [][]int64{{2}, {2}, {2}}},
		{"arb", "", [][]int64{{0}}},
		{"arb", "ab", [][]int64{{0, 1, 2}, {1, 2}, {2}}},
		{"bal", "", [][]int64{{}}},
		{"bal", "ab", [][]int64{{1, 2}, {2}, {}}},
		{"bal", "()", [][]int64{{2}, {}, {}}},
		{"bal", ")(", [][]int64{{}, {}, {}}},
		{"bal", "((", [][]int64{{}, {}, {}}},
		{"bal", "(a)b", [][]int64{{3, 4}, {2}, {}, {4}, {}}},
		{"bal", "a(b(c)d)e", [][]int64{{1, 8, 9}, {8, 9}, {3, 6, 7}, {6, 7}, {5}, {}, {7}, {}, {9}, {}}},
		{"bal", "()()", [][]int64{{2, 4}, {}, {4}, {}, {}}},
		{"bal", "a)b", [][]int64{{1}, {}, {3}, {}}},
		{"bal", "[]{}<>", [][]int64{{1, 2, 3, 4, 5, 6}, {2, 3, 4, 5, 6}, {3, 4, 5, 6}, {4, 5, 6}, {5, 6}, {6}, {}}},
		{"fence", "ab", [][]int64{{0}, {1}, {2}}},
		{"abort", "ab", [][]int64{{}, {}, {}}},
		{"fail", "ab", [][]int64{{}, {}, {}}},
		{`alt("ab","a")`, "ab", [][]int64{{2, 1}, {}, {}}},
		{`alt("a","a")`, "aa", [][]int64{{1, 1}, {2, 2}, {}}},
		{"alt(rem,arb)", "ab", [][]int64{{2, 0, 1, 2}, {2, 1, 2}, {2, 2}}},
		{`alt(fail,"a")`, "a", [][]int64{{1}, {}}},
		{`cat("a","b")`, "abab", [][]int64{{2}, {}, {4}, {}, {}}},
		{"cat(arb,arb)", "ab", [][]int64{{0, 1, 2, 1, 2, 2}, {1, 2, 2}, {2}}},
		{`cat(alt("ab","a"),alt("b",""))`, "abb", [][]int64{{3, 2, 2, 1}, {}, {}, {}}},
		{"cat(rem,pos(0))", "ab", [][]int64{{}, {}, {}}},
		{`arbno("ab")`, "ababa", [][]int64{{0, 2, 4}, {1}, {2, 4}, {3}, {4}, {5}}},
		{`arbno("")`, "ab", [][]int64{{0}, {1}, {2}}},
		{`arbno(alt("","a"))`, "aa", [][]int64{{0, 1, 2}, {1, 2}, {2}}},
		{`arbno(alt("a","aa"))`, "aaa", [][]int64{{0, 1, 2, 3, 3, 2, 3}, {1, 2, 3, 3}, {2, 3}, {3}}},
		{"arbno(arb)", "ab", [][]int64{{0, 1, 2, 2}, {1, 2}, {2}}},
		{`arbno(arbno("a"))`, "aa", [][]int64{{0, 1, 2, 2}, {1, 2}, {2}}},
		{"arbno(rem)", "ab", [][]int64{{0, 2}, {1, 2}, {2}}},
		{"arbno(fail)", "ab", [][]int64{{0}, {1}, {2}}},
		{"arbno(pos(1))", "ab", [][]int64{{0}, {1}, {2}}},
		{"arbno(tab(1))", "ab", [][]int64{{0, 1}, {1}, {2}}},
		{"arbno(abort)", "ab", [][]int64{{0}, {1}, {2}}},
		{"arbno(fence)", "ab", [][]int64{{0}, {1}, {2}}},
		{`arbno(cat("a",fence))`, "aab", [][]int64{{0, 1, 2}, {1, 2}, {2}, {3}}},
		{"cond(arb,x)", "ab", [][]int64{{0, 1, 2}, {1, 2}, {2}}},
		{"now(arb,x)", "ab", [][]int64{{0, 1, 2}, {1, 2}, {2}}},
		{"cond(fail,x)", "a", [][]int64{{}, {}}},
		{"cursor(x)", "ab", [][]int64{{0}, {1}, {2}}},
		{"defer(p)", "ab", [][]int64{{2}, {}, {}}},
		{"defer(q)", "aab", [][]int64{{2, 1, 0}, {2, 1}, {2}, {3}}},
		{"defer(r)", "(())", [][]int64{{4, 0}, {3, 1}, {2}, {3}, {4}}},
	} {
		p := readPattern(t, c.pattern)
		checkEqual(t, c.pattern+": number of cursors", len(c.want), len(c.subject)+1)
		for start, want := range c.want {
			checkEnds(t, "enough fuel", env, p, c.subject, int64(start), 1000, want, impl.OK)
			steps := modelMatches(env, p, c.subject, start, start, 1000).steps
			checkEnds(t, "exactly enough fuel", env, p, c.subject, int64(start), steps, want, impl.OK)
			checkEnds(t, "too little fuel", env, p, c.subject, int64(start), steps-1, nil, impl.ErrSteps)
		}
	}
}

// TestWholeMatches has the matches at all start cursors, above all those of patterns that end the whole match.
func TestWholeMatches(t *testing.T) {
	env := []impl.Named{{Name: "f", Pattern: readPattern(t, "fence")}, {Name: "stop", Pattern: readPattern(t, "abort")}, {Name: "par", Pattern: readPattern(t, `alt("a",cat("(",cat(defer(par),")")))`)}, {Name: "even", Pattern: readPattern(t, `alt("",cat("a",defer(odd)))`)}, {Name: "odd", Pattern: readPattern(t, `cat("a",defer(even))`)}}
	for _, c := range []struct{ pattern, subject, anchored, unanchored string }{
		{`""`, "", "0-0", "0-0"},
		{`"a"`, "", "", ""},
		{`"ab"`, "abcab", "0-2", "0-2 3-5"},
		{`"b"`, "ab", "", "1-2"},
		{"rem", "ab", "0-2", "0-2 1-2 2-2"},
		{"rpos(0)", "ab", "", "2-2"},
		{"bal", "(a", "", "1-2"},
		{"cat(len(1),pos(1))", "ab", "0-1", "0-1"},
		{"cat(len(1),rpos(0))", "ab", "", "1-2"},
		{"fail", "ab", "", ""},
		{"fence", "", "0-0", "0-0"},
		{"fence", "ab", "0-0", "0-0"},
		{`cat(fence,"b")`, "ab", "", ""},
		{`cat(fence,"a")`, "ab", "0-1", "0-1"},
		{"cat(fence,arb)", "ab", "0-0 0-1 0-2", "0-0 0-1 0-2"},
		{"cat(arb,fence)", "ab", "0-0", "0-0"},
		{`cat("b",fence)`, "abb", "", "1-2"},
		{`cat("b",cat(fence,"c"))`, "abbc", "", ""},
		{`cat("b",cat(fence,arb))`, "aabc", "", "2-3 2-4"},
		{`cat(arb,cat(fence,"b"))`, "ab", "", ""},
		{`cat(arb,cat("b",fence))`, "abb", "0-2", "0-2"},
		{`alt("a",fence)`, "ab", "0-1 0-0", "0-1 0-0"},
		{`alt(fence,"a")`, "ab", "0-0", "0-0"},
		{`alt("b",fence)`, "ab", "0-0", "0-0"},
		{`alt("a",cat("b",fence))`, "aabab", "0-1", "0-1 1-2 2-3"},
		{`alt(cat("a",fence),arb)`, "ba", "0-0 0-1 0-2", "0-0 0-1 0-2 1-2"},
		{"cond(fence,x)", "", "0-0", "0-0"},
		{"arbno(fence)", "ab", "0-0", "0-0"},
		{`arbno(cat("a",fence))`, "baa", "0-0", "0-0 1-1 1-2 1-3"},
		{`cat(arbno("a"),fence)`, "aa", "0-0", "0-0"},
		{"defer(f)", "ab", "0-0", "0-0"},
		{`cat("b",defer(f))`, "ab", "", "1-2"},
		{"cat(fence,fence)", "ab", "0-0", "0-0"},
		{"abort", "", "", ""},
		{"abort", "ab", "", ""},
		{`alt("a",abort)`, "aa", "0-1", "0-1"},
		{`alt("b",abort)`, "ab", "", ""},
		{`alt(abort,"a")`, "ab", "", ""},
		{`alt("a",cat("b",abort))`, "acaba", "0-1", "0-1 2-3"},
		{`cat(abort,"a")`, "ab", "", ""},
		{"cat(arb,abort)", "ab", "", ""},
		{`cat("b",abort)`, "ab", "", ""},
		{"arbno(abort)", "ab", "0-0", "0-0"},
		{`arbno(alt("a",abort))`, "aab", "0-0 0-1 0-2", "0-0 0-1 0-2"},
		{"cond(abort,x)", "ab", "", ""},
		{"now(abort,x)", "ab", "", ""},
		{"defer(stop)", "ab", "", ""},
		{`alt("a",defer(stop))`, "aab", "0-1", "0-1"},
		{"cat(fence,abort)", "ab", "", ""},
		{"alt(fence,abort)", "ab", "0-0", "0-0"},
		{"alt(fence,defer(none))", "ab", "0-0", "0-0"},
		{"alt(abort,defer(none))", "ab", "", ""},
		{"cat(fail,defer(none))", "ab", "", ""},
		{"alt(fence,succeed)", "ab", "0-0", "0-0"},
		{"cat(succeed,fence)", "ab", "0-0", "0-0"},
		{"cat(succeed,abort)", "ab", "", ""},
		{`cat("b",cat(succeed,fence))`, "ab", "", "1-2"},
		{`cat(fence,cat("a",succeed))`, "ba", "", ""},
		{"defer(par)", "((a))", "0-5", "0-5 1-4 2-3"},
		{"defer(par)", "((a)", "", "1-4 2-3"},
		{"cat(defer(par),rpos(0))", "(a)a", "", "3-4"},
		{"defer(even)", "aaa", "0-0 0-2", "0-0 0-2 1-1 1-3 2-2 3-3"},
		{"defer(odd)", "aaa", "0-1 0-3", "0-1 0-3 1-2 2-3"},
		{"cat(defer(odd),rpos(0))", "aaa", "0-3", "0-3 2-3"},
	} {
		p := readPattern(t, c.pattern)
		for _, anchored := range []bool{true, false} {
			want := spans(map[bool]string{true: c.anchored, false: c.unanchored}[anchored])
			got, code := impl.MatchesOf(env, p, c.subject, anchored, 1000)
			for i := range got {
				got[i].Captures = nil
			}
			if !equalMatches(got, want) || code != impl.OK {
				t.Errorf("%s in %q, anchored %t: got %v and %d, want %v", c.pattern, c.subject, anchored, got, code, want)
			}
		}
		checkAgainstModel(t, env, p, c.subject, 1000)
	}
}

// TestCaptures has the captures that remain after backtracking, and after start cursors without a match.
func TestCaptures(t *testing.T) {
	env := []impl.Named{{Name: "v", Pattern: readPattern(t, "cond(len(1),v)")}, {Name: "w", Pattern: readPattern(t, `alt("",now(cat("a",defer(w)),w))`)}}
	for _, c := range []struct {
		pattern, subject string
		anchored         bool
		want             []impl.Match
	}{
		{"cond(rem,x)", "ab", true, []impl.Match{matched(0, 2, cond("x", "ab", 2))}},
		{"now(rem,x)", "ab", true, []impl.Match{matched(0, 2, now("x", "ab", 2))}},
		{"cursor(x)", "ab", true, []impl.Match{matched(0, 0, cursor("x", 0))}},
		{"cat(rem,cursor(x))", "ab", true, []impl.Match{matched(0, 2, cursor("x", 2))}},
		{`cond("",x)`, "", true, []impl.Match{matched(0, 0, cond("x", "", 0))}},
		{`now("",x)`, "", true, []impl.Match{matched(0, 0, now("x", "", 0))}},
		{"cond(rem,x)", "ab", false, []impl.Match{matched(0, 2, cond("x", "ab", 2)), matched(1, 2, cond("x", "b", 2)), matched(2, 2, cond("x", "", 2))}},
		{"now(rem,x)", "ab", false, []impl.Match{matched(0, 2, now("x", "ab", 2)), matched(1, 2, now("x", "ab", 2), now("x", "b", 2)), matched(2, 2, now("x", "ab", 2), now("x", "b", 2), now("x", "", 2))}},
		{"cursor(x)", "a", false, []impl.Match{matched(0, 0, cursor("x", 0)), matched(1, 1, cursor("x", 0), cursor("x", 1))}},
		{"cond(arb,x)", "ab", true, []impl.Match{matched(0, 0, cond("x", "", 0)), matched(0, 1, cond("x", "a", 1)), matched(0, 2, cond("x", "ab", 2))}},
		{"now(arb,x)", "ab", true, []impl.Match{matched(0, 0, now("x", "", 0)), matched(0, 1, now("x", "", 0), now("x", "a", 1)), matched(0, 2, now("x", "", 0), now("x", "a", 1), now("x", "ab", 2))}},
		{"cond(cond(rem,x),y)", "a", true, []impl.Match{matched(0, 1, cond("x", "a", 1), cond("y", "a", 1))}},
		{"now(now(rem,x),y)", "a", true, []impl.Match{matched(0, 1, now("x", "a", 1), now("y", "a", 1))}},
		{"cond(now(rem,x),y)", "a", true, []impl.Match{matched(0, 1, now("x", "a", 1), cond("y", "a", 1))}},
		{"now(cond(rem,x),y)", "a", true, []impl.Match{matched(0, 1, now("y", "a", 1), cond("x", "a", 1))}},
		{"cond(cat(len(1),cond(len(1),x)),x)", "ab", true, []impl.Match{matched(0, 2, cond("x", "b", 2), cond("x", "ab", 2))}},
		{"cat(cond(len(1),x),cat(cond(len(1),y),cond(len(1),x)))", "abc", true, []impl.Match{matched(0, 3, cond("x", "a", 1), cond("y", "b", 2), cond("x", "c", 3))}},
		{"cat(cond(len(1),x),cat(cursor(y),now(len(1),x)))", "ab", true, []impl.Match{matched(0, 2, cursor("y", 1), now("x", "b", 2), cond("x", "a", 1))}},
		{`cat(cond(arb,x),"b")`, "aab", true, []impl.Match{matched(0, 3, cond("x", "aa", 2))}},
		{`cat(now(arb,x),"b")`, "aab", true, []impl.Match{matched(0, 3, now("x", "", 0), now("x", "a", 1), now("x", "aa", 2))}},
		{`cat(now(len(1),x),"b")`, "acab", false, []impl.Match{matched(2, 4, now("x", "a", 1), now("x", "c", 2), now("x", "a", 3))}},
		{`cat(cond(len(1),x),"b")`, "acab", false, []impl.Match{matched(2, 4, cond("x", "a", 3))}},
		{`cat(cursor(x),"b")`, "aab", false, []impl.Match{matched(2, 3, cursor("x", 0), cursor("x", 1), cursor("x", 2))}},
		{`cat(alt(cond("ab",x),cond("a",y)),cat(cursor(z),"b"))`, "ab", true, []impl.Match{matched(0, 2, cursor("z", 2), cursor("z", 1), cond("y", "a", 1))}},
		{`cat(alt(cond("a",x),now("a",y)),alt("c","b"))`, "ab", true, []impl.Match{matched(0, 2, cond("x", "a", 1)), matched(0, 2, now("y", "a", 1))}},
		{`alt(cat(cond("a",x),"c"),cat("a",cond("b",y)))`, "ab", true, []impl.Match{matched(0, 2, cond("y", "b", 2))}},
		{`alt(cat(now("a",x),"c"),cat("a",cond("b",y)))`, "ab", true, []impl.Match{matched(0, 2, now("x", "a", 1), cond("y", "b", 2))}},
		{"cond(fail,x)", "a", false, nil},
		{"now(fail,x)", "a", false, nil},
		{"cat(now(len(1),x),abort)", "ab", false, nil},
		{"alt(cat(now(len(1),x),fail),cat(cond(len(1),y),fence))", "ab", false, []impl.Match{matched(0, 1, now("x", "a", 1), cond("y", "a", 1))}},
		{"arbno(cond(len(1),x))", "ab", true, []impl.Match{matched(0, 0), matched(0, 1, cond("x", "a", 1)), matched(0, 2, cond("x", "a", 1), cond("x", "b", 2))}},
		{"arbno(now(len(1),x))", "ab", true, []impl.Match{matched(0, 0), matched(0, 1, now("x", "a", 1)), matched(0, 2, now("x", "a", 1), now("x", "b", 2))}},
		{"cat(arbno(cond(alt(len(2),len(1)),x)),rpos(0))", "abc", true, []impl.Match{matched(0, 3, cond("x", "ab", 2), cond("x", "c", 3)), matched(0, 3, cond("x", "a", 1), cond("x", "bc", 3)), matched(0, 3, cond("x", "a", 1), cond("x", "b", 2), cond("x", "c", 3))}},
		{`arbno(now("",x))`, "a", true, []impl.Match{matched(0, 0)}},
		{`cat(arbno(now("",x)),cursor(y))`, "a", false, []impl.Match{matched(0, 0, cursor("y", 0)), matched(1, 1, cursor("y", 0), now("x", "", 0), cursor("y", 1))}},
		{`cat(arbno(cond("",x)),len(1))`, "a", true, []impl.Match{matched(0, 1)}},
		{"cat(arbno(cursor(x)),len(1))", "ab", false, []impl.Match{matched(0, 1), matched(1, 2, cursor("x", 0))}},
		{"cat(succeed,cat(cursor(x),fence))", "a", false, []impl.Match{matched(0, 0, cursor("x", 0))}},
		{"cat(defer(v),cond(defer(v),u))", "ab", true, []impl.Match{matched(0, 2, cond("v", "a", 1), cond("v", "b", 2), cond("u", "b", 2))}},
		{"cat(defer(w),rpos(0))", "aa", true, []impl.Match{matched(0, 2, now("w", "a", 1), now("w", "a", 2), now("w", "aa", 2))}},
	} {
		p := readPattern(t, c.pattern)
		checkMatches(t, c.pattern, env, p, c.subject, c.anchored, 1000, c.want, impl.OK)
		checkAgainstModel(t, env, p, c.subject, 1000)
	}
}

// TestRecursion has references to themselves, to each other and to names that are not in the environment.
func TestRecursion(t *testing.T) {
	env := []impl.Named{
		{Name: "loop", Pattern: readPattern(t, "defer(loop)")},
		{Name: "ping", Pattern: readPattern(t, "defer(pong)")},
		{Name: "pong", Pattern: readPattern(t, `cat("",defer(ping))`)},
		{Name: "left", Pattern: readPattern(t, `alt(cat(defer(left),"a"),"a")`)},
		{Name: "right", Pattern: readPattern(t, `alt(cat("a",defer(right)),"a")`)},
		{Name: "lazy", Pattern: readPattern(t, `alt("",cat("a",defer(lazy)))`)},
		{Name: "deep", Pattern: readPattern(t, `alt(cat("a",cond(defer(deep),d)),"")`)},
		{Name: "many", Pattern: readPattern(t, "cat(cursor(c),defer(many))")},
		{Name: "held", Pattern: readPattern(t, `cat(cond("",c),defer(held))`)},
		{Name: "gone", Pattern: readPattern(t, "defer(none)")},
		{Name: "self", Pattern: readPattern(t, `alt("a",cat(pos(1),defer(self)))`)},
		{Name: "once", Pattern: readPattern(t, "cat(fence,defer(once))")},
	}
	for _, c := range []struct {
		pattern, subject string
		want             []impl.Match
		code             int64
	}{
		{"defer(loop)", "ab", nil, impl.ErrSteps},
		{"defer(ping)", "ab", nil, impl.ErrSteps},
		{"defer(left)", "aaa", nil, impl.ErrSteps},
		{"defer(right)", "aaa", spans("0-3 0-2 0-1"), impl.OK},
		{"defer(lazy)", "aaa", spans("0-0 0-1 0-2 0-3"), impl.OK},
		{"cat(defer(deep),rpos(0))", "aa", []impl.Match{matched(0, 2, cond("d", "", 2), cond("d", "a", 2))}, impl.OK},
		{"defer(many)", "ab", nil, impl.ErrFull},
		{"defer(held)", "ab", nil, impl.ErrFull},
		{"defer(gone)", "ab", nil, impl.ErrUndefined},
		{"defer(none)", "ab", nil, impl.ErrUndefined},
		{"defer(self)", "aa", spans("0-1"), impl.OK},
		{"defer(self)", "ba", nil, impl.OK},
		{"cat(len(1),defer(self))", "bb", nil, impl.ErrSteps},
		{"defer(once)", "ab", nil, impl.ErrSteps},
		{"alt(defer(none),rem)", "ab", nil, impl.ErrUndefined},
		{"alt(rem,defer(none))", "ab", nil, impl.ErrUndefined},
		{`cat("b",defer(none))`, "ab", nil, impl.OK},
		{`cat("a",defer(none))`, "ab", nil, impl.ErrUndefined},
		{"arbno(defer(none))", "ab", nil, impl.ErrUndefined},
		{"alt(abort,defer(loop))", "ab", nil, impl.OK},
		{"alt(fence,defer(loop))", "ab", spans("0-0"), impl.OK},
	} {
		p := readPattern(t, c.pattern)
		checkMatches(t, c.pattern, env, p, c.subject, true, 20000, c.want, c.code)
		want := modelMatches(env, p, c.subject, 0, 0, 20000)
		checkMatches(t, c.pattern+" in the model", env, p, c.subject, true, 20000, want.matches, want.code)
		checkAgainstModel(t, env, p, c.subject, 300)
	}
	checkMatches(t, "no environment", nil, readPattern(t, "defer(x)"), "", true, 100, nil, impl.ErrUndefined)
}

// TestMatchErrors has the errors of MatchesOf and EndsAt in their order.
func TestMatchErrors(t *testing.T) {
	rem, gone, long := bare(impl.PtRem), texted(impl.PtDefer, "q"), strings.Repeat("a", 201)
	badEnvs := [][]impl.Named{{{}}, {{Name: "x"}}, {{Name: "1", Pattern: rem}}, envOf(rem, "x", "x"), envOf(rem, numberedNames(41)...), {{Name: "x", Pattern: stacked(60, rem)}}, {{Name: "x", Pattern: endlessPattern(1)}}}
	badPatterns := []impl.Pattern{{}, bare(25), numbered(impl.PtLen, -1), numbered(impl.PtTab, 201), texted(impl.PtAny, ""), texted(impl.PtDefer, ""), tree(impl.PtAlt, rem), stacked(60, rem), endlessPattern(3), sharedPattern(100), stacked(1000000, rem), texted(impl.PtString, long)}
	badNumbers := []int64{math.MinInt64, -1 << 32, -1, 20001, 1<<32 + 5, math.MaxInt64}
	badStarts := []int64{math.MinInt64, -1 << 32, -1, 3, 201, 1 << 32, math.MaxInt64}
	check := func(what string, env []impl.Named, p impl.Pattern, subject string, start, fuel, code int64) {
		t.Helper()
		for _, anchored := range []bool{true, false} {
			checkMatches(t, what, env, p, subject, anchored, fuel, nil, code)
		}
		checkEnds(t, what, env, p, subject, start, fuel, nil, code)
		checkEqual(t, what+": full", impl.IsFullMatch(env, p, subject, fuel), false)
	}
	for _, fuel := range append(badNumbers, 0, 1, 20000) {
		for _, start := range append(badStarts, 0) {
			for _, env := range badEnvs {
				check("invalid environment", env, rem, "ab", start, fuel, impl.ErrInvalid)
				check("invalid environment, undefined name", env, gone, long, start, fuel, impl.ErrInvalid)
			}
			for _, p := range badPatterns {
				check("invalid pattern", nil, p, "ab", start, fuel, impl.ErrInvalid)
				check("invalid pattern with an environment", envOf(rem, "x"), p, "ab", start, fuel, impl.ErrInvalid)
			}
			check("long subject", nil, rem, long, start, fuel, impl.ErrInvalid)
			check("very long subject", nil, gone, strings.Repeat("a", 1000000), start, fuel, impl.ErrInvalid)
		}
	}
	for _, fuel := range badNumbers {
		for _, p := range []impl.Pattern{rem, gone, bare(impl.PtSucceed), bare(impl.PtFail)} {
			check("fuel", nil, p, "ab", 0, fuel, impl.ErrRange)
			check("fuel and start", nil, p, "ab", -1, fuel, impl.ErrRange)
		}
	}
	for _, start := range badStarts {
		for _, fuel := range []int64{0, 1, 20000} {
			for _, p := range []impl.Pattern{rem, gone, bare(impl.PtSucceed), bare(impl.PtFail)} {
				checkEnds(t, "start", nil, p, "ab", start, fuel, nil, impl.ErrRange)
			}
		}
	}
	checkEnds(t, "start behind an empty subject", nil, rem, "", 1, 100, nil, impl.ErrRange)
	checkEnds(t, "start at the end of an empty subject", nil, rem, "", 0, 100, []int64{0}, impl.OK)
	checkEnds(t, "start at the end", nil, rem, "ab", 2, 100, []int64{2}, impl.OK)
	checkEnds(t, "start behind the longest subject", nil, rem, long[:200], 201, 100, nil, impl.ErrRange)
	checkEnds(t, "start at the end of the longest subject", nil, rem, long[:200], 200, 100, []int64{200}, impl.OK)
}

// TestFirstErrorCounts has patterns with several errors, of which the first one during matching is returned.
func TestFirstErrorCounts(t *testing.T) {
	sixty, sixtyOne := strings.Repeat("a", 59), strings.Repeat("a", 60)
	captures := "cat(arbno(now(len(1),x)),fail)"
	for _, c := range []struct {
		what, pattern, subject string
		fuel, matches, code    int64
	}{
		{"no fuel", "rem", "", 0, 0, impl.ErrSteps},
		{"fuel without the end", "rem", "", 1, 0, impl.ErrSteps},
		{"fuel with the end", "rem", "", 2, 1, impl.OK},
		{"no fuel for the name", "defer(q)", "", 0, 0, impl.ErrSteps},
		{"fuel for the name", "defer(q)", "", 1, 0, impl.ErrUndefined},
		{"no fuel for the second name", "alt(fail,defer(q))", "", 2, 0, impl.ErrSteps},
		{"fuel for the second name", "alt(fail,defer(q))", "", 3, 0, impl.ErrUndefined},
		{"a match before the steps end", "alt(rem,rem)", "", 3, 0, impl.ErrSteps},
		{"a match before the name", "alt(rem,defer(q))", "", 100, 0, impl.ErrUndefined},
		{"no fuel for the cursor", "cat(rem,cursor(x))", "", 2, 0, impl.ErrSteps},
		{"as many matches as there can be", "arb", sixty, 61, 60, impl.OK},
		{"one more, without the step", "arb", sixtyOne, 61, 0, impl.ErrSteps},
		{"one more", "arb", sixtyOne, 62, 60, impl.ErrFull},
		{"as many matches as there can be, then a name", "alt(arb,defer(q))", sixty, 1000, 0, impl.ErrUndefined},
		{"as many matches as there can be, then no steps", "alt(arb,succeed)", sixty, 62, 0, impl.ErrSteps},
		{"as many matches as there can be, then an abort", "alt(arb,abort)", sixty, 1000, 60, impl.OK},
		{"more matches, then a name", "alt(arb,defer(q))", sixtyOne, 1000, 60, impl.ErrFull},
		{"more matches without end, but no steps", "succeed", "", 121, 0, impl.ErrSteps},
		{"more matches without end", "succeed", "", 122, 60, impl.ErrFull},
		{"more matches, then captures", "alt(arb," + captures + ")", strings.Repeat("a", 101), 20000, 60, impl.ErrFull},
		{"as many captures as there can be", captures, strings.Repeat("a", 100), 20000, 0, impl.OK},
		{"one more", captures, strings.Repeat("a", 101), 20000, 0, impl.ErrFull},
		{"one more after a match", "alt(rem," + captures + ")", strings.Repeat("a", 101), 20000, 0, impl.ErrFull},
		{"as many captures as there can be, then a name", "cat(arbno(now(len(1),x)),cat(rpos(0),defer(q)))", strings.Repeat("a", 100), 20000, 0, impl.ErrUndefined},
		{"more captures, then a name", "cat(arbno(now(len(1),x)),cat(rpos(0),defer(q)))", strings.Repeat("a", 101), 20000, 0, impl.ErrFull},
		{"the step of the last capture", "cat(" + strings.Repeat("cat(cursor(x),", 9) + "rem" + strings.Repeat(")", 9) + ",cursor(x))", "", 20, 0, impl.ErrSteps},
		{"and of the end", "cat(" + strings.Repeat("cat(cursor(x),", 9) + "rem" + strings.Repeat(")", 9) + ",cursor(x))", "", 21, 0, impl.ErrSteps},
		{"no error before them", "cat(" + strings.Repeat("cat(cursor(x),", 9) + "rem" + strings.Repeat(")", 9) + ",cursor(x))", "", 22, 1, impl.OK},
	} {
		p := readPattern(t, c.pattern)
		want := modelMatches(nil, p, c.subject, 0, 0, c.fuel)
		if int64(len(want.matches)) != c.matches || want.code != c.code {
			t.Errorf("%s: the model has %d matches and the code %d", c.what, len(want.matches), want.code)
		}
		checkMatches(t, c.what, nil, p, c.subject, true, c.fuel, want.matches, c.code)
		checkEnds(t, c.what, nil, p, c.subject, 0, c.fuel, endsOf(want.matches, want.code), c.code)
	}
}

// TestMatchLimits has the limits reached exactly, and exceeded by one.
func TestMatchLimits(t *testing.T) {
	rem, full := bare(impl.PtRem), strings.Repeat("a", 200)
	checkMatches(t, "MaxString", nil, rem, full, true, 2, spans("0-200"), impl.OK)
	checkMatches(t, "MaxNamed", envOf(rem, numberedNames(40)...), texted(impl.PtDefer, "n39"), "ab", true, 3, spans("0-2"), impl.OK)
	checkMatches(t, "MaxNodes", nil, stacked(59, texted(impl.PtString, "b")), "a", true, 1000, spans("0-0"), impl.OK)
	checkMatches(t, "a string of MaxString bytes", nil, texted(impl.PtString, full), full, false, 1000, spans("0-200"), impl.OK)
	checkMatches(t, "a set of MaxString bytes", nil, texted(impl.PtSpan, full), full, true, 1000, spans("0-200"), impl.OK)
	for _, kind := range []int64{impl.PtLen, impl.PtTab} {
		checkMatches(t, "a number of MaxString", nil, numbered(kind, 200), full, true, 1000, spans("0-200"), impl.OK)
	}
	checkMatches(t, "pos(200)", nil, numbered(impl.PtPos, 200), full, false, 1000, spans("200-200"), impl.OK)
	checkMatches(t, "rpos(200)", nil, numbered(impl.PtRPos, 200), full, false, 1000, spans("0-0"), impl.OK)
	checkMatches(t, "rtab(200)", nil, numbered(impl.PtRTab, 200), full, false, 1000, spans("0-0"), impl.OK)

	checkMatches(t, "MaxMatches, one at each start cursor", nil, rem, full[:59], false, 20000, rests(60, 59), impl.OK)
	checkMatches(t, "one more", nil, rem, full[:60], false, 20000, rests(60, 60), impl.ErrFull)
	checkMatches(t, "many more", nil, rem, full, false, 20000, rests(60, 200), impl.ErrFull)
	checkMatches(t, "the last ones alone", nil, readPattern(t, "cat(tab(200),rem)"), full, true, 20000, spans("0-200"), impl.OK)
	ends := make([]int64, 60)
	for i := range ends {
		ends[i] = int64(i + 141)
	}
	checkEnds(t, "MaxMatches end cursors", nil, bare(impl.PtArb), full, 141, 20000, ends, impl.OK)
	checkEnds(t, "one more", nil, bare(impl.PtArb), full, 140, 20000, nil, impl.ErrFull)
}

// rests returns the matches from each of the first count cursors to the end.
func rests(count, end int64) []impl.Match {
	var list []impl.Match
	for start := range count {
		list = append(list, matched(start, end))
	}
	return list
}

// TestStepLimit has patterns that need MaxMatchSteps steps, and one more.
func TestStepLimit(t *testing.T) {
	subject := strings.Repeat("a", 196)
	for _, c := range []struct {
		last  int64
		steps int64
		code  int64
	}{{102, 19999, impl.OK}, {101, 20000, impl.OK}, {100, 20000, impl.ErrSteps}} {
		p := readPattern(t, fmt.Sprintf("alt(cat(arb,cat(arb,fail)),cat(len(%d),cat(arb,fail)))", c.last))
		want := modelMatches(nil, p, subject, 0, 0, 20000)
		checkEqual(t, "steps", want.steps, c.steps)
		checkEqual(t, "code", want.code, c.code)
		checkMatches(t, "MaxMatchSteps", nil, p, subject, true, 20000, nil, c.code)
		checkMatches(t, "one less than the steps", nil, p, subject, true, c.steps-1, nil, impl.ErrSteps)
		checkEnds(t, "MaxMatchSteps", nil, p, subject, 0, 20000, nil, c.code)
		if c.code == impl.OK {
			checkMatches(t, "as many as the steps", nil, p, subject, true, c.steps, nil, impl.OK)
		}
	}
	checkMatches(t, "one more than MaxMatchSteps", nil, bare(impl.PtFail), "", true, 20001, nil, impl.ErrRange)
}

// TestCaptureLimit has MaxCaptures captures of each kind and of several kinds, and more.
func TestCaptureLimit(t *testing.T) {
	for _, text := range []string{
		"cat(arbno(now(len(1),x)),rpos(0))",
		"cat(arbno(cond(len(1),x)),rpos(0))",
		"cat(arbno(cat(len(1),cursor(x))),rpos(0))",
		"cat(arbno(cond(now(len(2),x),y)),rpos(0))",
		"cat(arbno(now(cond(len(2),x),y)),rpos(0))",
		"cat(arbno(cat(cond(len(1),x),now(len(1),y))),rpos(0))",
	} {
		p := readPattern(t, text)
		for _, n := range []int{98, 100, 102} {
			subject := strings.Repeat("a", n)
			want := modelMatches(nil, p, subject, 0, 0, 20000)
			code := map[bool]int64{true: impl.OK, false: impl.ErrFull}[n <= 100]
			checkEqual(t, text+": code", want.code, code)
			for _, m := range want.matches {
				checkEqual(t, text+": captures", len(m.Captures), n)
			}
			checkMatches(t, text, nil, p, subject, true, 20000, want.matches, code)
		}
	}
	for _, c := range []struct {
		pattern string
		length  int
		code    int64
	}{
		{"cat(cursor(x),fail)", 99, impl.OK},
		{"cat(cursor(x),fail)", 100, impl.ErrFull},
		{`cat(now("",x),fail)`, 99, impl.OK},
		{`cat(now("",x),fail)`, 100, impl.ErrFull},
		{`cat(cond("",x),fail)`, 200, impl.OK},
		{"cat(cond(arb,x),fail)", 150, impl.OK},
		{"cat(now(arb,x),fail)", 12, impl.OK},
		{"cat(now(arb,x),fail)", 13, impl.ErrFull},
		{`cat(cursor(x),cat(cond("",y),fail))`, 98, impl.OK},
		{`cat(cursor(x),cat(cond("",y),fail))`, 99, impl.ErrFull},
		{`cat(cond("",y),cat(cursor(x),fail))`, 98, impl.OK},
		{`cat(cond("",y),cat(cursor(x),fail))`, 99, impl.ErrFull},
	} {
		p := readPattern(t, c.pattern)
		checkMatches(t, "all start cursors", nil, p, strings.Repeat("a", c.length), false, 20000, nil, c.code)
	}
}

func TestLookupNamed(t *testing.T) {
	env := []impl.Named{{Name: "x", Pattern: readPattern(t, `alt("a",rem)`)}, {Name: "y", Pattern: readPattern(t, "defer(x)")}, {Name: "X", Pattern: readPattern(t, "arb")}}
	for name, want := range map[string]string{"x": `alt("a",rem)`, "y": "defer(x)", "X": "arb"} {
		p, ok := impl.LookupNamed(env, name)
		checkEqual(t, name+": ok", ok, true)
		checkPattern(t, name, p, readPattern(t, want))
	}
	fails := func(env []impl.Named, name string) {
		t.Helper()
		p, ok := impl.LookupNamed(env, name)
		checkEqual(t, name+": ok", ok, false)
		checkPattern(t, name, p, impl.Pattern{})
	}
	for _, name := range []string{"", "z", "Y", "xx", "1", "x ", "\xff", strings.Repeat("x", 1000000)} {
		fails(env, name)
		fails(nil, name)
	}
	fails(nil, "x")
	fails(append(slices.Clone(env), env[0]), "x")
	fails(append(slices.Clone(env), env[0]), "y")
	fails(append(slices.Clone(env), impl.Named{}), "x")
	fails([]impl.Named{{Name: "x"}}, "x")
	fails([]impl.Named{{Pattern: bare(impl.PtRem)}}, "")
	fails([]impl.Named{{Name: "1", Pattern: bare(impl.PtRem)}}, "1")
	names := numberedNames(41)
	fails(envOf(bare(impl.PtRem), names...), "n0")
	p, ok := impl.LookupNamed(envOf(bare(impl.PtRem), names[:40]...), "n39")
	checkEqual(t, "the last one of MaxNamed: ok", ok, true)
	checkPattern(t, "the last one of MaxNamed", p, bare(impl.PtRem))
}

func TestSameMatch(t *testing.T) {
	x := now("x", "a", 1)
	list := []impl.Match{
		{}, matched(1, 0), matched(0, 1), matched(1, 1), matched(-1, math.MaxInt64), matched(0, 0, impl.Capture{}), matched(0, 0, impl.Capture{}, impl.Capture{}),
		matched(0, 1, x), matched(0, 1, x, x), matched(0, 1, cond("x", "a", 1)), matched(0, 1, now("y", "a", 1)), matched(0, 1, now("x", "b", 1)), matched(0, 1, now("x", "a", 2)), matched(0, 1, now("", "a", 1)), matched(0, 1, impl.Capture{Name: "x", Text: "a", Cursor: 1, Kind: -9}),
		matched(0, 1, x, cursor("y", 0)), matched(0, 1, cursor("y", 0), x), matched(0, 1, slices.Repeat([]impl.Capture{x}, 1000)...), matched(0, 1, append(slices.Repeat([]impl.Capture{x}, 999), cursor("y", 0))...),
	}
	for i, a := range list {
		for j, b := range list {
			same := matched(b.Start, b.End, slices.Clone(b.Captures)...)
			checkEqual(t, fmt.Sprintf("%.100q and %.100q", fmt.Sprint(a), fmt.Sprint(b)), impl.SameMatch(a, same), i == j)
			checkEqual(t, "lists of one", impl.SameMatches([]impl.Match{a}, []impl.Match{same}), i == j)
			checkEqual(t, "lists of two", impl.SameMatches([]impl.Match{a, b}, []impl.Match{same, a}), i == j)
			checkEqual(t, "lists of three", impl.SameMatches([]impl.Match{{}, a, b}, []impl.Match{{}, a, a}), i == j)
		}
		checkEqual(t, "none and one", impl.SameMatches(nil, []impl.Match{a}), false)
		checkEqual(t, "one and none", impl.SameMatches([]impl.Match{a}, nil), false)
		checkEqual(t, "one and two", impl.SameMatches([]impl.Match{a}, []impl.Match{a, a}), false)
		checkEqual(t, "two and one", impl.SameMatches([]impl.Match{a, a}, []impl.Match{a}), false)
	}
	checkEqual(t, "nil and empty lists", impl.SameMatches(nil, []impl.Match{}), true)
	checkEqual(t, "nil and empty captures", impl.SameMatch(impl.Match{}, impl.Match{Captures: []impl.Capture{}}), true)
}

func TestMatchText(t *testing.T) {
	long := strings.Repeat("ab", 500000)
	for _, c := range []struct {
		subject    string
		start, end int64
		want       string
	}{
		{"abcd", 1, 3, "bc"}, {"abcd", 0, 4, "abcd"}, {"abcd", 0, 0, ""}, {"abcd", 4, 4, ""}, {"abcd", 3, 4, "d"}, {"", 0, 0, ""}, {"\x00\xff", 1, 2, "\xff"}, {"\u20ac", 1, 2, "\x82"},
		{"abcd", 3, 1, ""}, {"abcd", 0, 5, ""}, {"abcd", 4, 5, ""}, {"abcd", 5, 5, ""}, {"abcd", -1, 2, ""}, {"abcd", -1, -1, ""}, {"abcd", 2, -1, ""}, {"", 0, 1, ""}, {"", 1, 1, ""},
		{"abcd", math.MinInt64, math.MaxInt64, ""}, {"abcd", math.MaxInt64, math.MinInt64, ""}, {"abcd", 0, math.MaxInt64, ""}, {"abcd", math.MinInt64, 4, ""}, {"abcd", 1 << 32, 1<<32 + 1, ""}, {"abcd", 1<<32 + 1, 2, ""}, {"abcd", 1, 1<<32 + 2, ""},
		{long, 0, 3, "aba"}, {long, 999999, 1000000, "b"}, {long, 0, 1000000, long},
	} {
		for _, captures := range [][]impl.Capture{nil, {now("x", "a", 1)}, {{Kind: -1, Cursor: math.MaxInt64}}} {
			checkEqual(t, fmt.Sprintf("%.20q from %d to %d", c.subject, c.start, c.end), impl.MatchText(c.subject, matched(c.start, c.end, captures...)), c.want)
		}
	}
}

func TestIsFullMatch(t *testing.T) {
	env := []impl.Named{{Name: "par", Pattern: readPattern(t, `alt("",cat("(",cat(defer(par),cat(")",defer(par)))))`)}}
	for _, c := range []struct {
		pattern, subject string
		want             bool
	}{
		{`""`, "", true}, {`""`, "a", false}, {"rem", "", true}, {"rem", "ab", true}, {"arb", "ab", true}, {"fail", "", false}, {"abort", "", false}, {"fence", "", true}, {"fence", "a", false}, {"succeed", "", false}, {"succeed", "a", false},
		{`"ab"`, "ab", true}, {`"ab"`, "abc", false}, {`"b"`, "ab", false}, {`alt("a","ab")`, "ab", true}, {`alt("a",cat(fence,rem))`, "ab", true}, {`alt(cat(fence,"a"),rem)`, "ab", false}, {`alt(rem,abort)`, "ab", true},
		{"defer(par)", "(()())()", true}, {"defer(par)", "(()()", false}, {"defer(par)", "())", false}, {"defer(none)", "", false}, {"alt(rem,defer(none))", "a", false}, {"cat(fail,defer(none))", "", false},
		{"arb", strings.Repeat("a", 59), true}, {"arb", strings.Repeat("a", 60), false}, {"rem", strings.Repeat("a", 200), true}, {"rem", strings.Repeat("a", 201), false},
	} {
		checkEqual(t, c.pattern+" in "+c.subject, impl.IsFullMatch(env, readPattern(t, c.pattern), c.subject, 20000), c.want)
	}
	checkEqual(t, "enough fuel", impl.IsFullMatch(nil, bare(impl.PtRem), "ab", 2), true)
	checkEqual(t, "too little fuel", impl.IsFullMatch(nil, bare(impl.PtRem), "ab", 1), false)
	checkEqual(t, "no fuel", impl.IsFullMatch(nil, bare(impl.PtRem), "ab", 0), false)
	checkEqual(t, "the end is found before the steps end", impl.IsFullMatch(nil, readPattern(t, "alt(rem,rem)"), "ab", 4), false)
	for _, fuel := range []int64{math.MinInt64, -1, 20001, math.MaxInt64} {
		checkEqual(t, "fuel out of range", impl.IsFullMatch(nil, bare(impl.PtRem), "ab", fuel), false)
	}
	source := narrowPatterns(73)
	counts := map[bool]int{}
	for i := range 4000 {
		env, p, subject := source.env(4), source.pattern(1+i%9), source.subject(4)
		ends := modelMatches(env, p, subject, 0, 0, 400)
		want := slices.Contains(endsOf(ends.matches, ends.code), int64(len(subject)))
		counts[want]++
		checkEqual(t, impl.PatternText(p)+" in "+subject, impl.IsFullMatch(env, p, subject, 400), want)
	}
	if counts[true] < 500 || counts[false] < 500 {
		t.Error("few full matches, or few others:", counts)
	}
}
