package tests

import (
	"fmt"
	"slices"
	"sync"
	"testing"

	"loop.example/g00873/impl"
)

// watcher remembers lists with the unused elements behind them, to tell whether they were modified.
type watcher struct {
	unchanged []func() bool
}

func watch[T any](w *watcher, list []T, same func(a, b T) bool) {
	list = list[:cap(list)]
	before := slices.Clone(list)
	w.unchanged = append(w.unchanged, func() bool { return slices.EqualFunc(list, before, same) })
}

func sameElement[T comparable](a, b T) bool {
	return a == b
}

func (w *watcher) watchHeap(h impl.Heap) {
	watch(w, h.Objects, sameLists)
	for _, o := range h.Objects {
		watch(w, o.Keys, sameElement)
		watch(w, o.Vals, sameElement)
	}
}

func (w *watcher) watchPattern(p impl.Pattern) {
	watch(w, p.Kids, samePatternMemory)
	for _, kid := range p.Kids {
		w.watchPattern(kid)
	}
}

func (w *watcher) isUnchanged() bool {
	for _, is := range w.unchanged {
		if !is() {
			return false
		}
	}
	return true
}

// overwriteAll overwrites a list and the unused elements behind it.
func overwriteAll[T any](list []T, x T) {
	overwrite(list[:cap(list)], x)
}

// purity checks promise 1 for functions that have cases of arguments and results of one type.
type purity[C, R any] struct {
	functions map[string]func(c C) R
	cases     []C
	equal     func(a, b R) bool
	// copied returns an equal case in other memory, roomy one with unused
	// elements behind each list, and turned one with nil for each empty list
	// and an empty list for each nil.
	copied, roomy, turned func(c C) C
	watch                 func(w *watcher, c C)
	// addCase adds the memory of all lists; so does addResult, which reports whether none of it was there before.
	addCase   func(m patternMemory, c C)
	addResult func(m patternMemory, r R) bool
	overwrite func(r R)
}

func (p purity[C, R]) each(visit func(what string, call func(c C) R, c C)) {
	for name, call := range p.functions {
		for i, c := range p.cases {
			visit(fmt.Sprintf("%s, case %d", name, i), call, c)
		}
	}
}

// checkArguments checks that arguments are not modified, and that the result only depends on what they are equal to.
func (p purity[C, R]) checkArguments(t *testing.T) {
	p.each(func(what string, call func(c C) R, c C) {
		roomy := p.roomy(c)
		var w watcher
		p.watch(&w, roomy)
		first := call(roomy)
		for _, equal := range []C{roomy, c, p.copied(c), p.turned(p.copied(c))} {
			if !p.equal(call(equal), first) {
				t.Errorf("%s: another result for %.500q", what, fmt.Sprint(c))
			}
		}
		if !w.isUnchanged() {
			t.Errorf("%s: modified %.500q", what, fmt.Sprint(c))
		}
	})
}

// checkNewMemory checks that all lists of results share no memory with each other or with arguments.
func (p purity[C, R]) checkNewMemory(t *testing.T, least map[string]int) {
	elements := map[string]int{}
	for name, call := range p.functions {
		for i, c := range p.cases {
			if i%2 == 1 {
				c = p.roomy(c)
			}
			memory := patternMemory{}
			p.addCase(memory, c)
			before := len(memory)
			if !p.addResult(memory, call(c)) || !p.addResult(memory, call(c)) {
				t.Errorf("%s, case %d: results share memory: %.500q", name, i, fmt.Sprint(c))
			}
			elements[name] += len(memory) - before
		}
		if elements[name] < least[name] {
			t.Errorf("%s: only %d elements were returned", name, elements[name])
		}
	}
}

// checkCopies changes what was returned, and calls the functions again.
func (p purity[C, R]) checkCopies(t *testing.T) {
	p.each(func(what string, call func(c C) R, c C) {
		want := call(p.copied(c))
		p.overwrite(call(c))
		if !p.equal(call(c), want) {
			t.Errorf("%s: another result for %.500q", what, fmt.Sprint(c))
		}
	})
}

// checkOtherCalls runs the calls in several goroutines at the same time, with the same arguments.
func (p purity[C, R]) checkOtherCalls(t *testing.T) {
	for name, call := range p.functions {
		var want []R
		for _, c := range p.cases {
			want = append(want, call(c))
		}
		var group sync.WaitGroup
		for range 4 {
			group.Go(func() {
				for i := range slices.Backward(p.cases) {
					if !p.equal(call(p.cases[i]), want[i]) {
						t.Errorf("%s: another result for case %d", name, i)
					}
				}
			})
		}
		group.Wait()
	}
}

// checkAll makes all these checks at the same time.
func (p purity[C, R]) checkAll(t *testing.T, least map[string]int) {
	for what, check := range map[string]func(t *testing.T){
		"arguments":  p.checkArguments,
		"new memory": func(t *testing.T) { p.checkNewMemory(t, least) },
		"copies":     p.checkCopies,
		"others":     p.checkOtherCalls,
	} {
		t.Run(what, func(t *testing.T) {
			t.Parallel()
			check(t)
		})
	}
}
