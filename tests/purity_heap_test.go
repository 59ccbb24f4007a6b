package tests

import (
	"fmt"
	"maps"
	"math"
	"slices"
	"strings"
	"sync"
	"testing"

	"loop.example/g00873/impl"
)

// The tests of this file are promise 1 for the functions of chapters 7 to 9.

// heapCase has arguments of the functions of heaps.
type heapCase struct {
	h     impl.Heap
	o     impl.Object
	roots []impl.Value
}

// heapResult is all that a function returns.
type heapResult struct {
	heap   impl.Heap
	object impl.Object
	values []impl.Value
	ids    []int64
	// rest has the results that are no lists.
	rest string
}

// heapFunctions are all functions of chapters 7 to 9, with numbers for the arguments that a case does not have.
func heapFunctions() map[string]func(c heapCase, n int64) heapResult {
	functions := aggregateFunctions()
	maps.Copy(functions, objectFunctions())
	return functions
}

// objectFunctions are all functions of chapters 7 and 8.
func objectFunctions() map[string]func(c heapCase, n int64) heapResult {
	return map[string]func(c heapCase, n int64) heapResult{
		"ValidObject": func(c heapCase, n int64) heapResult {
			c.o.Id += n
			return heapResult{rest: fmt.Sprint(impl.ValidObject(c.o))}
		},
		"ValidHeap": func(c heapCase, n int64) heapResult {
			c.h.Next += n
			return heapResult{rest: fmt.Sprint(impl.ValidHeap(c.h))}
		},
		"SameHeap": func(c heapCase, n int64) heapResult {
			other := c.h
			other.Next += n
			return heapResult{rest: fmt.Sprint(impl.SameHeap(c.h, other), impl.SameHeap(copyHeap(other), c.h), impl.SameHeap(c.h, exampleHeap()))}
		},
		"FitsHeap": func(c heapCase, n int64) heapResult {
			fits := []bool{impl.FitsHeap(c.h, arrayRef(n)), impl.FitsHeap(c.h, tableRef(n)), impl.FitsHeap(c.h, recordRef(n)), impl.FitsHeap(c.h, integerOf(n))}
			return heapResult{rest: fmt.Sprint(fits)}
		},
		"NewObject": func(c heapCase, n int64) heapResult {
			c.h.Next += n
			heap, id, code := impl.NewObject(c.h, c.o)
			return heapResult{heap: heap, rest: fmt.Sprint(id, code)}
		},
		"ObjectAt": func(c heapCase, n int64) heapResult {
			object, found := impl.ObjectAt(c.h, n)
			return heapResult{object: object, rest: fmt.Sprint(found)}
		},
		"SetObject": func(c heapCase, n int64) heapResult {
			c.o.Id = n
			heap, code := impl.SetObject(c.h, c.o)
			return heapResult{heap: heap, rest: fmt.Sprint(code)}
		},
		"RefsOf": func(c heapCase, n int64) heapResult {
			c.o.Id += n
			return heapResult{ids: impl.RefsOf(c.o)}
		},
		"HeapSize": func(c heapCase, n int64) heapResult {
			c.h.Next += n
			return heapResult{rest: fmt.Sprint(impl.HeapSize(c.h))}
		},
		"ValidRoots": func(c heapCase, n int64) heapResult {
			c.h.Next += n
			return heapResult{rest: fmt.Sprint(impl.ValidRoots(c.h, c.roots))}
		},
		"Reachable": func(c heapCase, n int64) heapResult {
			c.h.Next += n
			return heapResult{ids: impl.Reachable(c.h, c.roots)}
		},
		"Garbage": func(c heapCase, n int64) heapResult {
			c.h.Next += n
			return heapResult{ids: impl.Garbage(c.h, c.roots)}
		},
		"Collect": func(c heapCase, n int64) heapResult {
			c.h.Next += n
			heap, values, code := impl.Collect(c.h, c.roots)
			return heapResult{heap: heap, values: values, rest: fmt.Sprint(code)}
		},
		"NewIdOf": func(c heapCase, n int64) heapResult {
			return heapResult{rest: fmt.Sprint(impl.NewIdOf(c.h, c.roots, n))}
		},
		"SameShape": func(c heapCase, n int64) heapResult {
			other := c.h
			other.Next += n
			return heapResult{rest: fmt.Sprint(impl.SameShape(c.h, c.roots, other, c.roots), impl.SameShape(other, nil, c.h, c.roots))}
		},
		"LiveSize": func(c heapCase, n int64) heapResult {
			c.h.Next += n
			return heapResult{rest: fmt.Sprint(impl.LiveSize(c.h, c.roots))}
		},
		"CollectIfNeeded": func(c heapCase, n int64) heapResult {
			heap, values, needed := impl.CollectIfNeeded(c.h, c.roots, n)
			return heapResult{heap: heap, values: values, rest: fmt.Sprint(needed)}
		},
	}
}

func equalResults(a, b heapResult) bool {
	return equalHeaps(a.heap, b.heap) && equalObjects(a.object, b.object) && slices.Equal(a.values, b.values) && slices.Equal(a.ids, b.ids) && a.rest == b.rest
}

func copyCase(c heapCase) heapCase {
	return heapCase{copyHeap(c.h), copyObject(c.o), slices.Clone(c.roots)}
}

// heapCases returns arguments, valid and invalid ones, and some that share memory with each other.
func heapCases() []heapCase {
	null := stringOf("")
	shared := []impl.Value{arrayRef(1), arrayRef(2), arrayRef(1)}
	both := heapWith(3, impl.Object{Id: 1, Kind: impl.ObArray, Vals: shared}, impl.Object{Id: 2, Kind: impl.ObArray, Vals: shared}, impl.Object{Id: 3, Kind: impl.ObTable, Keys: shared[:2], Vals: shared[1:], Default: null})
	list := []heapCase{
		{},
		{h: impl.Heap{Objects: []impl.Object{}}, o: impl.Object{Id: 1, Kind: impl.ObArray, Keys: []impl.Value{}, Vals: []impl.Value{}}, roots: []impl.Value{}},
		{both, both.Objects[0], shared},
		{both, both.Objects[2], shared[:1]},
		{both, recordWith(1, "R", shared[:2]...), shared[2:]},
		{fullHeap(), fullHeap().Objects[0], []impl.Value{arrayRef(999961)}},
		{chain(39), arrayWith(39, shared...), []impl.Value{arrayRef(20), null}},
	}
	objects := slices.Concat(validObjects(), invalidContents())
	for i, heap := range slices.Concat(validHeaps(), invalidHeaps()) {
		list = append(list, heapCase{heap.h, objects[i%len(objects)].o, shared[:i%4]})
	}
	h := exampleHeap()
	for _, o := range slices.Concat(h.Objects, holdersOf(null), holdersOf(recordRef(4)), holdersOf(arrayRef(3)), holdersOf(impl.Value{})) {
		list = append(list, heapCase{h, o, slices.Concat(o.Vals, o.Keys)})
	}
	return list
}

// caseNumbers are numbers of objects, limits, and steps by which a number changes.
func caseNumbers() []int64 {
	return []int64{0, 1, 2, 3, 4, 5, -1, 40, 999961, 1000000, 1000001, math.MinInt64, math.MaxInt64}
}

// withRoom returns an equal case, each of whose lists has unused elements behind it, and these lists with them.
func withRoom(c heapCase) (heapCase, [][]impl.Value, []impl.Object) {
	unused := impl.Value{Kind: 77, Text: "unused"}
	var memory [][]impl.Value
	room := func(list []impl.Value) []impl.Value {
		used, all := backing(list, unused)
		memory = append(memory, all)
		return used
	}
	objects, memoryOfObjects := backing(c.h.Objects, recordWith(77, "unused", unused))
	for i, o := range objects {
		objects[i].Keys, objects[i].Vals = room(o.Keys), room(o.Vals)
	}
	c.h.Objects = objects
	c.o.Keys, c.o.Vals = room(c.o.Keys), room(c.o.Vals)
	c.roots = room(c.roots)
	return c, memory, memoryOfObjects
}

// sameLists reports whether two objects are equal and have the same lists, not only equal ones.
func sameLists(a, b impl.Object) bool {
	return equalObjects(a, b) && isSameList(a.Keys, b.Keys) && isSameList(a.Vals, b.Vals)
}

func isSameList(a, b []impl.Value) bool {
	return len(a) == len(b) && cap(a) == cap(b) && (cap(a) == 0 || &a[:1][0] == &b[:1][0])
}

func TestHeapFunctionsArePure(t *testing.T) {
	cases := heapCases()
	for what, call := range heapFunctions() {
		for _, c := range cases {
			roomy, values, objects := withRoom(c)
			wantValues := make([][]impl.Value, len(values))
			for i, list := range values {
				wantValues[i] = slices.Clone(list)
			}
			wantObjects := slices.Clone(objects)
			for _, n := range caseNumbers() {
				first := call(roomy, n)
				if !equalResults(call(copyCase(c), n), first) {
					t.Errorf("%s: another result for the number %d", what, n)
				}
				if !slices.EqualFunc(values, wantValues, slices.Equal) || !slices.EqualFunc(objects, wantObjects, sameLists) {
					t.Fatalf("%s modified its arguments for the number %d: %.500q", what, n, fmt.Sprint(c))
				}
			}
		}
	}
}

// TestHeapFunctionsWithVeryLargeArguments checks that no function takes longer than its arguments are long.
func TestHeapFunctionsWithVeryLargeArguments(t *testing.T) {
	keys, text := integersTo(500000), stringOf(strings.Repeat("x", 1000000))
	objects := []impl.Object{
		arrayWith(1, keys...),
		{Id: 1, Kind: impl.ObTable, Keys: keys, Vals: keys, Default: text},
		{Id: 1, Kind: impl.ObRecord, Name: text.Text, Keys: slices.Repeat([]impl.Value{text}, 500000), Vals: keys},
		tableWith(1, text, text, text),
		recordWith(1, text.Text, text),
	}
	cases := []heapCase{{h: heapWith(1000000, arraysTo(500000)...)}, {h: heapWith(40, make([]impl.Object, 500000)...)}, {h: exampleHeap(), roots: slices.Repeat([]impl.Value{text}, 500000)}}
	for _, o := range objects {
		cases = append(cases, heapCase{heapWith(1, o), o, keys})
	}
	for what, call := range heapFunctions() {
		for _, c := range cases {
			if !equalResults(call(c, 1), call(c, 1)) {
				t.Errorf("%s: another result", what)
			}
		}
	}
	for _, c := range cases {
		checkInvalidRoots(t, "very large arguments", c.h, c.roots)
		checkEqual(t, "a very large object", impl.ValidObject(c.o), false)
	}
}

// emptied returns an equal case with nil for each empty list, and an empty list for each nil.
func emptied(c heapCase) heapCase {
	other := func(list []impl.Value) []impl.Value {
		switch {
		case len(list) > 0:
			return list
		case list == nil:
			return []impl.Value{}
		}
		return nil
	}
	c = copyCase(c)
	for i, o := range c.h.Objects {
		c.h.Objects[i].Keys, c.h.Objects[i].Vals = other(o.Keys), other(o.Vals)
	}
	if len(c.h.Objects) == 0 {
		c.h.Objects = map[bool][]impl.Object{true: {}, false: nil}[c.h.Objects == nil]
	}
	c.o.Keys, c.o.Vals, c.roots = other(c.o.Keys), other(c.o.Vals), other(c.roots)
	return c
}

func TestNilAndEmptyListsAreEquivalent(t *testing.T) {
	cases := heapCases()
	for what, call := range heapFunctions() {
		for _, c := range cases {
			for _, n := range caseNumbers() {
				if !equalResults(call(c, n), call(emptied(c), n)) {
					t.Errorf("%s: another result for the number %d: %.500q", what, n, fmt.Sprint(c))
				}
			}
		}
	}
}

// memoryUse has the elements of lists, also those behind their ends.
type memoryUse struct {
	values  map[*impl.Value]bool
	objects map[*impl.Object]bool
}

// add adds the memory of a list, and reports whether none of it was there before.
func (m memoryUse) add(list []impl.Value) bool {
	isNew := true
	list = list[:cap(list)]
	for i := range list {
		isNew = isNew && !m.values[&list[i]]
		m.values[&list[i]] = true
	}
	return isNew
}

func (m memoryUse) addObject(o impl.Object) bool {
	keys := m.add(o.Keys)
	return m.add(o.Vals) && keys
}

func (m memoryUse) addHeap(h impl.Heap) bool {
	isNew := true
	list := h.Objects[:cap(h.Objects)]
	for i := range list {
		isNew = isNew && !m.objects[&list[i]]
		m.objects[&list[i]] = true
	}
	for _, o := range h.Objects {
		isNew = m.addObject(o) && isNew
	}
	return isNew
}

func (m memoryUse) addResult(r heapResult) bool {
	heap, object := m.addHeap(r.heap), m.addObject(r.object)
	return m.add(r.values) && heap && object
}

func TestResultsOfHeapFunctionsAreNew(t *testing.T) {
	lists := 0
	cases := heapCases()
	for what, call := range heapFunctions() {
		for i, c := range cases {
			for _, c := range []heapCase{c, first(withRoom(c))} {
				use := memoryUse{map[*impl.Value]bool{}, map[*impl.Object]bool{}}
				use.addHeap(c.h)
				use.addObject(c.o)
				use.add(c.roots)
				before := len(use.values)
				for _, n := range caseNumbers() {
					if !use.addResult(call(c, n)) || !use.addResult(call(c, n)) {
						t.Errorf("%s: the results for the number %d share memory: %.500q", what, n, fmt.Sprint(i, c))
					}
				}
				lists += len(use.values) - before
			}
		}
	}
	if lists < 100000 {
		t.Errorf("only %d values were returned", lists)
	}
}

func first(c heapCase, _ [][]impl.Value, _ []impl.Object) heapCase {
	return c
}

func TestListsOfIdsAreNew(t *testing.T) {
	for _, c := range heapCases() {
		checkNew(t, "RefsOf", func() []int64 { return impl.RefsOf(c.o) }, 77)
		checkNew(t, "Reachable", func() []int64 { return impl.Reachable(c.h, c.roots) }, 77)
		checkNew(t, "Garbage", func() []int64 { return impl.Garbage(c.h, c.roots) }, 77)
	}
}

// TestChangedResultsChangeNothing overwrites all that was returned, and calls the functions again.
func TestChangedResultsChangeNothing(t *testing.T) {
	changed := impl.Value{Kind: 77, Text: "changed"}
	overwrite := func(list []impl.Value) {
		list = list[:cap(list)]
		for i := range list {
			list[i] = changed
		}
	}
	cases := heapCases()
	for what, call := range heapFunctions() {
		for _, c := range cases {
			for _, n := range []int64{0, 1, 2, 4} {
				want := call(copyCase(c), n)
				got := call(c, n)
				for _, o := range append(got.heap.Objects, got.object) {
					overwrite(o.Keys)
					overwrite(o.Vals)
				}
				overwrite(got.values)
				objects := got.heap.Objects[:cap(got.heap.Objects)]
				for i := range objects {
					objects[i] = recordWith(77, "changed", changed)
				}
				if !equalResults(call(c, n), want) {
					t.Errorf("%s: another result for the number %d: %.500q", what, n, fmt.Sprint(c))
				}
			}
		}
	}
}

// TestFailuresOfHeapFunctions checks that nothing but the code is left of a call that fails.
func TestFailuresOfHeapFunctions(t *testing.T) {
	codes := map[int64]int{}
	for _, c := range heapCases() {
		heap, id, code := impl.NewObject(c.h, c.o)
		codes[code]++
		if code != impl.OK && (!equalHeaps(heap, impl.Heap{}) || id != 0) {
			t.Errorf("NewObject: code %d, Id %d and %.500q", code, id, fmt.Sprint(heap))
		}
		heap, moved, code := impl.Collect(c.h, c.roots)
		codes[code]++
		if code != impl.OK && (!equalHeaps(heap, impl.Heap{}) || len(moved) > 0) {
			t.Errorf("Collect: code %d, %+v and %.500q", code, moved, fmt.Sprint(heap))
		}
		for _, n := range caseNumbers() {
			o := c.o
			o.Id = n
			heap, code = impl.SetObject(c.h, o)
			codes[code]++
			if code != impl.OK && !equalHeaps(heap, impl.Heap{}) {
				t.Errorf("SetObject: code %d and %.500q", code, fmt.Sprint(heap))
			}
			object, found := impl.ObjectAt(c.h, n)
			if !found && !equalObjects(object, impl.Object{}) {
				t.Errorf("ObjectAt: %.500q", fmt.Sprint(object))
			}
		}
	}
	for _, code := range []int64{impl.OK, impl.ErrInvalid, impl.ErrFull, impl.ErrNotFound, impl.ErrType} {
		if codes[code] == 0 {
			t.Errorf("no call returned the code %d", code)
		}
	}
}

// TestHeapFunctionsWithEqualTexts calls the functions with texts that are equal, but in other memory.
func TestHeapFunctionsWithEqualTexts(t *testing.T) {
	other := func(list []impl.Value) {
		for i := range list {
			list[i].Text = strings.Clone(list[i].Text)
		}
	}
	cases := heapCases()
	for what, call := range heapFunctions() {
		for _, c := range cases {
			equal := copyCase(c)
			for i, o := range equal.h.Objects {
				equal.h.Objects[i].Name = strings.Clone(o.Name)
				other(o.Keys)
				other(o.Vals)
			}
			other(equal.roots)
			if !equalResults(call(c, 1), call(equal, 1)) {
				t.Errorf("%s: another result: %.500q", what, fmt.Sprint(c))
			}
		}
	}
}

// TestHeapFunctionsDoNotDependOnOtherCalls runs the calls in several goroutines at the same time, with the same arguments.
func TestHeapFunctionsDoNotDependOnOtherCalls(t *testing.T) {
	cases := heapCases()
	for what, call := range heapFunctions() {
		var want []heapResult
		for _, c := range cases {
			want = append(want, call(c, 2))
		}
		var group sync.WaitGroup
		for range 4 {
			group.Go(func() {
				for i := range cases {
					at := len(cases) - 1 - i
					if !equalResults(call(cases[at], 2), want[at]) {
						t.Errorf("%s: another result: %.500q", what, fmt.Sprint(cases[at]))
					}
				}
			})
		}
		group.Wait()
	}
}
