package tests

import (
	"fmt"
	"math"
	"math/rand"
	"slices"
	"strings"
	"testing"

	"loop.example/g00873/impl"
)

// collection is what the functions of the collector return for valid roots.
type collection struct {
	reachable, garbage []int64
	heap               impl.Heap
	roots              []impl.Value
}

// checkCollection compares the results of all functions for valid roots.
func checkCollection(t *testing.T, what string, h impl.Heap, roots []impl.Value, want collection) {
	t.Helper()
	checkEqual(t, what+": valid", impl.ValidRoots(h, roots), true)
	checkList(t, what+": reachable", impl.Reachable(h, roots), want.reachable)
	checkList(t, what+": garbage", impl.Garbage(h, roots), want.garbage)
	heap, moved, code := impl.Collect(h, roots)
	checkHeap(t, what+": collected heap", heap, want.heap)
	checkList(t, what+": collected roots", moved, want.roots)
	checkEqual(t, what+": code", code, impl.OK)
	for k, id := range want.reachable {
		checkEqual(t, fmt.Sprint(what, ": new Id of ", id), impl.NewIdOf(h, roots, id), int64(k+1))
	}
	for _, id := range append(want.garbage, invalidIds()...) {
		checkEqual(t, fmt.Sprint(what, ": new Id of ", id), impl.NewIdOf(h, roots, id), 0)
	}
	size := 0
	for _, o := range want.heap.Objects {
		size += len(o.Keys) + len(o.Vals)
	}
	checkEqual(t, what+": live size", impl.LiveSize(h, roots), int64(size))
	checkEqual(t, what+": shape", impl.SameShape(h, roots, heap, moved), true)
	count := int64(len(h.Objects))
	for _, limit := range []int64{math.MinInt64, -1, 0, count - 1, count, count + 1, math.MaxInt64} {
		if count > limit {
			checkCollectIfNeeded(t, what, h, roots, limit, heap, moved, true)
		} else {
			checkCollectIfNeeded(t, what, h, roots, limit, h, roots, false)
		}
	}
}

func checkCollectIfNeeded(t *testing.T, what string, h impl.Heap, roots []impl.Value, limit int64, heap impl.Heap, moved []impl.Value, needed bool) {
	t.Helper()
	got, gotRoots, gotNeeded := impl.CollectIfNeeded(h, roots, limit)
	what = fmt.Sprint(what, ", collected if there are more than ", limit)
	checkHeap(t, what+": heap", got, heap)
	checkList(t, what+": roots", gotRoots, moved)
	checkEqual(t, what+": needed", gotNeeded, needed)
}

// checkInvalidRoots checks what all functions return for invalid roots.
func checkInvalidRoots(t *testing.T, what string, h impl.Heap, roots []impl.Value) {
	t.Helper()
	checkEqual(t, what+": valid", impl.ValidRoots(h, roots), false)
	if impl.Reachable(h, roots) != nil || impl.Garbage(h, roots) != nil {
		t.Errorf("%s: reachable %v, garbage %v", what, impl.Reachable(h, roots), impl.Garbage(h, roots))
	}
	heap, moved, code := impl.Collect(h, roots)
	checkHeap(t, what+": heap", heap, impl.Heap{})
	checkList(t, what+": roots", moved, nil)
	checkEqual(t, what+": code", code, impl.ErrInvalid)
	for _, id := range append(invalidIds(), 1, 2, 4, 8) {
		checkEqual(t, what+": new Id", impl.NewIdOf(h, roots, id), 0)
	}
	checkEqual(t, what+": shape of itself", impl.SameShape(h, roots, h, roots), false)
	checkEqual(t, what+": shape of the zero heap", impl.SameShape(h, roots, impl.Heap{}, nil), false)
	checkEqual(t, what+": shape, exchanged", impl.SameShape(impl.Heap{}, nil, h, roots), false)
	checkEqual(t, what+": live size", impl.LiveSize(h, roots), -1)
	for _, limit := range []int64{math.MinInt64, -1, 0, int64(len(h.Objects)), math.MaxInt64} {
		checkCollectIfNeeded(t, what, h, roots, limit, h, roots, false)
	}
}

func TestCollectorExamples(t *testing.T) {
	null := stringOf("")
	h := heapWith(3, arrayWith(1, recordRef(3)), tableWith(2, null), recordWith(3, "NODE", null))
	checkCollection(t, "an array that contains a record", h, []impl.Value{arrayRef(1)}, collection{
		[]int64{1, 3}, []int64{2}, heapWith(2, arrayWith(1, recordRef(2)), recordWith(2, "NODE", null)), []impl.Value{arrayRef(1)},
	})
}

// chain returns count arrays, each of which contains the one before it.
func chain(count int) impl.Heap {
	list := arraysTo(count)
	for i := 1; i < count; i++ {
		list[i].Vals = []impl.Value{arrayRef(int64(i))}
	}
	return heapWith(int64(count), list...)
}

// turnedChain returns the chain in the order in which its objects are visited from the last one.
func turnedChain(count int) impl.Heap {
	list := arraysTo(count)
	for i := range count - 1 {
		list[i].Vals = []impl.Value{arrayRef(int64(i + 2))}
	}
	return heapWith(int64(count), list...)
}

func idsTo(count int64) []int64 {
	var ids []int64
	for id := range count {
		ids = append(ids, id+1)
	}
	return ids
}

func TestCollect(t *testing.T) {
	null, one := stringOf(""), integerOf(1)
	descending := idsTo(40)
	slices.Reverse(descending)
	for _, c := range []struct {
		what  string
		h     impl.Heap
		roots []impl.Value
		want  collection
	}{
		{"nothing", impl.Heap{}, nil, collection{}},
		{"no roots", heapWith(9, arrayWith(3), arrayWith(7, arrayRef(3))), nil, collection{garbage: []int64{3, 7}}},
		{"roots that refer to nothing", heapWith(9, arrayWith(1)), []impl.Value{null, stringOf("array#1"), one, patternOf("p"), nameOf("X"), deferOf("X")}, collection{garbage: []int64{1}, roots: []impl.Value{null, stringOf("array#1"), one, patternOf("p"), nameOf("X"), deferOf("X")}}},
		{"a heap without objects", heapWith(1000000), []impl.Value{one}, collection{roots: []impl.Value{one}}},
		{"an object", heapWith(1000000, arrayWith(1000000)), []impl.Value{arrayRef(1000000)}, collection{[]int64{1000000}, nil, heapWith(1, arrayWith(1)), []impl.Value{arrayRef(1)}}},
		{"an object that refers to itself", heapWith(5, arrayWith(5, arrayRef(5), arrayRef(5))), []impl.Value{arrayRef(5), arrayRef(5)}, collection{[]int64{5}, nil, heapWith(1, arrayWith(1, arrayRef(1), arrayRef(1))), []impl.Value{arrayRef(1), arrayRef(1)}}},
		{"a table that is its own key, value and default", heapWith(5, tableWith(4, tableRef(4), tableRef(4), tableRef(4))), []impl.Value{tableRef(4)}, collection{[]int64{4}, nil, heapWith(1, tableWith(1, tableRef(1), tableRef(1), tableRef(1))), []impl.Value{tableRef(1)}}},
		{"garbage that refers to itself", heapWith(5, arrayWith(1), arrayWith(5, arrayRef(5))), []impl.Value{arrayRef(1)}, collection{[]int64{1}, []int64{5}, heapWith(1, arrayWith(1)), []impl.Value{arrayRef(1)}}},
		{"garbage that refers to what is reachable", heapWith(5, arrayWith(1, arrayRef(5)), arrayWith(5)), []impl.Value{arrayRef(5)}, collection{[]int64{5}, []int64{1}, heapWith(1, arrayWith(1)), []impl.Value{arrayRef(1)}}},
		{"a cycle of garbage", heapWith(4, arrayWith(1, arrayRef(2)), arrayWith(2, arrayRef(1)), arrayWith(4)), []impl.Value{arrayRef(4)}, collection{[]int64{4}, []int64{1, 2}, heapWith(1, arrayWith(1)), []impl.Value{arrayRef(1)}}},
		{"a cycle", heapWith(9, recordWith(2, "R", recordRef(7)), recordWith(4, "S", recordRef(2)), recordWith(7, "T", recordRef(4))), []impl.Value{recordRef(4)}, collection{[]int64{4, 2, 7}, nil, heapWith(3, recordWith(1, "S", recordRef(2)), recordWith(2, "R", recordRef(3)), recordWith(3, "T", recordRef(1))), []impl.Value{recordRef(1)}}},
		{"roots in their order", heapWith(4, arrayWith(1), arrayWith(2), arrayWith(3), arrayWith(4)), []impl.Value{arrayRef(3), one, arrayRef(1), arrayRef(3), arrayRef(2)}, collection{[]int64{3, 1, 2}, []int64{4}, heapWith(3, arraysTo(3)...), []impl.Value{arrayRef(1), one, arrayRef(2), arrayRef(1), arrayRef(3)}}},
		{"elements in their order", heapWith(4, arrayWith(1, arrayRef(4), one, arrayRef(2), arrayRef(4), arrayRef(3)), arrayWith(2), arrayWith(3), arrayWith(4)), []impl.Value{arrayRef(1)}, collection{[]int64{1, 4, 2, 3}, nil, heapWith(4, arrayWith(1, arrayRef(2), one, arrayRef(3), arrayRef(2), arrayRef(4)), arrayWith(2), arrayWith(3), arrayWith(4)), []impl.Value{arrayRef(1)}}},
		{"fields in their order", heapWith(4, recordWith(1, "R", arrayRef(4), arrayRef(2), arrayRef(3)), arrayWith(2), arrayWith(3), arrayWith(4)), []impl.Value{recordRef(1)}, collection{[]int64{1, 4, 2, 3}, nil, heapWith(4, recordWith(1, "R", arrayRef(2), arrayRef(3), arrayRef(4)), arrayWith(2), arrayWith(3), arrayWith(4)), []impl.Value{recordRef(1)}}},
		{"each key before its value, and the default last", heapWith(6, tableWith(1, arrayRef(2), arrayRef(5), arrayRef(3), arrayRef(6), arrayRef(4)), arrayWith(2), arrayWith(3), arrayWith(4), arrayWith(5), arrayWith(6)), []impl.Value{tableRef(1)}, collection{[]int64{1, 5, 3, 6, 4, 2}, nil, heapWith(6, tableWith(1, arrayRef(6), arrayRef(2), arrayRef(3), arrayRef(4), arrayRef(5)), arrayWith(2), arrayWith(3), arrayWith(4), arrayWith(5), arrayWith(6)), []impl.Value{tableRef(1)}}},
		{"a default of a table without keys", heapWith(2, tableWith(1, recordRef(2)), recordWith(2, "R", null)), []impl.Value{tableRef(1)}, collection{[]int64{1, 2}, nil, heapWith(2, tableWith(1, recordRef(2)), recordWith(2, "R", null)), []impl.Value{tableRef(1)}}},
		{"roots before what they contain", heapWith(3, arrayWith(1), arrayWith(2), arrayWith(3, arrayRef(1))), []impl.Value{arrayRef(3), arrayRef(2)}, collection{[]int64{3, 2, 1}, nil, heapWith(3, arrayWith(1, arrayRef(3)), arrayWith(2), arrayWith(3)), []impl.Value{arrayRef(1), arrayRef(2)}}},
		{"near objects before far ones", heapWith(5, arrayWith(1), arrayWith(2), arrayWith(3, arrayRef(1)), arrayWith(4, arrayRef(2)), arrayWith(5, arrayRef(4), arrayRef(3))), []impl.Value{arrayRef(5)}, collection{[]int64{5, 4, 3, 2, 1}, nil, heapWith(5, arrayWith(1, arrayRef(2), arrayRef(3)), arrayWith(2, arrayRef(4)), arrayWith(3, arrayRef(5)), arrayWith(4), arrayWith(5)), []impl.Value{arrayRef(1)}}},
		{"an object that is reached on several ways", heapWith(4, arrayWith(1, arrayRef(2), arrayRef(3)), arrayWith(2, arrayRef(4)), arrayWith(3, arrayRef(4), arrayRef(2)), arrayWith(4, arrayRef(1))), []impl.Value{arrayRef(1), arrayRef(1)}, collection{[]int64{1, 2, 3, 4}, nil, heapWith(4, arrayWith(1, arrayRef(2), arrayRef(3)), arrayWith(2, arrayRef(4)), arrayWith(3, arrayRef(4), arrayRef(2)), arrayWith(4, arrayRef(1))), []impl.Value{arrayRef(1), arrayRef(1)}}},
		{"all kinds of objects", exampleHeap(), []impl.Value{integerOf(4), recordRef(4)}, collection{[]int64{4, 1, 2}, []int64{8}, heapWith(3,
			recordWith(1, "NODE", arrayRef(2), recordRef(1), tableRef(3)),
			arrayWith(2, recordRef(1), integerOf(5), arrayRef(2), tableRef(3)),
			tableWith(3, tableRef(3), stringOf("x"), recordRef(1), arrayRef(2), integerOf(1)),
		), []impl.Value{integerOf(4), recordRef(1)}}},
		{"a Low", heapWith(7, impl.Object{Id: 7, Kind: impl.ObArray, Low: -1000, Vals: integersTo(30)}), []impl.Value{arrayRef(7)}, collection{[]int64{7}, nil, heapWith(1, impl.Object{Id: 1, Kind: impl.ObArray, Low: -1000, Vals: integersTo(30)}), []impl.Value{arrayRef(1)}}},
		{"MaxObjects objects in a chain", chain(40), []impl.Value{arrayRef(40)}, collection{descending, nil, turnedChain(40), []impl.Value{arrayRef(1)}}},
		{"all but one object of a chain", chain(40), []impl.Value{arrayRef(39)}, collection{descending[1:], []int64{40}, turnedChain(39), []impl.Value{arrayRef(1)}}},
	} {
		checkCollection(t, c.what, c.h, c.roots, c.want)
	}
}

func TestInvalidRoots(t *testing.T) {
	h := exampleHeap()
	for _, v := range slices.Concat(invalidValues(), strayReferences()) {
		what := fmt.Sprintf("%.60q", fmt.Sprint(v))
		checkInvalidRoots(t, what, h, []impl.Value{v})
		checkInvalidRoots(t, what+" first", h, []impl.Value{v, arrayRef(1), integerOf(1)})
		checkInvalidRoots(t, what+" last", h, []impl.Value{arrayRef(1), integerOf(1), v})
		checkInvalidRoots(t, what+" after very many", h, append(slices.Repeat([]impl.Value{recordRef(4)}, 1000), v))
	}
	checkInvalidRoots(t, "an array in the zero heap", impl.Heap{}, []impl.Value{arrayRef(1)})
	for _, c := range invalidHeaps() {
		for _, roots := range [][]impl.Value{nil, {integerOf(1)}, {arrayRef(1)}, {{}}} {
			checkInvalidRoots(t, c.what, c.h, roots)
		}
	}
}

func TestRootsOfAnyNumber(t *testing.T) {
	h := exampleHeap()
	roots := slices.Repeat([]impl.Value{integerOf(7), recordRef(4), arrayRef(8)}, 100000)
	heap, moved, code := impl.Collect(h, roots)
	checkEqual(t, "code", code, impl.OK)
	checkList(t, "roots", moved, slices.Repeat([]impl.Value{integerOf(7), recordRef(1), arrayRef(2)}, 100000))
	checkList(t, "reachable", impl.Reachable(h, roots), []int64{4, 8, 1, 2})
	checkEqual(t, "objects", len(heap.Objects), 4)
	checkInvalidRoots(t, "one stray root", h, append(roots, arrayRef(3)))
	for _, c := range validHeaps() {
		var all []impl.Value
		for _, o := range c.h.Objects {
			all = append(all, referenceTo(o))
		}
		checkEqual(t, c.what+": valid roots", impl.ValidRoots(c.h, all), true)
		checkEqual(t, c.what+": live size", impl.LiveSize(c.h, all), impl.HeapSize(c.h))
		checkList(t, c.what+": garbage", impl.Garbage(c.h, all), nil)
	}
}

func TestCollectingMakesRoom(t *testing.T) {
	h := fullHeap()
	for _, roots := range [][]impl.Value{nil, {tableRef(999962)}, {arrayRef(1000000), recordRef(999999)}} {
		checkNewObject(t, "before", h, arrayWith(0), impl.Heap{}, 0, impl.ErrFull)
		collected, _, _ := impl.Collect(h, roots)
		count := int64(len(impl.Reachable(h, roots)))
		want := copyHeap(collected)
		want.Next++
		want.Objects = append(want.Objects, arrayWith(count+1))
		checkNewObject(t, "after", collected, arrayWith(0), want, count+1, impl.OK)
	}
}

func TestSameShape(t *testing.T) {
	null, one := stringOf(""), integerOf(1)
	first := heapWith(9, arrayWith(2, arrayRef(5), one), arrayWith(3), arrayWith(5, arrayRef(2)))
	renamed := heapWith(4, arrayWith(1, arrayRef(4)), arrayWith(4, arrayRef(1), one))
	list := []struct {
		h     impl.Heap
		roots []impl.Value
	}{
		{first, []impl.Value{arrayRef(2)}},
		{first, []impl.Value{arrayRef(5)}},
		{first, []impl.Value{arrayRef(3)}},
		{first, []impl.Value{arrayRef(2), arrayRef(5)}},
		{first, []impl.Value{arrayRef(2), arrayRef(2)}},
		{first, []impl.Value{arrayRef(2), one}},
		{first, []impl.Value{one, arrayRef(2)}},
		{first, nil},
		{first, []impl.Value{one}},
		{first, []impl.Value{null}},
		{heapWith(2, arrayWith(1, arrayRef(2), null), arrayWith(2, arrayRef(1))), []impl.Value{arrayRef(1)}},
		{heapWith(2, arrayWith(1, arrayRef(2), one), arrayWith(2, arrayRef(2))), []impl.Value{arrayRef(1)}},
		{heapWith(1, arrayWith(1, arrayRef(1), one)), []impl.Value{arrayRef(1)}},
		{heapWith(3, arrayWith(1, arrayRef(2), one), arrayWith(2, arrayRef(3)), arrayWith(3, arrayRef(2), one)), []impl.Value{arrayRef(1)}},
		{heapWith(2, arrayWith(1, tableRef(2)), tableWith(2, one)), []impl.Value{arrayRef(1)}},
		{heapWith(2, arrayWith(1, recordRef(2)), recordWith(2, "R", one)), []impl.Value{arrayRef(1)}},
		{heapWith(2, arrayWith(1, recordRef(2)), recordWith(2, "S", one)), []impl.Value{arrayRef(1)}},
		{heapWith(1, tableWith(1, one)), []impl.Value{tableRef(1)}},
		{heapWith(1, tableWith(1, null)), []impl.Value{tableRef(1)}},
		{heapWith(1, tableWith(1, null, one, one, null, null)), []impl.Value{tableRef(1)}},
		{heapWith(1, tableWith(1, null, null, null, one, one)), []impl.Value{tableRef(1)}},
	}
	for i, a := range list {
		for j, b := range list {
			checkEqual(t, fmt.Sprint(a, " and ", b), impl.SameShape(a.h, a.roots, b.h, b.roots), i == j)
		}
	}
	checkEqual(t, "other numbers", impl.SameShape(first, []impl.Value{arrayRef(2)}, renamed, []impl.Value{arrayRef(4)}), true)
	checkEqual(t, "other numbers of two roots", impl.SameShape(first, []impl.Value{arrayRef(5), arrayRef(2)}, renamed, []impl.Value{arrayRef(1), arrayRef(4)}), true)
	checkEqual(t, "exchanged roots", impl.SameShape(first, []impl.Value{arrayRef(5), arrayRef(2)}, renamed, []impl.Value{arrayRef(4), arrayRef(1)}), false)
	checkEqual(t, "other garbage", impl.SameShape(first, nil, exampleHeap(), nil), true)
	checkEqual(t, "invalid second roots", impl.SameShape(first, nil, first, []impl.Value{arrayRef(1)}), false)
	checkEqual(t, "invalid first roots", impl.SameShape(first, []impl.Value{arrayRef(1)}, first, nil), false)
}

// modelTrace returns the visited objects in the order of tracing: the first object that is
// not yet visited is searched from the beginning, again and again.
func modelTrace(h impl.Heap, roots []impl.Value) []impl.Object {
	var visited []impl.Object
	for {
		values := slices.Clone(roots)
		for _, o := range visited {
			values = append(values, allValues(o)...)
		}
		at := slices.IndexFunc(values, func(v impl.Value) bool {
			return v.Ref != 0 && !slices.ContainsFunc(visited, func(o impl.Object) bool { return o.Id == v.Ref })
		})
		if at < 0 {
			return visited
		}
		next := slices.IndexFunc(h.Objects, func(o impl.Object) bool { return o.Id == values[at].Ref })
		visited = append(visited, h.Objects[next])
	}
}

// modelCollection returns what the collector does with valid roots.
func modelCollection(h impl.Heap, roots []impl.Value) collection {
	var c collection
	for _, o := range modelTrace(h, roots) {
		c.reachable = append(c.reachable, o.Id)
		c.heap.Objects = append(c.heap.Objects, copyObject(o))
	}
	for _, o := range h.Objects {
		if !slices.Contains(c.reachable, o.Id) {
			c.garbage = append(c.garbage, o.Id)
		}
	}
	move := func(v *impl.Value) {
		v.Ref = int64(slices.Index(c.reachable, v.Ref) + 1)
	}
	for k := range c.heap.Objects {
		o := &c.heap.Objects[k]
		o.Id = int64(k + 1)
		for _, list := range [][]impl.Value{o.Keys, o.Vals} {
			for i := range list {
				move(&list[i])
			}
		}
		move(&o.Default)
		c.heap.Next = o.Id
	}
	c.roots = slices.Clone(roots)
	for i := range c.roots {
		move(&c.roots[i])
	}
	return c
}

func TestCollectorAgainstModel(t *testing.T) {
	m := heapMaker{rand.New(rand.NewSource(34))}
	kept, removed := 0, 0
	for range 6000 {
		h := m.heap(8)
		var roots []impl.Value
		for range m.Intn(4) {
			roots = append(roots, m.value(h.Objects))
		}
		want := modelCollection(h, roots)
		checkCollection(t, fmt.Sprint(h, " with ", roots), h, roots, want)
		kept += len(want.reachable)
		removed += len(want.garbage)
	}
	if kept < 5000 || removed < 5000 {
		t.Errorf("%d objects were kept, and %d removed", kept, removed)
	}
}

// smallLists calls visit with all lists of at most length values that refer to an array 1, a table 2 and a record 3.
func smallLists(length int, visit func(list []impl.Value)) {
	visit(nil)
	if length == 0 {
		return
	}
	for _, v := range []impl.Value{arrayRef(1), tableRef(2), recordRef(3)} {
		smallLists(length-1, func(list []impl.Value) { visit(append([]impl.Value{v}, list...)) })
	}
}

// smallTables calls visit with all tables 2 of at most one key that refer to the same objects.
func smallTables(visit func(o impl.Object)) {
	smallLists(3, func(list []impl.Value) {
		switch len(list) {
		case 1:
			visit(tableWith(2, list[0]))
			visit(tableWith(2, list[0], integerOf(1), stringOf("")))
		case 2:
			visit(tableWith(2, integerOf(1), list...))
			visit(tableWith(2, list[0], list[1], integerOf(1)))
			visit(tableWith(2, list[0], integerOf(1), list[1]))
		case 3:
			visit(tableWith(2, list[0], list[1:]...))
		}
	})
}

// eachSmallHeap calls visit with all heaps of an array, a table and a record with up to three references each, and all lists of up to two roots.
func eachSmallHeap(visit func(h impl.Heap, roots []impl.Value)) {
	smallLists(2, func(elements []impl.Value) {
		smallTables(func(o impl.Object) {
			smallLists(2, func(fields []impl.Value) {
				h := heapWith(3, arrayWith(1, elements...), o, recordWith(3, "R", append(fields, integerOf(1))...))
				smallLists(2, func(roots []impl.Value) { visit(h, roots) })
			})
		})
	})
}

// reachableIds returns the Ids of the objects that are reachable from some values, in ascending order:
// the objects to which those of the list refer are added until there are no others.
func reachableIds(h impl.Heap, roots []impl.Value) []int64 {
	ids := modelRefs(roots)
	for {
		values := slices.Clone(roots)
		for _, o := range h.Objects {
			if slices.Contains(ids, o.Id) {
				values = append(values, allValues(o)...)
			}
		}
		more := modelRefs(values)
		if len(more) == len(ids) {
			return ids
		}
		ids = more
	}
}

// isomorphism compares two structures and finds which objects correspond.
type isomorphism struct {
	a, b  impl.Heap
	pairs map[int64]int64
}

// sameValues reports whether the values of two lists correspond.
func (s *isomorphism) sameValues(x, y []impl.Value) bool {
	return slices.EqualFunc(x, y, s.sameValue)
}

func (s *isomorphism) sameValue(v, w impl.Value) bool {
	if v.Ref == 0 || v.Kind != w.Kind {
		return v == w
	}
	if id, found := s.pairs[v.Ref]; found {
		return id == w.Ref
	}
	s.pairs[v.Ref] = w.Ref
	isOf := func(v impl.Value) func(o impl.Object) bool {
		return func(o impl.Object) bool { return o.Id == v.Ref && o.Kind == referenceKinds[v.Kind] }
	}
	i, j := slices.IndexFunc(s.a.Objects, isOf(v)), slices.IndexFunc(s.b.Objects, isOf(w))
	if i < 0 || j < 0 {
		return false
	}
	o, p := s.a.Objects[i], s.b.Objects[j]
	return o.Name == p.Name && o.Low == p.Low && s.sameValues(o.Keys, p.Keys) && s.sameValues(o.Vals, p.Vals) && s.sameValue(o.Default, p.Default)
}

// checkStructure is promise 9, for one heap and its collected heap.
func checkStructure(t *testing.T, h impl.Heap, roots []impl.Value) {
	t.Helper()
	heap, moved, code := impl.Collect(h, roots)
	checkEqual(t, "code", code, impl.OK)
	checkEqual(t, "valid", modelHeap(heap), true)
	reachable := reachableIds(h, roots)
	same := isomorphism{h, heap, map[int64]int64{}}
	if !same.sameValues(roots, moved) || len(same.pairs) != len(reachable) || len(heap.Objects) != len(reachable) || heap.Next != int64(len(reachable)) {
		t.Errorf("%+v with %+v: collected %+v with %+v", h, roots, heap, moved)
	}
	for _, o := range h.Objects {
		id := same.pairs[o.Id]
		checkEqual(t, "kept if reachable", id != 0, slices.Contains(reachable, o.Id))
		checkEqual(t, "new Id", impl.NewIdOf(h, roots, o.Id), id)
	}
	all := append(slices.Clone(impl.Reachable(h, roots)), impl.Garbage(h, roots)...)
	slices.Sort(all)
	checkEqual(t, "reachable objects and garbage", len(slices.Compact(all)), len(h.Objects))
	again, movedAgain, code := impl.Collect(heap, moved)
	checkEqual(t, "second code", code, impl.OK)
	checkHeap(t, "collected again", again, heap)
	checkList(t, "roots that were collected again", movedAgain, moved)
	checkList(t, "new order", impl.Reachable(heap, moved), idsTo(heap.Next))
	checkList(t, "new garbage", impl.Garbage(heap, moved), nil)
	checkEqual(t, "shape", impl.SameShape(h, roots, heap, moved), true)
}

// TestCollectingSmallHeaps checks all heaps of a few objects.
func TestCollectingSmallHeaps(t *testing.T) {
	heaps := 0
	eachSmallHeap(func(h impl.Heap, roots []impl.Value) {
		heaps++
		if heaps%7 == 0 {
			checkStructure(t, h, roots)
		}
		want := modelCollection(h, roots)
		heap, moved, code := impl.Collect(h, roots)
		if !equalHeaps(heap, want.heap) || !slices.Equal(moved, want.roots) || code != impl.OK {
			t.Errorf("%+v with %+v: collected %+v with %+v, code %d", h, roots, heap, moved, code)
		}
	})
	if heaps < 100000 {
		t.Errorf("only %d heaps", heaps)
	}
}

func TestCollectingKeepsTheStructure(t *testing.T) {
	m := heapMaker{rand.New(rand.NewSource(35))}
	for i := range 6000 {
		h := m.heap([]int{3, 6, 40}[i%3])
		var roots []impl.Value
		for range m.Intn(5) {
			roots = append(roots, m.value(h.Objects))
		}
		checkStructure(t, h, roots)
	}
	for _, c := range validHeaps() {
		checkStructure(t, c.h, nil)
		for _, o := range c.h.Objects {
			checkStructure(t, c.h, []impl.Value{referenceTo(o), stringOf(strings.Repeat("x", 200)), referenceTo(o)})
		}
	}
}

// shuffled returns an equal structure whose objects have other numbers and stand in another order.
func (m heapMaker) shuffled(h impl.Heap, roots []impl.Value) (impl.Heap, []impl.Value) {
	numbers := m.Perm(100)[:len(h.Objects)]
	ids := map[int64]int64{}
	for i, o := range h.Objects {
		ids[o.Id] = int64(numbers[i] + 1)
	}
	move := func(list []impl.Value) []impl.Value {
		list = slices.Clone(list)
		for i := range list {
			list[i].Ref = ids[list[i].Ref]
		}
		return list
	}
	moved := impl.Heap{Next: 100}
	for _, o := range h.Objects {
		o.Id, o.Keys, o.Vals = ids[o.Id], move(o.Keys), move(o.Vals)
		o.Default.Ref = ids[o.Default.Ref]
		moved.Objects = append(moved.Objects, o)
	}
	slices.SortFunc(moved.Objects, func(a, b impl.Object) int { return compareIntegers(a.Id, b.Id) })
	return moved, move(roots)
}

// TestShapeDoesNotDependOnNumbers compares structures that differ in the numbers of objects, or in more.
func TestShapeDoesNotDependOnNumbers(t *testing.T) {
	m := heapMaker{rand.New(rand.NewSource(36))}
	counts := map[bool]int{}
	for range 3000 {
		h := m.heap(5)
		roots := []impl.Value{m.value(h.Objects), m.value(h.Objects)}
		other, otherRoots := m.shuffled(h, roots)
		checkEqual(t, fmt.Sprint(h, roots, other, otherRoots), impl.SameShape(h, roots, other, otherRoots), true)
		if len(other.Objects) > 0 {
			at := m.Intn(len(other.Objects))
			other.Objects[at] = m.fill(other.Objects[at], other.Objects)
		}
		same := isomorphism{h, other, map[int64]int64{}}
		want := same.sameValues(roots, otherRoots) && isInjective(same.pairs)
		checkEqual(t, fmt.Sprint(h, roots, other, otherRoots), impl.SameShape(h, roots, other, otherRoots), want)
		counts[want]++
	}
	if counts[true] < 300 || counts[false] < 300 {
		t.Errorf("%d structures are equal, and %d are not", counts[true], counts[false])
	}
}

func isInjective(pairs map[int64]int64) bool {
	ids := map[int64]bool{}
	for _, id := range pairs {
		ids[id] = true
	}
	return len(ids) == len(pairs)
}
