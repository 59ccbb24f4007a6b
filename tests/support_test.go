package tests

import (
	"math/rand"
	"slices"
	"strings"
	"testing"
)

// checkEqual compares two values.
func checkEqual[T comparable](t *testing.T, what string, got, want T) {
	t.Helper()
	if got != want {
		t.Errorf("%s: got %#v, want %#v", what, got, want)
	}
}

// checkList compares two lists; nil and empty lists are equivalent.
func checkList[T comparable](t *testing.T, what string, got, want []T) {
	t.Helper()
	if !slices.Equal(got, want) {
		t.Errorf("%s: got %#v, want %#v", what, got, want)
	}
}

// eachText calls visit with every text of at most length bytes of an alphabet.
func eachText(alphabet string, length int, visit func(s string)) {
	visit("")
	if length == 0 {
		return
	}
	for i := range len(alphabet) {
		first := alphabet[i : i+1]
		eachText(alphabet, length-1, func(s string) { visit(first + s) })
	}
}

// randomTexts returns the same texts in every run: count texts of up to length pieces.
func randomTexts(seed int64, count, length int, pieces []string) []string {
	source := rand.New(rand.NewSource(seed))
	texts := make([]string, count)
	for i := range texts {
		var text strings.Builder
		for range source.Intn(length + 1) {
			text.WriteString(pieces[source.Intn(len(pieces))])
		}
		texts[i] = text.String()
	}
	return texts
}

// allBytes returns the texts of one byte each.
func allBytes() []string {
	list := make([]string, 256)
	for i := range list {
		list[i] = string([]byte{byte(i)})
	}
	return list
}

// backing returns a list with the given elements, and the memory behind it,
// which has unused elements after those of the list.
func backing[T any](elements []T, unused T) (list, memory []T) {
	memory = append(slices.Clone(elements), unused, unused, unused)
	return memory[:len(elements)], memory
}
