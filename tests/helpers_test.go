package tests

import (
	"iter"
	"slices"
	"testing"
)

// textsNear yields all texts in which one byte of s is changed, left out or added.
func textsNear(s string) iter.Seq[string] {
	return func(yield func(string) bool) {
		for i := range len(s) + 1 {
			if i < len(s) && !yield(s[:i]+s[i+1:]) {
				return
			}
			for c := range 256 {
				sign := string([]byte{byte(c)})
				if !yield(s[:i] + sign + s[i:]) {
					return
				}
				if i < len(s) && s[i] != byte(c) && !yield(s[:i]+sign+s[i+1:]) {
					return
				}
			}
		}
	}
}

// expectNewInts expects a call to return n numbers, and the same ones again after its first result is overwritten.
func expectNewInts(t *testing.T, n int, call func() ([]int, bool)) {
	t.Helper()
	first, _ := call()
	want := slices.Clone(first)
	for i := range first[:cap(first)] {
		first[:cap(first)][i] = -1
	}
	if again, ok := call(); !ok || len(again) != n || !slices.Equal(again, want) {
		t.Error("shared", first, again)
	}
}
