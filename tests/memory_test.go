package tests

import (
	"testing"
	"unsafe"
)

// overlap reports whether a bytes from address startA and b bytes from startB meet.
func overlap(startA uintptr, a int, startB uintptr, b int) bool {
	if a == 0 || b == 0 {
		return false
	}
	return startA < startB+uintptr(b) && startB < startA+uintptr(a)
}

// shareBytes reports whether two strings lie, in part, in the same memory.
func shareBytes(a string, b string) bool {
	startA := uintptr(unsafe.Pointer(unsafe.StringData(a)))
	startB := uintptr(unsafe.Pointer(unsafe.StringData(b)))
	return overlap(startA, len(a), startB, len(b))
}

// shareElements reports whether two slices, up to their capacities, lie in part in the same memory.
func shareElements[E any](a []E, b []E) bool {
	startA := uintptr(unsafe.Pointer(unsafe.SliceData(a)))
	startB := uintptr(unsafe.Pointer(unsafe.SliceData(b)))
	var element E
	size := int(unsafe.Sizeof(element))
	return overlap(startA, cap(a)*size, startB, cap(b)*size)
}

func TestShareBytesSeesSubstrings(t *testing.T) {
	s := string([]byte("weather"))
	if !shareBytes(s, s) || !shareBytes(s, s[3:5]) || !shareBytes(s[3:5], s) {
		t.Error("a part is not seen")
	}
	if shareBytes(s[:3], s[3:]) || shareBytes(s, string([]byte(s))) || shareBytes(s[:0], s) {
		t.Error("separate memory is seen as shared")
	}
}

func TestShareElementsSeesParts(t *testing.T) {
	all := []int{1, 2, 3, 4, 5, 6}
	if !shareElements(all, all) || !shareElements(all, all[2:3]) || !shareElements(all[2:3], all) || !shareElements(all[:2], all[3:]) {
		t.Error("a part is not seen")
	}
	if shareElements(all[:3:3], all[3:]) || shareElements(all, []int{1, 2}) || shareElements(all, nil) || shareElements[int](nil, nil) {
		t.Error("separate memory is seen as shared")
	}
}
