package tests

import (
	"testing"
	"unsafe"
)

// shareBytes reports whether two strings lie, in part, in the same memory.
func shareBytes(a string, b string) bool {
	if len(a) == 0 || len(b) == 0 {
		return false
	}
	startA := uintptr(unsafe.Pointer(unsafe.StringData(a)))
	startB := uintptr(unsafe.Pointer(unsafe.StringData(b)))
	return startA < startB+uintptr(len(b)) && startB < startA+uintptr(len(a))
}

func TestShareBytesSeesSubstrings(t *testing.T) {
	s := string([]byte("weather"))
	if !shareBytes(s, s) || !shareBytes(s, s[3:5]) || !shareBytes(s[3:5], s) {
		t.Error("a part is not seen")
	}
	if shareBytes(s[:3], s[3:]) || shareBytes(s, string([]byte(s))) || shareBytes(s[:0], s) {
		t.Error("separate memory is seen as shared")
	}
}
