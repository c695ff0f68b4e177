package journal

import "testing"

// No file of a test is so long that the number's first byte is not 0.
func TestHead(t *testing.T) {
	for k, want := range map[int]head{0: {}, 1: {0, 0, 0, 1}, 0x01020304: {1, 2, 3, 4}, 0x7ffefdfc: {0x7f, 0xfe, 0xfd, 0xfc}} {
		if got := headOf(k); got != want {
			t.Errorf("The file: the number %d is %v, want %v", k, got, want)
		}
	}
}
