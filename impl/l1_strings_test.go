package impl

import "testing"

func TestPartsOfCanBeLeftEarly(t *testing.T) {
	for stop, want := range []string{"a", "", "b"} {
		told, last := 0, ""
		for part := range partsOf("a,,b", ',') {
			last = part
			if told == stop {
				break
			}
			told++
		}
		if told != stop || last != want {
			t.Errorf("left at part %d: %d parts, the last one %q", stop, told, last)
		}
	}
}
