package wheel

import (
	"slices"
	"testing"

	"sluice/api"
)

// P12.1: the edge behind the greatest number of edges comes to ErrLong, but for what is wrong with that edge itself; so many are too many to be laid down in a test.
func TestAtMost(t *testing.T) {
	list := make([]api.Edge, 5)
	for n := range len(list) + 1 {
		var told []api.Errno
		for _, err := range atMost(3, Feed(list[:n])) {
			told = append(told, err)
		}
		want := make([]api.Errno, min(n, 4))
		if n > 3 {
			want = append(want, api.ErrLong)
		}
		if !slices.Equal(told, want) {
			t.Errorf("%d edges: %v, want %v", n, told, want)
		}
	}
	told := 0
	for range atMost(3, Feed(list)) {
		told++
		if told == 4 {
			break // the fourth edge is refused for what it is
		}
	}
	if told != 4 {
		t.Error(told)
	}
}
