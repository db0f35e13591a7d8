package ident

import "testing"

// Id3: of the same score that with the lesser number. (Mix is one to one, so no two numbers have the same score for a name: this is asked inside.)
func TestWantsMore(t *testing.T) {
	for _, x := range []struct {
		a, b wish
		more bool
	}{
		{wish{1, 7}, wish{2, 7}, true}, {wish{2, 7}, wish{1, 7}, false}, {wish{2, 8}, wish{1, 7}, true}, {wish{1, 7}, wish{2, 8}, false}, {wish{1, 1 << 63}, wish{2, 1}, true}, {wish{1, 1}, wish{2, 1 << 63}, false},
	} {
		if got := wantsMore(x.a, x.b) < 0; got != x.more {
			t.Errorf("wantsMore(%v, %v): %v", x.a, x.b, got)
		}
		if got := wantsMore(x.b, x.a) > 0; got != x.more {
			t.Errorf("wantsMore(%v, %v): %v", x.b, x.a, got)
		}
	}
}
