package landdv_test

import (
	"math/rand/v2"
	"slices"
	"testing"

	"beacon/api"
	"beacon/landdv"
)

// roomy is a list with room behind its end; that room, too, must stay.
func roomy[T any](l []T, behind ...T) []T {
	return append(slices.Clone(l), behind...)[:len(l)]
}

// whole is a list with the room behind its end.
func whole[T any](l []T) []T { return l[:cap(l)] }

// roomyHeard has room behind what was heard, and behind each one's news.
func roomyHeard(l []api.Heard) []api.Heard {
	l = roomy(l, heard(77, 2, mark(8, 3)), heard(78, 1))
	for i := range whole(l) {
		whole(l)[i].News = roomy(whole(l)[i].News, mark(77, 7), ball(78, 1, 2, 3))
	}
	return l
}

func roomyMarks(l []api.Entry) []api.Entry { return roomy(l, entry(77, 7, 7), farMark(78)) }

// copyHeard is all of that, with its room, once more.
func copyHeard(l []api.Heard) []api.Heard {
	copied := slices.Clone(whole(l))
	for i := range copied {
		copied[i].News = slices.Clone(whole(copied[i].News))
	}
	return copied
}

func sameHeard(a, b []api.Heard) bool {
	return slices.EqualFunc(a, b, func(a, b api.Heard) bool {
		return a.From == b.From && (a.Weight == b.Weight || a.Weight != a.Weight && b.Weight != b.Weight) && sameBits(whole(a.News), whole(b.News))
	})
}

// sameBits goes by texts: NaNs stand among what is handed in.
func sameBits[T any](a, b []T) bool { return textOf(a) == textOf(b) }

func spoil[T any](l []T, with T) {
	for i := range whole(l) {
		whole(l)[i] = with
	}
}

// R3: what is handed in stays, and the room behind it; answers are new memory, and nothing is kept. R4: asked again it is the same.
func TestMemoryOfMarks(t *testing.T) {
	r := rand.New(rand.NewPCG(15, 3))
	for range 5000 {
		self := pick(r, someIds...)
		l, max := roomyHeard(anyHeard(r, self)), anyLimit(r)
		kept := copyHeard(l)
		first, e := landdv.Marks(self, l, max)
		want := slices.Clone(first)
		again, _ := landdv.Marks(self, l, max)
		spoil(first, entry(66, 66, 66))
		if checkE := landdv.Check(self, l); checkE != api.OK && checkE != e {
			t.Fatalf("Check: %d, Marks: %d", checkE, e)
		}
		if !sameHeard(whole(l), kept) {
			t.Fatalf("an argument, or the room behind it: %v, not %v", whole(l), kept)
		}
		for i := range l {
			spoil(l[i].News, mark(66, 66))
		}
		spoil(l, heard(66, 66))
		if !sameEntries(again, want) {
			t.Fatalf("two answers share, or differ, or an argument is kept: %v, not %v", again, want)
		}
	}
}

func TestMemoryOfTell(t *testing.T) {
	r := rand.New(rand.NewPCG(15, 4))
	for range 5000 {
		self, isMark := pick(r, someIds...), r.IntN(2) == 0
		l := roomyMarks(anyMarks(r, self))
		kept := slices.Clone(whole(l))
		first, e := landdv.Tell(self, isMark, l)
		want := slices.Clone(first)
		again, _ := landdv.Tell(self, isMark, l)
		spoil(first, mark(66, 66))
		home, homeE := landdv.Home(self, isMark, l)
		homeAgain, _ := landdv.Home(self, isMark, l)
		if e != homeE || home != homeAgain {
			t.Fatalf("Home: %v, %d; %v; Tell: %d", home, homeE, homeAgain, e)
		}
		if !sameBits(whole(l), kept) {
			t.Fatalf("an argument, or the room behind it: %v, not %v", whole(l), kept)
		}
		spoil(l, entry(66, 66, 66))
		if !sameNews(again, want) {
			t.Fatalf("two answers share, or differ, or an argument is kept: %v, not %v", again, want)
		}
	}
}

// R3: nil and the empty list are the same; beside an error there is nothing.
func TestNilAndEmpty(t *testing.T) {
	marks(t, 1, []api.Heard{}, 5, nil, api.OK)
	marks(t, 1, list(api.Heard{From: 2, Weight: 1, News: []api.News{}}), 5, nil, api.OK)
	homes(t, 1, false, []api.Entry{}, api.Home{Id: 1, Radius: inf}, api.OK)
	tells(t, 1, false, []api.Entry{}, nil, api.OK)
	tells(t, 1, true, []api.Entry{}, list(mark(1, 0)), api.OK)
}
