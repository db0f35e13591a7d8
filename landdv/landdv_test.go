package landdv_test

import (
	"math"
	"math/rand/v2"
	"slices"
	"testing"

	"beacon/api"
	"beacon/delta"
	"beacon/landdv"
)

var inf = math.Inf(1)

// far is the greatest distance that is not too far.
const far = api.MaxLimit - 0.25

func mark(dest int, dist float64) api.News {
	return api.News{Dest: dest, Kind: api.EntryMark, Dist: dist}
}

func ball(dest int, dist, radius float64, home int) api.News {
	return api.News{Dest: dest, Kind: api.EntryBall, Dist: dist, Radius: radius, Home: home}
}

func heard(from int, weight float64, news ...api.News) api.Heard {
	return api.Heard{From: from, Weight: weight, News: news}
}

func entry(dest int, dist float64, next int) api.Entry {
	return api.Entry{Dest: dest, Kind: api.EntryMark, Dist: dist, Next: next}
}

func farMark(dest int) api.Entry { return entry(dest, inf, 0) }

func list[T any](l ...T) []T { return l }

func wrongNumbers() []int {
	return []int{0, -1, math.MinInt, api.MaxId + 1, 1<<32 + 1, math.MaxInt}
}

func wrongWeights() []float64 {
	return []float64{math.NaN(), inf, -inf, 0, math.Copysign(0, -1), -1, 0.75, 1.1, 1 << 20 * 1.25, api.MaxWeight + 0.25, math.SmallestNonzeroFloat64, math.MaxFloat64}
}

func wrongLimits() []float64 {
	return []float64{math.NaN(), inf, -inf, 0, math.Copysign(0, -1), -1, 0.75, 1.1, api.MaxLimit + 0.25, math.MaxFloat64}
}

// wrongDists is what is no distance.
func wrongDists() []float64 {
	return []float64{math.Copysign(0, -1), -1, -inf, math.NaN(), 0.1, 0.3, api.MaxLimit, api.MaxLimit + 1, math.MaxFloat64, math.SmallestNonzeroFloat64}
}

// wrongLists is what is no list.
func wrongLists() [][]api.News {
	l := [][]api.News{
		{mark(7, 1), mark(7, 1)}, {mark(7, 1), mark(7, 2)}, {mark(8, 1), mark(7, 1)}, {ball(7, 1, 2, 3), mark(7, 1)}, {ball(7, 1, 2, 3), mark(8, 1)},
		{ball(8, 1, 2, 3), ball(7, 1, 2, 3)}, {ball(7, 1, 2, 3), ball(7, 1, 2, 3)}, {mark(7, inf)}, {mark(7, 1), mark(8, inf)}, {api.News{Dest: 7, Kind: api.EntryBall, Dist: inf}},
		{{}}, {{Dest: 7, Dist: 1}}, {{Dest: 7, Kind: -1, Dist: 1}}, {{Dest: 7, Kind: api.EntryFlock, Dist: 1}}, {{Dest: 7, Kind: math.MaxInt, Dist: 1}},
		{{Dest: 7, Kind: 1, Dist: 1, Home: 7}}, {{Dest: 7, Kind: 1, Dist: 1, Radius: 1}}, {{Dest: 7, Kind: 1, Dist: 1, Radius: math.Copysign(0, -1)}},
		{ball(7, 1, 2, 0)}, {ball(7, 1, inf, 1)}, {ball(7, 1, 0.1, 1)}, {ball(7, 1, 2, -1)}, {ball(7, 1, api.MaxLimit, 1)},
	}
	for _, id := range wrongNumbers() {
		l = append(l, list(mark(id, 1)), list(mark(7, 1), ball(id, 1, 2, 1)), list(ball(7, 1, 2, id)))
	}
	for _, d := range wrongDists() {
		l = append(l, list(mark(1, d)), list(mark(1, 1), mark(2, d)), list(ball(1, d, 2, 1)))
	}
	return l
}

// wrongMarks is what may be none, wherever it stands.
func wrongMarks() []api.Entry {
	negZero := math.Copysign(0, -1)
	l := []api.Entry{
		{}, {Dest: 5, Dist: 1, Next: 2}, {Dest: 5, Kind: -1, Dist: 1, Next: 2}, {Dest: 5, Kind: api.EntryBall, Dist: 1, Next: 2}, {Dest: 5, Kind: api.EntryFlock, Dist: 1, Next: 2},
		{Dest: 5, Kind: api.EntryBall, Dist: 1, Next: 2, Radius: 2, Home: 3}, {Dest: 5, Kind: api.EntryFlock, Dist: 1, Next: 2, Radius: 1, Home: 1}, {Dest: 5, Kind: api.EntryBall, Dist: inf},
		{Dest: 5, Kind: 1, Dist: 1, Next: 2, Home: 5}, {Dest: 5, Kind: 1, Dist: inf, Home: 5}, {Dest: 5, Kind: 1, Dist: 1, Next: 2, Home: -1},
		entry(5, 0, 2), entry(5, 0, 0), entry(5, 1, 0), entry(5, 0.25, 0), entry(5, far, 0), entry(5, inf, 2), entry(5, inf, 5), entry(5, inf, -1), entry(5, inf, api.MaxId),
	}
	for _, id := range wrongNumbers() {
		l = append(l, entry(id, 1, 2), farMark(id), entry(5, 1, id))
		if id != 0 {
			l = append(l, entry(5, inf, id))
		}
	}
	for _, d := range wrongDists() {
		l = append(l, entry(5, d, 2), entry(5, d, 0))
	}
	for _, radius := range []float64{negZero, 0.25, 1, inf, -1, math.NaN(), math.SmallestNonzeroFloat64} {
		l = append(l, api.Entry{Dest: 5, Kind: 1, Dist: 1, Next: 2, Radius: radius}, api.Entry{Dest: 5, Kind: 1, Dist: inf, Radius: radius})
	}
	return l
}

// Entries, homes and news are the same by the bits of their floats.

func sameEntry(a, b api.Entry) bool {
	return a == b && !math.Signbit(a.Dist) && !math.Signbit(b.Dist) && !math.Signbit(a.Radius) && !math.Signbit(b.Radius)
}

func sameEntries(a, b []api.Entry) bool { return slices.EqualFunc(a, b, sameEntry) }

func sameHome(a, b api.Home) bool {
	return a == b && math.Float64bits(a.Radius) == math.Float64bits(b.Radius)
}

func sameNews(a, b []api.News) bool {
	return slices.EqualFunc(a, b, func(a, b api.News) bool {
		return a == b && math.Float64bits(a.Dist) == math.Float64bits(b.Dist) && math.Float64bits(a.Radius) == math.Float64bits(b.Radius)
	})
}

func checks(t *testing.T, self int, l []api.Heard, want api.Errno) {
	t.Helper()
	if e := landdv.Check(self, l); e != want {
		t.Fatalf("Check(%d, %v): %d, not %d", self, l, e, want)
	}
}

func marks(t *testing.T, self int, l []api.Heard, max float64, want []api.Entry, wantE api.Errno) {
	t.Helper()
	if got, e := landdv.Marks(self, l, max); !sameEntries(got, want) || e != wantE {
		t.Fatalf("Marks(%d, %v, %v): %v, %d, not %v, %d", self, l, max, got, e, want, wantE)
	}
}

func homes(t *testing.T, self int, isMark bool, l []api.Entry, want api.Home, wantE api.Errno) {
	t.Helper()
	if got, e := landdv.Home(self, isMark, l); !sameHome(got, want) || e != wantE {
		t.Fatalf("Home(%d, %v, %v): %v, %d, not %v, %d", self, isMark, l, got, e, want, wantE)
	}
}

func tells(t *testing.T, self int, isMark bool, l []api.Entry, want []api.News, wantE api.Errno) {
	t.Helper()
	if got, e := landdv.Tell(self, isMark, l); !sameNews(got, want) || e != wantE {
		t.Fatalf("Tell(%d, %v, %v): %v, %d, not %v, %d", self, isMark, l, got, e, want, wantE)
	}
}

// refusesMarks: Home and Tell refuse the same.
func refusesMarks(t *testing.T, self int, l []api.Entry, want api.Errno) {
	t.Helper()
	for _, isMark := range []bool{false, true} {
		homes(t, self, isMark, l, api.Home{}, want)
		tells(t, self, isMark, l, nil, want)
	}
}

// The chapter's examples 1 and 2.
func TestExamples(t *testing.T) {
	l := list(heard(2, 1.5, mark(7, 3)), heard(5, 1, mark(7, 3.5)))
	marks(t, 1, l, 10, list(entry(7, 4.5, 2)), api.OK)
	marks(t, 1, l, 4, list(farMark(7)), api.OK)
	homes(t, 1, false, list(entry(7, 4.5, 2), entry(9, 4.5, 2)), api.Home{Id: 1, Home: 7, Radius: 4.5}, api.OK)
	homes(t, 1, false, nil, api.Home{Id: 1, Radius: inf}, api.OK)
}

// La1: what may have been heard, at the edges.
func TestCheck(t *testing.T) {
	for _, self := range []int{1, 2, 1000, api.MaxId - 1, api.MaxId} {
		checks(t, self, nil, api.OK)
		checks(t, self, []api.Heard{}, api.OK)
		checks(t, self, list(heard(77, 1)), api.OK)
		checks(t, self, list(heard(77, api.MaxWeight, mark(self, 3), ball(self, 1, 2, 9))), api.OK)
	}
	checks(t, 2, list(heard(1, 1), heard(3, 1), heard(api.MaxId, 1)), api.OK)
	checks(t, 5, list(heard(1, 1.25, mark(1, 0), mark(api.MaxId, far), ball(1, 0, 0, 1), ball(2, 0.25, inf, 0), ball(api.MaxId, far, far, api.MaxId))), api.OK)
	checks(t, 5, list(heard(1, api.MaxWeight-0.25, mark(7, 1)), heard(2, 1, mark(7, 1))), api.OK)
}

// La1: the number goes ahead of what was heard, that ahead of the limit.
func TestOrderOfErrors(t *testing.T) {
	wrong := list(heard(0, 0.5, mark(7, inf)))
	for _, self := range wrongNumbers() {
		for _, l := range [][]api.Heard{nil, {heard(2, 1, mark(7, 1))}, wrong, {heard(self, 1)}} {
			checks(t, self, l, api.ErrId)
			marks(t, self, l, 10, nil, api.ErrId)
			marks(t, self, l, math.NaN(), nil, api.ErrId)
		}
	}
	for _, max := range wrongLimits() {
		marks(t, 1, wrong, max, nil, api.ErrArg)
		marks(t, 1, nil, max, nil, limitError(max))
		marks(t, 1, list(heard(2, 1, mark(7, 1))), max, nil, limitError(max))
	}
	for _, l := range wrongLimitsByError() {
		marks(t, 1, nil, l.max, nil, l.e)
	}
}

type refused struct {
	max float64
	e   api.Errno
}

func wrongLimitsByError() []refused {
	return []refused{{math.NaN(), api.ErrNaN}, {inf, api.ErrInf}, {-inf, api.ErrInf}, {-2, api.ErrSign}, {math.Copysign(0, -1), api.ErrSign}, {0.75, api.ErrLow}, {api.MaxLimit + 0.25, api.ErrHigh}, {2.1, api.ErrQuarter}}
}

// La1: what may not have been heard, wherever it stands.
func TestWrongHeard(t *testing.T) {
	refuses := func(self int, wrong api.Heard) {
		t.Helper()
		for _, l := range [][]api.Heard{{wrong}, {heard(1, 1, mark(7, 1)), wrong}, {wrong, heard(api.MaxId, 1)}} {
			checks(t, self, l, api.ErrArg)
			marks(t, self, l, 10, nil, api.ErrArg)
		}
	}
	for _, from := range append(wrongNumbers(), 5) {
		refuses(5, heard(from, 1, mark(7, 1)))
	}
	refuses(5, heard(5, 1))
	refuses(5, api.Heard{})
	for _, w := range wrongWeights() {
		refuses(5, heard(3, w, mark(7, 1)))
	}
	for _, l := range wrongLists() {
		refuses(5, heard(3, 1, l...))
	}
	for _, froms := range [][]int{{2, 2}, {3, 2}, {1, 3, 2}, {1, 2, 2}, {2, 2, 3}, {1, api.MaxId, 2}, {1, 2, 3, 1}, {4, 6, 5}, {6, 4}} {
		var l []api.Heard
		for _, from := range froms {
			l = append(l, heard(from, 1, mark(7, 1)))
		}
		checks(t, 9, l, api.ErrArg)
		marks(t, 9, l, 10, nil, api.ErrArg)
	}
	for _, self := range []int{1, 2, 3} {
		checks(t, self, list(heard(1, 1), heard(2, 1), heard(3, 1)), api.ErrArg)
	}
}

// La1: what is wrong is found wherever it stands, in lists longer than an advert holds; what is right is heard, however long.
func TestLongLists(t *testing.T) {
	const n = 2*api.MaxNews + 10
	long := make([]api.News, n)
	var want []api.Entry
	for i := range long {
		long[i] = mark(i+2, float64(i%3))
		want = append(want, entry(i+2, float64(i%3)+1, 1))
	}
	marks(t, 9999, list(heard(1, 1, long...)), 10, want, api.OK)
	for i := range long {
		l := slices.Clone(long)
		l[i].Dist = inf
		checks(t, 9999, list(heard(1, 1, l...)), api.ErrArg)
		l[i] = mark(i+1, 1) // as the one ahead of it
		if i > 0 {
			checks(t, 9999, list(heard(1, 1, l...)), api.ErrArg)
		}
	}
}

// La1: the least sum is the distance; of as near ones the least From is next.
func TestNearest(t *testing.T) {
	l := list(heard(2, 2, mark(7, 3)), heard(3, 1, mark(7, 4)), heard(4, 1.5, mark(7, 3.25)), heard(6, 1.25, mark(7, 3.5)))
	marks(t, 1, l, 10, list(entry(7, 4.75, 4)), api.OK)
	marks(t, 1, l[:2], 10, list(entry(7, 5, 2)), api.OK)
	marks(t, 1, l[1:2], 10, list(entry(7, 5, 3)), api.OK)
	marks(t, 1, append(slices.Clone(l), heard(8, 1, mark(7, 0))), 10, list(entry(7, 1, 8)), api.OK)
	marks(t, 1, append(slices.Clone(l), heard(8, 1, mark(8, 0)), heard(9, 2)), 10, list(entry(7, 4.75, 4), entry(8, 1, 8)), api.OK)
	marks(t, 1, list(heard(2, 1, mark(7, 0)), heard(7, 1, mark(7, 0))), 10, list(entry(7, 1, 2)), api.OK)
	marks(t, 1, list(heard(2, 1, mark(7, 0.25)), heard(7, 1, mark(7, 0))), 10, list(entry(7, 1, 7)), api.OK)
	marks(t, 1, list(heard(2, 1, mark(9, 1)), heard(3, 1, mark(5, 1)), heard(4, 1, mark(7, 1)), heard(6, 1, mark(3, 2))), 10,
		list(entry(3, 3, 6), entry(5, 2, 3), entry(7, 2, 4), entry(9, 2, 2)), api.OK)
}

// La1: oneself is none, nor what is offered as another thing.
func TestNoMark(t *testing.T) {
	l := list(heard(2, 1, mark(1, 1), mark(3, 1), ball(1, 1, 2, 3), ball(4, 0, inf, 0), ball(5, 1, 2, 3)))
	marks(t, 1, l, 10, list(entry(3, 2, 2)), api.OK)
	marks(t, 3, l, 10, list(entry(1, 2, 2)), api.OK)
	marks(t, 4, l, 10, list(entry(1, 2, 2), entry(3, 2, 2)), api.OK)
	marks(t, 1, l, 2, list(farMark(3)), api.OK)
	marks(t, 1, list(heard(2, 1, ball(3, 0, 2, 3)), heard(4, 1, mark(3, 5))), 10, list(entry(3, 6, 4)), api.OK)
	marks(t, 1, list(heard(2, 1, ball(7, 0, 2, 3)), heard(4, 1, mark(1, 0))), 10, nil, api.OK)
	marks(t, 1, list(heard(2, 1), heard(4, 1)), 10, nil, api.OK)
	marks(t, 1, nil, 10, nil, api.OK)
	marks(t, 1, nil, 1, nil, api.OK)
	marks(t, 1, nil, api.MaxLimit, nil, api.OK)
}

// La1: from the limit on it is too far, and there still.
func TestTooFar(t *testing.T) {
	l := list(heard(2, 1.5, mark(7, 2.5), mark(8, 2.25)))
	marks(t, 1, l, 4.25, list(entry(7, 4, 2), entry(8, 3.75, 2)), api.OK)
	marks(t, 1, l, 4, list(farMark(7), entry(8, 3.75, 2)), api.OK)
	marks(t, 1, l, 3.75, list(farMark(7), farMark(8)), api.OK)
	marks(t, 1, l, 1, list(farMark(7), farMark(8)), api.OK)
	marks(t, 1, list(heard(2, 1, mark(7, 0))), 1, list(farMark(7)), api.OK)
	marks(t, 1, list(heard(2, 1, mark(7, 0))), 1.25, list(entry(7, 1, 2)), api.OK)
	marks(t, 1, list(heard(2, 1, mark(7, far))), api.MaxLimit, list(farMark(7)), api.OK)
	marks(t, 1, list(heard(2, 1, mark(7, far-1))), api.MaxLimit, list(entry(7, far, 2)), api.OK)
	marks(t, 1, list(heard(2, api.MaxWeight, mark(7, far-api.MaxWeight))), api.MaxLimit, list(entry(7, far, 2)), api.OK)
	marks(t, 1, list(heard(2, api.MaxWeight, mark(7, far))), api.MaxLimit, list(farMark(7)), api.OK)
	// One that is too far by one is not by another one, whichever comes first.
	marks(t, 1, list(heard(2, 3, mark(7, 2)), heard(3, 1, mark(7, 2))), 5, list(entry(7, 3, 3)), api.OK)
	marks(t, 1, list(heard(2, 1, mark(7, 2)), heard(3, 3, mark(7, 2))), 5, list(entry(7, 3, 2)), api.OK)
	marks(t, 1, list(heard(2, 3, mark(7, 2)), heard(3, 3, mark(7, 9))), 5, list(farMark(7)), api.OK)
}

// La2: the nearest landmark, of as near ones the least; none, if all are too far.
func TestHome(t *testing.T) {
	l := list(entry(2, 3, 9), entry(3, 2.25, 9), entry(5, 2, 9), entry(7, 2, 3), farMark(8), entry(api.MaxId, 2, 1))
	homes(t, 1, false, l, api.Home{Id: 1, Home: 5, Radius: 2}, api.OK)
	homes(t, 1, false, l[:2], api.Home{Id: 1, Home: 3, Radius: 2.25}, api.OK)
	homes(t, 1, false, l[4:], api.Home{Id: 1, Home: api.MaxId, Radius: 2}, api.OK)
	homes(t, 1, false, l[4:5], api.Home{Id: 1, Radius: inf}, api.OK)
	homes(t, 1, false, list(farMark(3), farMark(4)), api.Home{Id: 1, Radius: inf}, api.OK)
	homes(t, 1, false, list(entry(3, far, 2)), api.Home{Id: 1, Home: 3, Radius: far}, api.OK)
	homes(t, 1, false, list(entry(3, 0.25, 2)), api.Home{Id: 1, Home: 3, Radius: 0.25}, api.OK)
	homes(t, api.MaxId, false, nil, api.Home{Id: api.MaxId, Radius: inf}, api.OK)
	for _, l := range [][]api.Entry{nil, l, l[4:5], {entry(3, 0.25, 2)}} {
		homes(t, 1, true, l, api.Home{Id: 1, Home: 1}, api.OK)
	}
}

// La2: what is not too far is told, and oneself in its place.
func TestTell(t *testing.T) {
	l := list(entry(2, 3, 9), farMark(3), entry(5, 0.25, 7), farMark(7), entry(9, far, 2))
	all := list(mark(2, 3), mark(5, 0.25), mark(9, far))
	for _, self := range []int{1, 4, 6, 8, 10, api.MaxId} {
		tells(t, self, false, l, all, api.OK)
		at := 0
		for at < len(all) && all[at].Dest < self {
			at++
		}
		tells(t, self, true, l, slices.Insert(slices.Clone(all), at, mark(self, 0)), api.OK)
	}
	tells(t, 4, false, nil, nil, api.OK)
	tells(t, 4, true, nil, list(mark(4, 0)), api.OK)
	tells(t, 4, false, list(farMark(3), farMark(5)), nil, api.OK)
	tells(t, 4, true, list(farMark(3), farMark(5)), list(mark(4, 0)), api.OK)
}

// La2: marks that may not be, wherever they stand; the number goes ahead of them.
func TestWrongMarks(t *testing.T) {
	for _, m := range wrongMarks() {
		refusesMarks(t, 1, list(m), api.ErrArg)
		refusesMarks(t, 1, list(entry(2, 1, 3), m), api.ErrArg)
		refusesMarks(t, 1, list(m, entry(7, 1, 3)), api.ErrArg)
		refusesMarks(t, 1, list(entry(2, 1, 3), m, farMark(7)), api.ErrArg)
	}
	for _, l := range [][]api.Entry{
		{entry(2, 1, 3), entry(2, 1, 3)}, {entry(2, 1, 3), farMark(2)}, {entry(3, 1, 3), entry(2, 1, 3)}, {farMark(api.MaxId), farMark(2)}, {entry(2, 1, 3), entry(4, 1, 3), entry(3, 1, 3)},
		{entry(1, 1, 3)}, {farMark(1)}, {entry(1, 1, 3), entry(2, 1, 3)},
	} {
		refusesMarks(t, 1, l, api.ErrArg)
	}
	refusesMarks(t, 5, list(entry(2, 1, 3), entry(5, 1, 3), entry(6, 1, 3)), api.ErrArg)
	refusesMarks(t, 6, list(entry(2, 1, 3), entry(5, 1, 3), farMark(6)), api.ErrArg)
	for _, self := range wrongNumbers() {
		for _, l := range [][]api.Entry{nil, {entry(2, 1, 3)}, {entry(2, 1, 0)}, {farMark(self)}} {
			refusesMarks(t, self, l, api.ErrId)
		}
	}
}

// La2: marks at the edges of what may be.
func TestMarksThatMayBe(t *testing.T) {
	for _, l := range [][]api.Entry{
		{entry(1, 0.25, 1)}, {entry(api.MaxId, far, api.MaxId)}, {farMark(1)}, {farMark(api.MaxId)}, {entry(3, 1, 4)}, {entry(3, 1, 3)}, {entry(1, 1, 2), farMark(2), entry(api.MaxId, 2.75, 1)},
	} {
		for _, isMark := range []bool{false, true} {
			wantHome, _ := modelHome(4, isMark, l)
			wantNews, _ := modelTell(4, isMark, l)
			homes(t, 4, isMark, l, wantHome, api.OK)
			tells(t, 4, isMark, l, wantNews, api.OK)
		}
	}
}

// La2: more marks than an advert holds; a wrong one is found among them.
func TestManyMarks(t *testing.T) {
	var l []api.Entry
	var want []api.News
	for i := range 1500 {
		l = append(l, entry(2*i+1, float64(1500-i), 7))
		want = append(want, mark(2*i+1, float64(1500-i)))
	}
	homes(t, 3000, false, l, api.Home{Id: 3000, Home: 2999, Radius: 1}, api.OK)
	tells(t, 1000, true, l, slices.Insert(want, 500, mark(1000, 0)), api.OK)
	for i := range l {
		kept := l[i]
		l[i].Next = 0
		refusesMarks(t, 3000, l, api.ErrArg)
		l[i] = kept
	}
}

// La1, La2: held against the model.
func TestAgainstModel(t *testing.T) {
	r := rand.New(rand.NewPCG(15, 1))
	for range 60000 {
		self := pick(r, someIds...)
		if r.IntN(30) == 0 {
			self = pick(r, wrongNumbers()...)
		}
		l, max := anyHeard(r, self), anyLimit(r)
		checks(t, self, l, modelCheck(self, l))
		want, e := modelMarks(self, l, max)
		marks(t, self, l, max, want, e)

		known, isMark := anyMarks(r, self), r.IntN(2) == 0
		wantHome, e := modelHome(self, isMark, known)
		homes(t, self, isMark, known, wantHome, e)
		wantNews, e := modelTell(self, isMark, known)
		tells(t, self, isMark, known, wantNews, e)
	}
}

// What follows of La1 and La2: what Marks tells may be, and what Tell tells is a list.
func TestWhatIsToldMayBe(t *testing.T) {
	r := rand.New(rand.NewPCG(15, 2))
	for range 20000 {
		self, isMark := pick(r, someIds...), r.IntN(2) == 0
		l, e := landdv.Marks(self, someHeard(r, self), pick(r, 1, 2.75, 4, api.MaxLimit))
		if e != api.OK || !marksMayBe(self, l) {
			t.Fatalf("Marks: %v, %d", l, e)
		}
		if _, e := landdv.Home(self, isMark, l); e != api.OK {
			t.Fatalf("Home(%d, %v, %v): %d", self, isMark, l, e)
		}
		news, e := landdv.Tell(self, isMark, l)
		if e != api.OK || delta.Check(api.Out{Acked: news}) != api.OK {
			t.Fatalf("Tell(%d, %v, %v): %v, %d", self, isMark, l, news, e)
		}
	}
}

// The model takes for wrong what is wrong here.
func TestWrongIsWrong(t *testing.T) {
	for _, w := range wrongWeights() {
		if weightMayBe(w) {
			t.Errorf("the model lets the weight %v be", w)
		}
	}
	for _, max := range wrongLimits() {
		if limitError(max) == api.OK {
			t.Errorf("the model lets the limit %v be", max)
		}
	}
	for _, l := range wrongLists() {
		if modelList(l) {
			t.Errorf("the model lets %v be", l)
		}
	}
	for _, m := range wrongMarks() {
		if marksMayBe(1, list(m)) {
			t.Errorf("the model lets %v be", m)
		}
	}
}
