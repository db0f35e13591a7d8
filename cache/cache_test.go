package cache_test

import (
	"fmt"
	"math"
	"math/rand/v2"
	"reflect"
	"slices"
	"testing"

	"beacon/api"
	"beacon/cache"
)

var inf = math.Inf(1)

// far is the greatest distance that is not too far.
const far = api.MaxLimit - 0.25

func mark(dest int, dist float64) api.News {
	return api.News{Dest: dest, Kind: api.EntryMark, Dist: dist}
}

func ball(dest int, dist, radius float64, home int) api.News {
	return api.News{Dest: dest, Kind: api.EntryBall, Dist: dist, Radius: radius, Home: home}
}

func gone(kind, dest int) api.News { return api.News{Dest: dest, Kind: kind, Dist: inf} }

func list(l ...api.News) []api.News { return l }

func heard(from int, weight float64, news ...api.News) api.Heard {
	return api.Heard{From: from, Weight: weight, News: news}
}

// noNumbers is what is no number of a router.
func noNumbers() []int {
	return []int{0, -1, -2, math.MinInt, api.MaxId + 1, 1<<32 + 1, math.MaxInt}
}

// refused is a weight that may not be, and why.
type refused struct {
	weight float64
	e      api.Errno
}

func wrongWeights() []refused {
	return []refused{
		{math.NaN(), api.ErrNaN}, {inf, api.ErrInf}, {-inf, api.ErrInf}, {math.Copysign(0, -1), api.ErrSign}, {-1, api.ErrSign},
		{0, api.ErrLow}, {0.75, api.ErrLow}, {api.MaxWeight + 0.25, api.ErrHigh}, {1.1, api.ErrQuarter},
	}
}

// wrongNews is what may not be, wherever it stands.
func wrongNews() []api.News {
	negZero := math.Copysign(0, -1)
	l := []api.News{
		{}, {Dest: 1, Dist: 1}, {Dest: 1, Kind: -1, Dist: 1}, {Dest: 1, Kind: api.EntryFlock, Dist: 1}, {Dest: 1, Kind: math.MaxInt, Dist: 1},
		{Dest: 1, Kind: 1, Dist: 1, Home: 1}, {Dest: 1, Kind: 1, Dist: 1, Radius: 1}, {Dest: 1, Kind: 1, Dist: 1, Radius: negZero},
		{Dest: 1, Kind: 1, Dist: inf, Home: 1}, {Dest: 1, Kind: 2, Dist: inf, Radius: 1, Home: 1}, {Dest: 1, Kind: 2, Dist: inf, Radius: inf},
		ball(1, 1, 1, 0), ball(1, 1, 0, 0), ball(1, 1, inf, 1), ball(1, 1, negZero, 1), ball(1, 1, 0.1, 1),
		ball(1, 1, api.MaxLimit, 1), ball(1, 1, -1, 1), ball(1, 1, math.NaN(), 1), ball(1, 1, -inf, 1),
	}
	for _, id := range noNumbers() {
		l = append(l, mark(id, 1), ball(id, 1, 2, 1), gone(1, id), gone(2, id))
		if id != 0 {
			l = append(l, ball(1, 1, 2, id))
		}
	}
	for _, d := range []float64{negZero, -1, -inf, math.NaN(), 0.1, 0.3, api.MaxLimit, api.MaxLimit + 1, math.MaxFloat64, math.SmallestNonzeroFloat64} {
		l = append(l, mark(1, d), ball(1, d, 2, 1))
	}
	return l
}

// with is a cache that has those.
func with(t *testing.T, l ...api.Heard) *cache.Cache {
	t.Helper()
	c := cache.New()
	for _, h := range l {
		adds(t, c, h.From, h.Weight, api.OK)
		learns(t, c, h.From, h.News, len(h.News))
	}
	return c
}

func adds(t *testing.T, c *cache.Cache, id int, weight float64, want api.Errno) {
	t.Helper()
	if e := c.Add(id, weight); e != want {
		t.Fatalf("Add(%d, %v): %d, not %d", id, weight, e, want)
	}
}

func weighs(t *testing.T, c *cache.Cache, id int, weight float64, want api.Errno) {
	t.Helper()
	if e := c.Weigh(id, weight); e != want {
		t.Fatalf("Weigh(%d, %v): %d, not %d", id, weight, e, want)
	}
}

func removes(t *testing.T, c *cache.Cache, id int, want api.Errno) {
	t.Helper()
	if e := c.Remove(id); e != want {
		t.Fatalf("Remove(%d): %d, not %d", id, e, want)
	}
}

func learns(t *testing.T, c *cache.Cache, id int, news []api.News, want int) {
	t.Helper()
	if n, e := c.Learn(id, news); n != want || e != api.OK {
		t.Fatalf("Learn(%d, %s): %d, %d, not %d, 0", id, short(news), n, e, want)
	}
}

func forgets(t *testing.T, c *cache.Cache, id int, want int) {
	t.Helper()
	if n, e := c.Forget(id); n != want || e != api.OK {
		t.Fatalf("Forget(%d): %d, %d, not %d, 0", id, n, e, want)
	}
}

// learnsNot: an error and nothing else, and nothing is changed.
func learnsNot(t *testing.T, c *cache.Cache, id int, news []api.News, want api.Errno) {
	t.Helper()
	ahead := c.All()
	if n, e := c.Learn(id, news); n != 0 || e != want {
		t.Fatalf("Learn(%d, %s): %d, %d, not 0, %d", id, short(news), n, e, want)
	}
	has(t, c, ahead...)
}

// isNone: that is no neighbour, whatever is asked of it.
func isNone(t *testing.T, c *cache.Cache, id int) {
	t.Helper()
	ahead := c.All()
	weighs(t, c, id, 1, api.ErrNone)
	removes(t, c, id, api.ErrNone)
	learnsNot(t, c, id, nil, api.ErrNone)
	learnsNot(t, c, id, list(mark(7, 1)), api.ErrNone)
	learnsNot(t, c, id, wrongNews(), api.ErrNone)
	if n, e := c.Forget(id); n != 0 || e != api.ErrNone {
		t.Fatalf("Forget(%d): %d, %d, not 0, ErrNone", id, n, e)
	}
	if l, e := c.List(id); len(l) != 0 || e != api.ErrNone {
		t.Fatalf("List(%d): %v, %d, not nothing, ErrNone", id, l, e)
	}
	has(t, c, ahead...)
}

func short(v any) string {
	s := fmt.Sprintf("%+v", v)
	return s[:min(len(s), 600)]
}

// same holds what is told against what ought to be; an empty list is as good as nil.
func same(a, b []api.Heard) bool {
	return slices.EqualFunc(a, b, func(a, b api.Heard) bool {
		return a.From == b.From && a.Weight == b.Weight && slices.Equal(a.News, b.News)
	})
}

// has: a cache tells these, in every way.
func has(t *testing.T, c *cache.Cache, want ...api.Heard) {
	t.Helper()
	if got := c.All(); !same(got, want) {
		t.Fatalf("All: %s, not %s", short(got), short(want))
	}
	for _, h := range want {
		if l, e := c.List(h.From); !slices.Equal(l, h.News) || e != api.OK {
			t.Fatalf("List(%d): %s, %d, not %s, 0", h.From, short(l), e, short(h.News))
		}
	}
	for kind := 1; kind <= 2; kind++ {
		var dests []int
		for _, h := range want {
			for _, n := range h.News {
				if n.Kind == kind {
					dests = append(dests, n.Dest)
				}
			}
		}
		slices.Sort(dests)
		if got := c.Dests(kind); !slices.Equal(got, slices.Compact(dests)) {
			t.Fatalf("Dests(%d): %v, not %v", kind, got, slices.Compact(dests))
		}
	}
}

func offers(t *testing.T, c *cache.Cache, kind, dest int, want ...api.Heard) {
	t.Helper()
	if got := c.Offers(kind, dest); !same(got, want) {
		t.Fatalf("Offers(%d, %d): %s, not %s", kind, dest, short(got), short(want))
	}
}

// The chapter's example.
func TestExample(t *testing.T) {
	c := cache.New()
	adds(t, c, 2, 1.5, api.OK)
	learns(t, c, 2, list(mark(7, 3)), 1)
	learns(t, c, 2, list(mark(7, 3)), 0)
	offers(t, c, api.EntryMark, 7, heard(2, 1.5, mark(7, 3)))
	learns(t, c, 2, list(gone(api.EntryMark, 7)), 1)
	if l := c.Dests(api.EntryMark); len(l) != 0 {
		t.Fatalf("Dests: %v", l)
	}
	has(t, c, heard(2, 1.5))
}

// Ca1: a new cache has no neighbours.
func TestNew(t *testing.T) {
	c := cache.New()
	has(t, c)
	for _, id := range append(noNumbers(), 1, 2, api.MaxId) {
		isNone(t, c, id)
	}
	for _, kind := range []int{-1, 0, 1, 2, 3} {
		offers(t, c, kind, 1)
		if l := c.Dests(kind); len(l) != 0 {
			t.Fatalf("Dests(%d): %v", kind, l)
		}
	}
}

// Ca1: a router that is added is a neighbour with the empty list; what Add refuses, and in which order.
func TestAdd(t *testing.T) {
	c := cache.New()
	adds(t, c, api.MaxId, 1, api.OK)
	adds(t, c, 1, api.MaxWeight, api.OK)
	adds(t, c, 5, 2.25, api.OK)
	want := []api.Heard{heard(1, api.MaxWeight), heard(5, 2.25), heard(api.MaxId, 1)}
	has(t, c, want...)
	for _, x := range wrongWeights() {
		for _, id := range []int{1, 2, 5, api.MaxId} { // a neighbour or none: the weight is told ahead
			adds(t, c, id, x.weight, x.e)
		}
		for _, id := range noNumbers() {
			adds(t, c, id, x.weight, api.ErrId)
		}
	}
	for _, id := range noNumbers() {
		adds(t, c, id, 1, api.ErrId)
	}
	for _, id := range []int{1, 5, api.MaxId} {
		adds(t, c, id, 7, api.ErrTwice)
	}
	has(t, c, want...)
}

// Ca1: as many neighbours as may be, and no more; all other errors are told ahead of that.
func TestFull(t *testing.T) {
	c := cache.New()
	var want []api.Heard
	for i := range api.MaxNodes {
		adds(t, c, 3*i+1, 1+float64(i)/4, api.OK)
		want = append(want, heard(3*i+1, 1+float64(i)/4))
	}
	has(t, c, want...)
	adds(t, c, 2, 1, api.ErrFull)
	adds(t, c, api.MaxId, 1, api.ErrFull)
	adds(t, c, 4, 1, api.ErrTwice)
	adds(t, c, 0, 1, api.ErrId)
	adds(t, c, 2, 0, api.ErrLow)
	has(t, c, want...)

	removes(t, c, 4, api.OK)
	adds(t, c, 2, 9, api.OK)
	adds(t, c, 4, 9, api.ErrFull)
	want[1] = heard(2, 9)
	has(t, c, want...)
}

// Ca1: another weight; the list stays. What may be no weight is told ahead of a neighbour that is none.
func TestWeigh(t *testing.T) {
	c := with(t, heard(2, 1, mark(7, 3)), heard(5, 2))
	weighs(t, c, 2, api.MaxWeight, api.OK)
	has(t, c, heard(2, api.MaxWeight, mark(7, 3)), heard(5, 2))
	offers(t, c, api.EntryMark, 7, heard(2, api.MaxWeight, mark(7, 3)))
	weighs(t, c, 2, 1.25, api.OK)
	weighs(t, c, 5, 2, api.OK)
	for _, x := range wrongWeights() {
		for _, id := range append(noNumbers(), 2, 5, 6) {
			weighs(t, c, id, x.weight, x.e)
		}
	}
	for _, id := range append(noNumbers(), 1, 6, 7, api.MaxId) {
		weighs(t, c, id, 1, api.ErrNone)
	}
	has(t, c, heard(2, 1.25, mark(7, 3)), heard(5, 2))
}

// Ca1: a neighbour that is removed is none any more; if it comes again, it has the empty list and its new weight.
func TestRemove(t *testing.T) {
	c := with(t, heard(2, 1, mark(7, 3)), heard(5, 2, mark(7, 1), ball(8, 1, 2, 3)), heard(9, 4, mark(1, 0)))
	removes(t, c, 5, api.OK)
	has(t, c, heard(2, 1, mark(7, 3)), heard(9, 4, mark(1, 0)))
	offers(t, c, api.EntryMark, 7, heard(2, 1, mark(7, 3)))
	offers(t, c, api.EntryBall, 8)
	for _, id := range append(noNumbers(), 5, 7, 8, api.MaxId) {
		isNone(t, c, id)
	}
	adds(t, c, 5, 3, api.OK)
	has(t, c, heard(2, 1, mark(7, 3)), heard(5, 3), heard(9, 4, mark(1, 0)))
	learns(t, c, 5, list(mark(7, 1)), 1)
	removes(t, c, 2, api.OK)
	removes(t, c, 5, api.OK)
	removes(t, c, 9, api.OK)
	has(t, c)
}

// Ca2: of each destination that news name: that, or nothing; of all others what there was. All lists and all news of three destinations, of which two have one Dest.
func TestMerge(t *testing.T) {
	values := [][]api.News{
		{mark(7, 0), mark(7, 3)},
		{ball(6, 1, 2, 9), ball(6, 1, inf, 0)},
		{ball(7, 1, 2, 9), ball(7, 1, 2, 8)},
	}
	over := []api.News{gone(1, 7), gone(2, 6), gone(2, 7)}
	for ways := range 12 * 12 * 12 {
		var had, news, want []api.News
		changed := 0
		for i, left := 0, ways; i < 3; i, left = i+1, left/12 {
			old, now := left%3, left/3%4 // 0: none; 1, 2: of these values; 3: it is gone
			if old > 0 {
				had = append(had, values[i][old-1])
			}
			switch {
			case now == 0:
				now = old
			case now == 3:
				news, now = append(news, over[i]), 0
			default:
				news = append(news, values[i][now-1])
			}
			if now > 0 {
				want = append(want, values[i][now-1])
			}
			if now != old {
				changed++
			}
		}
		c := with(t, heard(4, 1, had...), heard(5, 1, had...))
		learns(t, c, 4, news, changed)
		has(t, c, heard(4, 1, want...), heard(5, 1, had...))
		learns(t, c, 4, news, 0) // Ca4
		has(t, c, heard(4, 1, want...), heard(5, 1, had...))
	}
}

// Ca2: any part of News makes it another one.
func TestAnotherNews(t *testing.T) {
	first := ball(7, 1, 2, 9)
	for _, other := range []api.News{ball(7, 1.25, 2, 9), ball(7, 1, 2.25, 9), ball(7, 1, 2, 8), ball(7, 1, inf, 0)} {
		c := with(t, heard(2, 1, first))
		learns(t, c, 2, list(other), 1)
		has(t, c, heard(2, 1, other))
		learns(t, c, 2, list(first), 1)
		has(t, c, heard(2, 1, first))
	}
}

// Ca2: news at the edges of what may be.
func TestEdgeNews(t *testing.T) {
	l := []api.News{
		mark(1, 0), mark(2, 0.25), mark(3, far), mark(api.MaxId, 1),
		ball(1, 0, 0, 1), ball(2, 0.25, inf, 0), ball(3, far, far, api.MaxId), ball(api.MaxId, 1, 0.25, 1),
	}
	c := with(t, heard(2, 1, l...))
	has(t, c, heard(2, 1, l...))
	for i, n := range l {
		learns(t, c, 2, list(gone(n.Kind, n.Dest)), 1)
		learns(t, c, 2, list(gone(n.Kind, n.Dest)), 0)
		has(t, c, heard(2, 1, l[i+1:]...))
	}
	learns(t, c, 2, nil, 0)
	learns(t, c, 2, []api.News{}, 0)
	has(t, c, heard(2, 1))
}

// Ca2: what may not be told, wherever it stands; nothing of it is learnt.
func TestWrongNews(t *testing.T) {
	c := with(t, heard(2, 1, mark(7, 3), ball(8, 1, 2, 9)), heard(5, 1))
	for _, wrong := range wrongNews() {
		learnsNot(t, c, 2, list(wrong), api.ErrArg)
		learnsNot(t, c, 2, list(wrong, mark(9, 1)), api.ErrArg)
		learnsNot(t, c, 5, list(mark(7, 4), wrong), api.ErrArg)
		learnsNot(t, c, 5, list(mark(7, 4), wrong, ball(9, 1, 2, 3)), api.ErrArg)
		learnsNot(t, c, 6, list(wrong), api.ErrNone)
	}
	for _, l := range [][]api.News{
		{mark(7, 1), mark(7, 1)}, {mark(7, 1), mark(7, 2)}, {mark(7, 1), gone(1, 7)}, {gone(1, 7), mark(7, 1)}, {gone(2, 7), gone(2, 7)},
		{mark(8, 1), mark(7, 1)}, {ball(8, 1, 2, 3), ball(7, 1, 2, 3)}, {ball(7, 1, 2, 3), mark(7, 1)}, {ball(7, 1, 2, 3), mark(8, 1)},
		{mark(1, 1), mark(3, 1), mark(2, 1)}, {mark(1, 1), ball(1, 1, 2, 3), mark(2, 1)}, {mark(api.MaxId, 1), mark(1, 1)},
	} {
		learnsNot(t, c, 2, l, api.ErrArg)
		learnsNot(t, c, 5, l, api.ErrArg)
		learnsNot(t, c, 6, l, api.ErrNone)
	}
}

// many is n of a kind, from a Dest on.
func many(n, first int, dist float64) []api.News {
	l := make([]api.News, n)
	for i := range l {
		l[i] = mark(first+i, dist)
	}
	return l
}

// Ca2: news may be more than one advert holds, and what is wrong is found wherever it is.
func TestManyNews(t *testing.T) {
	for _, n := range []int{api.MaxNews - 1, api.MaxNews, api.MaxNews + 1, 2*api.MaxNews - 1, 2 * api.MaxNews, 2*api.MaxNews + 1, 5000} {
		c := with(t, heard(2, 1, many(n, 1, 3)...))
		has(t, c, heard(2, 1, many(n, 1, 3)...))
		learns(t, c, 2, many(n, 1, 3), 0)
		learns(t, c, 2, many(n, n/2+1, 4), n)
		learns(t, c, 2, many(n, 1, inf), n)
		forgets(t, c, 2, n/2)
	}
	c := with(t, heard(2, 1, mark(7, 3)))
	for i := range 3 * api.MaxNews {
		l := many(3*api.MaxNews, 1, 3)
		l[i].Home = 1
		if n, e := c.Learn(2, l); n != 0 || e != api.ErrArg {
			t.Fatalf("the %d-th wrong: %d, %d", i, n, e)
		}
		l[i].Home, l[i].Dest = 0, max(i, 1)
		if n, e := c.Learn(2, l); i > 0 && (n != 0 || e != api.ErrArg) {
			t.Fatalf("the %d-th once more: %d, %d", i, n, e)
		}
		if i > 0 {
			has(t, c, heard(2, 1, mark(7, 3)))
		} else {
			c = with(t, heard(2, 1, mark(7, 3)))
		}
	}
}

// Ca2: how many there were; and Ca4: behind it the list is what is learnt from then on.
func TestForget(t *testing.T) {
	c := with(t, heard(2, 1, mark(7, 3), ball(7, 1, 2, 9)), heard(5, 1, mark(7, 3)))
	forgets(t, c, 2, 2)
	has(t, c, heard(2, 1), heard(5, 1, mark(7, 3)))
	forgets(t, c, 2, 0)
	learns(t, c, 2, list(gone(1, 7)), 0)
	learns(t, c, 2, list(gone(1, 7), ball(6, 1, 2, 9)), 1)
	learns(t, c, 2, list(mark(7, 3)), 1)
	has(t, c, heard(2, 1, mark(7, 3), ball(6, 1, 2, 9)), heard(5, 1, mark(7, 3)))
	forgets(t, c, 2, 2)
	forgets(t, c, 5, 1)
	has(t, c, heard(2, 1), heard(5, 1))
	for _, id := range append(noNumbers(), 1, 7) {
		isNone(t, c, id)
	}
}

// Ca3: offers of each destination alone, by rising numbers of neighbours, and destinations each once.
func TestOffers(t *testing.T) {
	c := cache.New()
	adds(t, c, 9, 4, api.OK)
	adds(t, c, 2, 1, api.OK)
	adds(t, c, api.MaxId, 3, api.OK)
	adds(t, c, 5, 2, api.OK)
	learns(t, c, api.MaxId, list(mark(7, 6), mark(8, 1)), 2)
	learns(t, c, 9, list(mark(6, 1), ball(7, 2, 3, 1)), 2)
	learns(t, c, 2, list(mark(5, 1), mark(7, 0), ball(6, 1, inf, 0), ball(7, 1, 2, 3)), 4)
	has(t, c, heard(2, 1, mark(5, 1), mark(7, 0), ball(6, 1, inf, 0), ball(7, 1, 2, 3)), heard(5, 2), heard(9, 4, mark(6, 1), ball(7, 2, 3, 1)), heard(api.MaxId, 3, mark(7, 6), mark(8, 1)))
	offers(t, c, api.EntryMark, 7, heard(2, 1, mark(7, 0)), heard(api.MaxId, 3, mark(7, 6)))
	offers(t, c, api.EntryBall, 7, heard(2, 1, ball(7, 1, 2, 3)), heard(9, 4, ball(7, 2, 3, 1)))
	offers(t, c, api.EntryMark, 6, heard(9, 4, mark(6, 1)))
	offers(t, c, api.EntryBall, 6, heard(2, 1, ball(6, 1, inf, 0)))
	offers(t, c, api.EntryMark, 5, heard(2, 1, mark(5, 1)))
	for _, kind := range []int{0, -1, api.EntryFlock, math.MinInt, math.MaxInt, 1<<32 + 1} {
		offers(t, c, kind, 7)
		if l := c.Dests(kind); len(l) != 0 {
			t.Fatalf("Dests(%d): %v", kind, l)
		}
	}
	for _, dest := range append(noNumbers(), 1, 4, 9, api.MaxId) {
		offers(t, c, api.EntryMark, dest)
		offers(t, c, api.EntryBall, dest)
	}
	if l := c.Dests(api.EntryMark); !slices.Equal(l, []int{5, 6, 7, 8}) {
		t.Fatalf("Dests of landmarks: %v", l)
	}
	if l := c.Dests(api.EntryBall); !slices.Equal(l, []int{6, 7}) {
		t.Fatalf("Dests of others: %v", l)
	}
}

// step does something to both, and tells what each of them said.
func step(r *rand.Rand, c *cache.Cache, m *model) (did, got, want string) {
	id := someId(r)
	var n, wantN int
	var e, wantE api.Errno
	switch x := r.IntN(12); {
	case x < 3:
		w := someWeight(r)
		did, e, wantE = fmt.Sprint("Add ", id, w), c.Add(id, w), m.add(id, w)
	case x < 4:
		w := someWeight(r)
		did, e, wantE = fmt.Sprint("Weigh ", id, w), c.Weigh(id, w), m.weigh(id, w)
	case x < 5:
		did, e, wantE = fmt.Sprint("Remove ", id), c.Remove(id), m.remove(id)
	case x < 6:
		did = fmt.Sprint("Forget ", id)
		n, e = c.Forget(id)
		wantN, wantE = m.forget(id)
	default:
		news := someTold(r)
		did = fmt.Sprintf("Learn %d %+v", id, news)
		n, e = c.Learn(id, news)
		wantN, wantE = m.learn(id, news)
	}
	return did, fmt.Sprint(n, e), fmt.Sprint(wantN, wantE)
}

// All that is promised, by steps of all kinds, held against the model.
func TestAgainstModel(t *testing.T) {
	r := rand.New(rand.NewPCG(13, 1))
	for range 400 {
		c, m := cache.New(), newModel()
		for range 60 {
			did, got, want := step(r, c, m)
			if got != want {
				t.Fatalf("%s: %s, not %s", did, got, want)
			}
			has(t, c, m.all()...)
			id := someId(r)
			l, e := c.List(id)
			wantL, wantE := m.list(id)
			if !slices.Equal(l, wantL) || e != wantE {
				t.Fatalf("%s: List(%d): %v, %d, not %v, %d", did, id, l, e, wantL, wantE)
			}
			kind, dest := r.IntN(4), pick(r, 1, 2, 3, 4, 7, api.MaxId, 0)
			offers(t, c, kind, dest, m.offers(kind, dest)...)
			if got, want := c.Dests(kind), m.dests(kind); !slices.Equal(got, want) {
				t.Fatalf("%s: Dests(%d): %v, not %v", did, kind, got, want)
			}
		}
	}
}

// The model and the layer below agree on what is wrong here, and on what is not.
func TestWrongIsWrong(t *testing.T) {
	for _, n := range wrongNews() {
		if newsMayBe(n) {
			t.Errorf("the model lets %+v be", n)
		}
	}
	for _, x := range wrongWeights() {
		if e := weightError(x.weight); e != x.e {
			t.Errorf("the model refuses %v with %d, not %d", x.weight, e, x.e)
		}
	}
}

// Ca4: what one learns of a neighbour changes no other one's list; the same news change nothing.
func TestNeighboursAreAlone(t *testing.T) {
	r := rand.New(rand.NewPCG(13, 4))
	for range 300 {
		first, other, news := someFinite(r), someFinite(r), someNews(r)
		c := with(t, heard(2, 1, first...), heard(5, 2, other...), heard(9, 3))
		if _, e := c.Learn(2, news); e != api.OK {
			t.Fatalf("Learn(%v): %d", news, e)
		}
		once, _ := c.List(2)
		has(t, c, heard(2, 1, once...), heard(5, 2, other...), heard(9, 3))
		learns(t, c, 2, news, 0)
		has(t, c, heard(2, 1, once...), heard(5, 2, other...), heard(9, 3))
		forgets(t, c, 2, len(once))
		finite := slices.DeleteFunc(slices.Clone(news), func(n api.News) bool { return n.Dist == inf })
		learns(t, c, 2, news, len(finite))
		has(t, c, heard(2, 1, finite...), heard(5, 2, other...), heard(9, 3))
	}
}

func someFinite(r *rand.Rand) []api.News {
	return slices.DeleteFunc(someNews(r), func(n api.News) bool { return n.Dist == inf })
}

// R4: caches know nothing of one another.
func TestCachesAreAlone(t *testing.T) {
	news := list(mark(7, 3), mark(8, 1))
	c, other := with(t, heard(2, 1, news...)), with(t, heard(2, 1, news...))
	empty := cache.New()
	learns(t, c, 2, list(mark(7, 4)), 1)
	weighs(t, c, 2, 5, api.OK)
	adds(t, c, 3, 1, api.OK)
	has(t, other, heard(2, 1, news...))
	has(t, empty)
	forgets(t, other, 2, 2)
	removes(t, other, 2, api.OK)
	has(t, c, heard(2, 5, mark(7, 4), mark(8, 1)), heard(3, 1))
	has(t, cache.New())
}

// R3: what is handed in is not changed, and not kept; nor is the room behind it.
func TestArgumentsStay(t *testing.T) {
	room := list(mark(7, 3), ball(8, 1, 2, 3), mark(1, 9), mark(2, 9))
	c := cache.New()
	adds(t, c, 2, 1, api.OK)
	learns(t, c, 2, room[:2], 2)
	learns(t, c, 2, list(mark(9, 1)), 1)
	learns(t, c, 2, list(gone(1, 7)), 1)
	forgets(t, c, 2, 2)
	learns(t, c, 2, room[:2], 2)
	if want := list(mark(7, 3), ball(8, 1, 2, 3), mark(1, 9), mark(2, 9)); !slices.Equal(room, want) {
		t.Fatalf("the list and its room: %v", room)
	}
	room[0], room[1] = mark(4, 4), mark(5, 5)
	has(t, c, heard(2, 1, mark(7, 3), ball(8, 1, 2, 3)))
}

// spoil writes over an answer and its spare room.
func spoil(l []api.News) {
	l = l[:cap(l)]
	for i := range l {
		l[i] = mark(77, 77)
	}
}

func spoilAll(l []api.Heard) {
	l = l[:cap(l)]
	for i := range l {
		spoil(l[i].News)
		l[i] = heard(77, 77, mark(77, 77))
	}
}

// R3: answers are new, their spare room too, and share nothing, be they of one answer or of two.
func TestAnswersAreNew(t *testing.T) {
	c := cache.New()
	var want []api.Heard
	for i := range 9 {
		id := i + 2
		adds(t, c, id, 1, api.OK)
		var news []api.News
		for dest := 1; dest <= id; dest++ {
			learns(t, c, id, list(mark(dest, 3)), 1)
			news = append(news, mark(dest, 3))
		}
		want = append(want, heard(id, 1, news...))

		all, offered, l, dests := c.All(), c.Offers(1, 1), mustList(t, c, id), c.Dests(1)
		otherAll, otherOffered, otherList, otherDests := c.All(), c.Offers(1, 1), mustList(t, c, id), c.Dests(1)
		kept := [3]string{fmt.Sprint(otherAll), fmt.Sprint(otherOffered), fmt.Sprint(otherList, otherDests)}
		spoilAll(all)
		spoilAll(offered)
		spoil(l)
		for i := range dests[:cap(dests)] {
			dests[:cap(dests)][i] = 77
		}
		if got := [3]string{fmt.Sprint(otherAll), fmt.Sprint(otherOffered), fmt.Sprint(otherList, otherDests)}; got != kept {
			t.Fatalf("two answers share: %s", short(got))
		}
		has(t, c, want...)
		learns(t, c, id, list(mark(1, 4)), 1)
		learns(t, c, id, list(mark(1, 3)), 1)
		if got := [3]string{fmt.Sprint(otherAll), fmt.Sprint(otherOffered), fmt.Sprint(otherList, otherDests)}; got != kept {
			t.Fatalf("an answer changed: %s", short(got))
		}
	}
	one := c.All()
	for i := range one {
		spoil(one[i].News)
		if i+1 < len(one) && !same(one[i+1:], want[i+1:]) {
			t.Fatalf("lists of one answer share: %s", short(one[i+1:]))
		}
	}
	one = c.Offers(1, 1)
	for i := range one {
		spoil(one[i].News)
		if i+1 < len(one) && one[i+1].News[0] != mark(1, 3) {
			t.Fatalf("lists of one answer share: %s", short(one[i+1:]))
		}
	}
}

func mustList(t *testing.T, c *cache.Cache, id int) []api.News {
	t.Helper()
	l, e := c.List(id)
	if e != api.OK {
		t.Fatalf("List(%d): %d", id, e)
	}
	return l
}

// Of a Cache that New did not give: ErrArg, nothing, 0.
func TestNotGiven(t *testing.T) {
	given := with(t, heard(2, 1, mark(7, 3)))
	twin := *given
	for name, c := range map[string]*cache.Cache{"nil": nil, "zero": {}, "a copy": &twin} {
		for range 2 { // what was refused makes none of it
			for _, id := range append(noNumbers(), 1, 2, 3) {
				for _, w := range []float64{1, 0, inf, math.NaN()} {
					adds(t, c, id, w, api.ErrArg)
					weighs(t, c, id, w, api.ErrArg)
				}
				removes(t, c, id, api.ErrArg)
				for _, news := range [][]api.News{nil, list(mark(7, 4)), wrongNews()} {
					if n, e := c.Learn(id, news); n != 0 || e != api.ErrArg {
						t.Errorf("%s: Learn(%d): %d, %d", name, id, n, e)
					}
				}
				if n, e := c.Forget(id); n != 0 || e != api.ErrArg {
					t.Errorf("%s: Forget(%d): %d, %d", name, id, n, e)
				}
				if l, e := c.List(id); len(l) != 0 || e != api.ErrArg {
					t.Errorf("%s: List(%d): %v, %d", name, id, l, e)
				}
			}
			has(t, c)
			offers(t, c, api.EntryMark, 7)
		}
	}
	has(t, given, heard(2, 1, mark(7, 3)))
}

// R1: as many neighbours as may be, with many news each, that come and go.
func TestMany(t *testing.T) {
	const n = 1000
	c := cache.New()
	for id := 1; id <= api.MaxNodes; id++ {
		adds(t, c, id, 1, api.OK)
		learns(t, c, id, many(n, 1+id, 1), n)
	}
	for range 10 {
		for id := 1; id <= api.MaxNodes; id++ {
			learns(t, c, id, list(mark(500, 2)), 1)
			learns(t, c, id, list(mark(500, 1)), 1)
		}
	}
	if l := c.Dests(1); len(l) != n+api.MaxNodes-1 || !slices.IsSorted(l) {
		t.Fatalf("Dests: %d", len(l))
	}
	if l := c.Offers(1, n+2); len(l) != api.MaxNodes-1 {
		t.Fatalf("Offers: %d", len(l))
	}
	if l := c.All(); len(l) != api.MaxNodes || !reflect.DeepEqual(l[7].News, many(n, 9, 1)) {
		t.Fatalf("All: %d", len(l))
	}
}
