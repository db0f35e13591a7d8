package delta_test

import (
	"fmt"
	"math"
	"math/rand/v2"
	"slices"
	"testing"

	"beacon/api"
	"beacon/delta"
)

var inf = math.Inf(1)

// far is the greatest distance that is not too far.
const far = api.MaxLimit - 0.25

// last is the greatest number of an advert.
const last = math.MaxUint64

func mark(dest int, dist float64) api.News {
	return api.News{Dest: dest, Kind: api.EntryMark, Dist: dist}
}

func ball(dest int, dist, radius float64, home int) api.News {
	return api.News{Dest: dest, Kind: api.EntryBall, Dist: dist, Radius: radius, Home: home}
}

func gone(kind, dest int) api.News { return api.News{Dest: dest, Kind: kind, Dist: inf} }

func list(l ...api.News) []api.News { return l }

// marks is n landmarks, from a Dest on.
func marks(n, first int, dist float64) []api.News {
	l := make([]api.News, n)
	for i := range l {
		l[i] = mark(first+i, dist)
	}
	return l
}

func resting(seq uint64, acked ...api.News) api.Out { return api.Out{Seq: seq, Acked: acked} }

func flying(seq uint64, age int, acked, sent []api.News) api.Out {
	return api.Out{Seq: seq, Acked: acked, Sent: sent, Flying: true, Age: age}
}

func short(v any) string {
	s := fmt.Sprintf("%+v", v)
	return s[:min(len(s), 600)]
}

func sameNews(a, b []api.News) bool {
	return slices.EqualFunc(a, b, func(a, b api.News) bool { return partsOf(a) == partsOf(b) })
}

func sameOut(a, b api.Out) bool {
	return a.Seq == b.Seq && a.Flying == b.Flying && a.Age == b.Age && sameNews(a.Acked, b.Acked) && sameNews(a.Sent, b.Sent)
}

// wrongNews is what may not be, wherever it stands.
func wrongNews() []api.News {
	negZero := math.Copysign(0, -1)
	l := []api.News{
		{}, {Dest: 1, Dist: 1}, {Dest: 1, Kind: -1, Dist: 1}, {Dest: 1, Kind: api.EntryFlock, Dist: 1}, {Dest: 1, Kind: math.MaxInt, Dist: 1},
		{Dest: 1, Kind: 1, Dist: 1, Home: 1}, {Dest: 1, Kind: 1, Dist: 1, Radius: 1}, {Dest: 1, Kind: 1, Dist: 1, Radius: negZero},
		{Dest: 1, Kind: 1, Dist: inf, Home: 1}, {Dest: 1, Kind: 2, Dist: inf, Radius: 1, Home: 1}, {Dest: 1, Kind: 2, Dist: inf, Radius: inf},
		ball(1, 1, 1, 0), ball(1, 1, 0, 0), ball(1, 1, inf, 1), ball(1, 1, negZero, 1), ball(1, 1, 0.1, 1),
		ball(1, 1, api.MaxLimit, 1), ball(1, 1, -1, 1), ball(1, 1, math.NaN(), 1), ball(1, 1, -inf, 1),
	}
	for _, id := range []int{0, -1, -2, math.MinInt, api.MaxId + 1, 1<<32 + 1, math.MaxInt} {
		l = append(l, mark(id, 1), ball(id, 1, 2, 1), gone(1, id), gone(2, id))
		if id != 0 {
			l = append(l, ball(1, 1, 2, id))
		}
	}
	for _, d := range []float64{negZero, -1, -inf, math.NaN(), 0.1, 0.3, api.MaxLimit, api.MaxLimit + 1, math.MaxFloat64, math.SmallestNonzeroFloat64} {
		l = append(l, mark(1, d), ball(1, d, 2, 1))
	}
	return l
}

// wrongLists is what may be neither a list nor news.
func wrongLists() [][]api.News {
	l := [][]api.News{
		{mark(7, 1), mark(7, 1)}, {mark(7, 1), mark(7, 2)}, {mark(8, 1), mark(7, 1)}, {mark(api.MaxId, 1), mark(1, 1)},
		{ball(8, 1, 2, 3), ball(7, 1, 2, 3)}, {ball(7, 1, 2, 3), ball(7, 1, 2, 3)}, {ball(7, 1, 2, 3), mark(7, 1)}, {ball(7, 1, 2, 3), mark(8, 1)},
		{mark(1, 1), mark(3, 1), mark(2, 1)}, {mark(1, 1), ball(1, 1, 2, 3), mark(2, 1)}, {mark(7, 1), gone(1, 7)}, {gone(1, 7), gone(1, 7)},
		append(marks(api.MaxNews, 1, 1), mark(api.MaxNews, 1)), append(marks(3*api.MaxNews, 1, 1), mark(1, 1)), append(marks(600, 2, 1), mark(0, 1)),
	}
	for _, n := range wrongNews() {
		l = append(l, list(n), list(mark(1, 1), n, ball(9, 1, 2, 3)), list(n, ball(9, 1, 2, 3)), append(marks(api.MaxNews, 1, 1), n))
	}
	return l
}

// infinite is what may be news, and no list.
func infinite() [][]api.News {
	return [][]api.News{
		{gone(1, 1)}, {gone(2, 1)}, {gone(1, api.MaxId)}, {mark(1, 1), gone(1, 2), mark(3, 1)}, {gone(1, 1), mark(2, 1)},
		append(marks(api.MaxNews, 1, 1), gone(1, api.MaxNews+1)),
	}
}

// goodLists is lists at the edges of what may be.
func goodLists() [][]api.News {
	return [][]api.News{
		nil, {}, {mark(1, 0)}, {mark(api.MaxId, far)}, {ball(1, 0, 0, 1)}, {ball(1, far, far, api.MaxId)}, {ball(3, 0.25, inf, 0)},
		{mark(1, 0.25), mark(2, 0), mark(api.MaxId, 1), ball(1, 1, 2, 2), ball(2, 0, inf, 0), ball(api.MaxId, 1, 0.25, 1)},
		marks(api.MaxNews-1, 1, 1), marks(api.MaxNews, 1, 1), marks(api.MaxNews+1, 1, 1), marks(2000, 5, 3),
	}
}

func checks(t *testing.T, o api.Out, want api.Errno) {
	t.Helper()
	if e := delta.Check(o); e != want {
		t.Fatalf("Check(%s): %d, not %d", short(o), e, want)
	}
}

func diffs(t *testing.T, from, to []api.News, want []api.News, wantE api.Errno) {
	t.Helper()
	if got, e := delta.Diff(from, to); !sameNews(got, want) || e != wantE {
		t.Fatalf("Diff(%s, %s): %s, %d, not %s, %d", short(from), short(to), short(got), e, short(want), wantE)
	}
}

func merges(t *testing.T, l, news []api.News, want []api.News, wantE api.Errno) {
	t.Helper()
	if got, e := delta.Merge(l, news); !sameNews(got, want) || e != wantE {
		t.Fatalf("Merge(%s, %s): %s, %d, not %s, %d", short(l), short(news), short(got), e, short(want), wantE)
	}
}

// offers: an advert with these news, that flies then.
func offers(t *testing.T, o api.Out, now []api.News, want ...api.News) api.Out {
	t.Helper()
	after, news, ok, e := delta.Offer(o, now)
	wantAfter := flying(o.Seq+1, 0, o.Acked, want)
	if !sameOut(after, wantAfter) || !sameNews(news, want) || !ok || e != api.OK {
		t.Fatalf("Offer(%s, %s): %s, %s, %v, %d, not %s", short(o), short(now), short(after), short(news), ok, e, short(wantAfter))
	}
	return after
}

// offersNone: it is as it is, beside that error or none.
func offersNone(t *testing.T, o api.Out, now []api.News, want api.Errno) {
	t.Helper()
	after, news, ok, e := delta.Offer(o, now)
	if !sameOut(after, o) || len(news) != 0 || ok || e != want {
		t.Fatalf("Offer(%s, %s): %s, %s, %v, %d, not as it is, nothing, false, %d", short(o), short(now), short(after), short(news), ok, e, want)
	}
}

func acks(t *testing.T, o api.Out, seq uint64, want api.Out, wantOk bool) api.Out {
	t.Helper()
	after, ok := delta.Acked(o, seq)
	if !sameOut(after, want) || ok != wantOk {
		t.Fatalf("Acked(%s, %d): %s, %v, not %s, %v", short(o), seq, short(after), ok, short(want), wantOk)
	}
	return after
}

func ticks(t *testing.T, o api.Out, resend int, want api.Out, wantAgain bool) api.Out {
	t.Helper()
	after, again := delta.Tick(o, resend)
	if !sameOut(after, want) || again != wantAgain {
		t.Fatalf("Tick(%s, %d): %s, %v, not %s, %v", short(o), resend, short(after), again, short(want), wantAgain)
	}
	return after
}

func settled(t *testing.T, o api.Out, now []api.News, want bool) {
	t.Helper()
	if got := delta.Settled(o, now); got != want {
		t.Fatalf("Settled(%s, %s): %v", short(o), short(now), got)
	}
}

// The chapter's examples 1 and 2.
func TestExamples(t *testing.T) {
	o, now := resting(0, mark(1, 2)), list(mark(1, 3), mark(5, 1))
	settled(t, o, now, false)
	o = offers(t, o, now, mark(1, 3), mark(5, 1))
	if o.Seq != 1 {
		t.Fatalf("Seq %d", o.Seq)
	}
	offersNone(t, o, now, api.OK)
	offersNone(t, o, nil, api.OK)
	o = acks(t, o, 1, resting(1, now...), true)
	settled(t, o, now, true)
	o = offers(t, o, list(mark(1, 3)), gone(api.EntryMark, 5))
	acks(t, o, 2, resting(2, mark(1, 3)), true)
}

// De1: what may be an Out.
func TestCheck(t *testing.T) {
	for _, l := range goodLists() {
		for _, seq := range []uint64{0, 1, 2, last} {
			checks(t, resting(seq, l...), api.OK)
		}
		for _, seq := range []uint64{1, 2, last} {
			for _, age := range []int{0, 1, math.MaxInt} {
				checks(t, flying(seq, age, l, list(gone(1, 7))), api.OK)
			}
		}
		if n := len(l); n > 0 {
			want := api.OK
			if n > api.MaxNews {
				want = api.ErrArg
			}
			checks(t, flying(1, 0, nil, l), want)
			checks(t, api.Out{Acked: l, Sent: l}, api.ErrArg)
		}
	}
	for _, l := range infinite() {
		want := api.OK
		if len(l) > api.MaxNews {
			want = api.ErrArg
		}
		checks(t, flying(1, 0, nil, l), want)
		checks(t, resting(1, l...), api.ErrArg)
		checks(t, flying(1, 0, l, list(mark(1, 1))), api.ErrArg)
		checks(t, api.Out{Seq: 1, Sent: l}, api.ErrArg)
	}
	checks(t, flying(1, 0, nil, marks(api.MaxNews, 1, inf)), api.OK)
	checks(t, flying(1, 0, nil, marks(api.MaxNews+1, 1, inf)), api.ErrArg)
}

// De1: what may not.
func TestCheckWrong(t *testing.T) {
	one := list(mark(1, 1))
	for _, o := range []api.Out{
		flying(0, 0, nil, one), flying(0, 3, one, one), flying(1, -1, nil, one), flying(1, math.MinInt, nil, one), flying(1, 0, one, nil), flying(1, 0, nil, []api.News{}),
		{Age: 1}, {Age: -1}, {Age: math.MinInt}, {Age: math.MaxInt}, {Seq: 1, Age: 1}, {Sent: one}, {Seq: 1, Acked: one, Sent: one}, {Flying: true}, {Flying: true, Seq: 1},
	} {
		checks(t, o, api.ErrArg)
		offersNone(t, o, nil, api.ErrArg)
		offersNone(t, o, list(mark(9, 9)), api.ErrArg)
	}
	for _, l := range wrongLists() {
		checks(t, resting(0, l...), api.ErrArg)
		checks(t, resting(1, l...), api.ErrArg)
		checks(t, flying(1, 0, l, one), api.ErrArg)
		checks(t, flying(1, 0, one, l), api.ErrArg)
	}
}

// De1: a list and another one that are wrong, in either place.
func TestWrongLists(t *testing.T) {
	good := list(mark(7, 3), ball(7, 1, 2, 9))
	for _, l := range wrongLists() {
		for _, other := range [][]api.News{nil, good, l} {
			diffs(t, l, other, nil, api.ErrArg)
			diffs(t, other, l, nil, api.ErrArg)
			merges(t, l, other, nil, api.ErrArg)
			merges(t, other, l, nil, api.ErrArg)
		}
	}
	for _, l := range infinite() {
		for _, other := range [][]api.News{nil, good, l} {
			diffs(t, l, other, nil, api.ErrArg)
			diffs(t, other, l, nil, api.ErrArg)
			merges(t, l, other, nil, api.ErrArg)
		}
		want, _ := modelMerge(good, l)
		merges(t, good, l, want, api.OK)
	}
	for _, l := range goodLists() {
		diffs(t, nil, l, l, api.OK)
		diffs(t, l, nil, modelGone(l), api.OK)
		merges(t, nil, l, l, api.OK)
		merges(t, l, nil, l, api.OK)
		merges(t, l, modelGone(l), nil, api.OK)
		merges(t, nil, modelGone(l), nil, api.OK)
	}
}

// modelGone is the news that none of a list is there any more.
func modelGone(l []api.News) []api.News {
	var news []api.News
	for _, n := range l {
		news = append(news, gone(n.Kind, n.Dest))
	}
	return news
}

// De1: what is wrong is found wherever it stands, in lists longer than an advert holds.
func TestWrongAnywhere(t *testing.T) {
	const n = 2*api.MaxNews + 10
	for i := range n {
		l := marks(n, 1, 3)
		l[i].Home = 1
		diffs(t, nil, l, nil, api.ErrArg)
		merges(t, nil, l, nil, api.ErrArg)
		l[i].Home, l[i].Dest = 0, i // as the one ahead of it; the first one: no number
		diffs(t, l, nil, nil, api.ErrArg)
		merges(t, nil, l, nil, api.ErrArg)
		l[i] = mark(i+1, inf)
		diffs(t, l, nil, nil, api.ErrArg)
		merges(t, nil, l, slices.Delete(marks(n, 1, 3), i, i+1), api.OK)
	}
}

// small is all lists of three destinations, two of which have one Dest, two of which one Kind; each is not there, or is one of two.
func small() [][]api.News {
	values := [][]api.News{{mark(7, 0), mark(7, 3)}, {ball(6, 1, 2, 9), ball(6, 1, inf, 0)}, {ball(7, 1, 2, 9), ball(7, 1, 2, 8)}}
	var all [][]api.News
	for way := range 27 {
		var l []api.News
		for i, left := 0, way; i < 3; i, left = i+1, left/3 {
			if left%3 > 0 {
				l = append(l, values[i][left%3-1])
			}
		}
		all = append(all, l)
	}
	return all
}

// De1: Diff of all small lists, told by hand: by destinations, what there was and what there is.
func TestDiffSmall(t *testing.T) {
	dests := []about{{1, 7}, {2, 6}, {2, 7}}
	for _, from := range small() {
		for _, to := range small() {
			var want []api.News
			for _, d := range dests {
				was, had := byAbout(from)[d]
				is, has := byAbout(to)[d]
				switch {
				case has && (!had || was != is):
					want = append(want, is)
				case had && !has:
					want = append(want, gone(d.kind, d.dest))
				}
			}
			diffs(t, from, to, want, api.OK)
		}
	}
}

// De1: Merge of all small lists and all small news.
func TestMergeSmall(t *testing.T) {
	dests := []about{{1, 7}, {2, 6}, {2, 7}}
	for _, l := range small() {
		for _, finite := range small() {
			for goneToo := range 8 {
				var news, want []api.News
				for i, d := range dests {
					was, had := byAbout(l)[d]
					is, has := byAbout(finite)[d]
					switch {
					case has:
						news, want = append(news, is), append(want, is)
					case goneToo>>i&1 == 1:
						news = append(news, gone(d.kind, d.dest))
					case had:
						want = append(want, was)
					}
				}
				merges(t, l, news, want, api.OK)
				merges(t, want, news, want, api.OK) // De5
			}
		}
	}
}

// De1: any part of News makes it another one.
func TestAnotherNews(t *testing.T) {
	first := ball(7, 1, 2, 9)
	for _, other := range []api.News{ball(7, 1.25, 2, 9), ball(7, 1, 2.25, 9), ball(7, 1, 2, 8), ball(7, 1, inf, 0), ball(7, 0, 2, 9), ball(7, 1, 0, 9)} {
		diffs(t, list(first), list(other), list(other), api.OK)
		merges(t, list(first), list(other), list(other), api.OK)
		settled(t, resting(0, first), list(other), false)
		offers(t, resting(0, first), list(other), other)
	}
	diffs(t, list(first), list(first), nil, api.OK)
	diffs(t, list(mark(7, 1)), list(mark(8, 1)), list(gone(1, 7), mark(8, 1)), api.OK)
	diffs(t, list(mark(8, 1)), list(mark(7, 1)), list(mark(7, 1), gone(1, 8)), api.OK)
	diffs(t, list(mark(7, 1)), list(ball(7, 1, 2, 9)), list(gone(1, 7), ball(7, 1, 2, 9)), api.OK)
	diffs(t, list(ball(7, 1, 2, 9)), list(mark(8, 1)), list(mark(8, 1), gone(2, 7)), api.OK)
}

// De2: what an Offer tells of all small lists, and its way until it is acknowledged.
func TestOfferSmall(t *testing.T) {
	for _, had := range small() {
		for _, now := range small() {
			want, _ := modelDiff(had, now)
			o := resting(7, had...)
			settled(t, o, now, len(want) == 0)
			if len(want) == 0 {
				offersNone(t, o, now, api.OK)
				continue
			}
			o = offers(t, o, now, want...)
			checks(t, o, api.OK)
			settled(t, o, now, false)
			settled(t, o, had, false)
			offersNone(t, o, now, api.OK)
			offersNone(t, o, had, api.OK)
			o = acks(t, o, 8, resting(8, now...), true)
			checks(t, o, api.OK)
			settled(t, o, now, true)
			offersNone(t, o, now, api.OK)
		}
	}
}

// De2: ErrArg goes ahead of all, nothing new ahead of ErrFull; beside all of them it is told as it is.
func TestOfferRefused(t *testing.T) {
	one := list(mark(1, 1))
	for _, l := range slices.Concat(wrongLists(), infinite()) {
		offersNone(t, resting(0, one...), l, api.ErrArg)
		offersNone(t, resting(last, one...), l, api.ErrArg)
		offersNone(t, flying(3, 4, one, one), l, api.ErrArg)
		offersNone(t, resting(0, l...), one, api.ErrArg)
		offersNone(t, resting(last, l...), l, api.ErrArg)
		offersNone(t, flying(3, 4, l, one), one, api.ErrArg)
		if modelCheck(flying(3, 4, one, l)) != api.OK {
			offersNone(t, flying(3, 4, one, l), one, api.ErrArg)
		}
	}
	offersNone(t, resting(last, one...), nil, api.ErrFull)
	offersNone(t, resting(last), one, api.ErrFull)
	offersNone(t, resting(last, one...), one, api.OK)
	offersNone(t, resting(last), nil, api.OK)
	offersNone(t, resting(last), []api.News{}, api.OK)
	offersNone(t, flying(last, 5, one, one), nil, api.OK)
	offersNone(t, flying(last, 5, one, one), one, api.OK)
	if o := offers(t, resting(last-1), one, one...); o.Seq != last {
		t.Fatalf("Seq %d", o.Seq)
	}
	acks(t, flying(last, 5, nil, one), last, resting(last, one...), true)
}

// De2: more than an advert holds is told by as many adverts as it takes.
func TestOfferMany(t *testing.T) {
	for _, n := range []int{1, api.MaxNews - 1, api.MaxNews, api.MaxNews + 1, 2*api.MaxNews - 1, 2 * api.MaxNews, 2*api.MaxNews + 1, 1500} {
		o := resting(0)
		now := append(marks(n/2, 1, 3), many(n-n/2, 1)...)
		for told := 0; told < n; told += api.MaxNews {
			settled(t, o, now, false)
			o = offers(t, o, now, now[told:min(told+api.MaxNews, n)]...)
			checks(t, o, api.OK)
			o = acks(t, o, o.Seq, resting(o.Seq, now[:min(told+api.MaxNews, n)]...), true)
		}
		settled(t, o, now, true)
		offersNone(t, o, now, api.OK)

		news, _ := modelDiff(now, now[n/3:2*n/3]) // what is gone stands on both sides of what stays
		for told := 0; told < len(news); told += api.MaxNews {
			o = offers(t, o, now[n/3:2*n/3], news[told:min(told+api.MaxNews, len(news))]...)
			l, _ := modelMerge(o.Acked, o.Sent)
			o = acks(t, o, o.Seq, resting(o.Seq, l...), true)
		}
		settled(t, o, now[n/3:2*n/3], true)
	}
}

// many is n that are no landmarks, from a Dest on.
func many(n, first int) []api.News {
	var l []api.News
	for i := range n {
		l = append(l, ball(first+i, 1, 2, 9))
	}
	return l
}

// De3: a receipt of what flies alone does anything.
func TestAcked(t *testing.T) {
	had, sent := list(mark(1, 1), mark(2, 1), ball(2, 1, 2, 9)), list(gone(1, 1), mark(3, 4), ball(2, 1, 3, 9), gone(2, 8))
	want := resting(5, mark(2, 1), mark(3, 4), ball(2, 1, 3, 9))
	for _, age := range []int{0, 1, math.MaxInt} {
		o := flying(5, age, had, sent)
		for _, seq := range []uint64{0, 1, 4, 6, last} {
			acks(t, o, seq, o, false)
		}
		after := acks(t, o, 5, want, true)
		acks(t, after, 5, want, false)
	}
	for _, o := range []api.Out{{}, resting(5, had...), resting(last), resting(1, had...)} {
		for _, seq := range []uint64{0, 1, 5, last} {
			acks(t, o, seq, o, false)
		}
	}
}

// De3: how long it flies; again from the resend-th tick on, at once where that is none.
func TestTick(t *testing.T) {
	l, sent := list(mark(1, 1)), list(gone(1, 1))
	o := func(age int) api.Out { return flying(2, age, l, sent) }
	for _, c := range []struct {
		age, resend, want int
		again             bool
	}{
		{0, 2, 1, false}, {1, 2, 0, true}, {2, 2, 0, true}, {0, 1, 0, true}, {0, 0, 0, true}, {0, -1, 0, true}, {5, math.MinInt, 0, true},
		{7, 9, 8, false}, {8, 9, 0, true}, {9, 9, 0, true}, {100, 9, 0, true},
		{0, math.MaxInt, 1, false}, {math.MaxInt - 2, math.MaxInt, math.MaxInt - 1, false}, {math.MaxInt - 1, math.MaxInt, 0, true},
		{math.MaxInt, math.MaxInt, 0, true}, {math.MaxInt, 3, 0, true}, {math.MaxInt, math.MinInt, 0, true}, {math.MaxInt - 1, 1, 0, true},
	} {
		ticks(t, o(c.age), c.resend, o(c.want), c.again)
	}
	for _, resend := range []int{math.MinInt, -1, 0, 1, 2, math.MaxInt} {
		ticks(t, api.Out{}, resend, api.Out{}, false)
		ticks(t, resting(9, l...), resend, resting(9, l...), false)
	}
	for resend := 1; resend <= 5; resend++ {
		x := o(0)
		for tick := 1; tick <= 3*resend; tick++ {
			x = ticks(t, x, resend, o(tick%resend), tick%resend == 0)
		}
	}
}

// De3: nothing flies, and what is acknowledged is that, to the bit; what it is held against need not be a list.
func TestSettled(t *testing.T) {
	for _, l := range goodLists() {
		settled(t, resting(3, l...), slices.Clone(l), true)
		settled(t, flying(3, 0, l, list(mark(1, 1))), l, false)
		settled(t, resting(3, l...), append(slices.Clone(l), ball(api.MaxId, 2, 3, 4)), false)
		if len(l) > 0 {
			settled(t, resting(3, l...), nil, false)
			settled(t, resting(3, l...), l[1:], false)
			settled(t, resting(3, l...), l[:len(l)-1], false)
			settled(t, resting(3), l, false)
		}
	}
	settled(t, api.Out{}, nil, true)
	settled(t, api.Out{}, []api.News{}, true)
	settled(t, resting(0, mark(1, 1), mark(2, 1)), list(mark(2, 1), mark(1, 1)), false)
	negZero := math.Copysign(0, -1)
	settled(t, resting(0, mark(1, 0)), list(mark(1, negZero)), false)
	settled(t, resting(0, mark(1, 0)), list(api.News{Dest: 1, Kind: 1, Radius: negZero}), false)
	settled(t, resting(0, ball(1, 0, 0, 1)), list(ball(1, 0, negZero, 1)), false)
	settled(t, resting(0, mark(1, 0)), list(mark(1, math.NaN())), false)
	for _, l := range slices.Concat(wrongLists(), infinite()) {
		settled(t, resting(0, mark(1, 1)), l, false)
		settled(t, resting(0), l, false)
		settled(t, flying(1, 0, nil, list(mark(1, 1))), l, false)
	}
}

// De4: the next one is fresh, those that came are acknowledged again, all others are none of it.
func TestTake(t *testing.T) {
	numbers := []uint64{0, 1, 2, 3, 4, 5, 6, 1<<32 - 1, 1 << 32, 1<<63 - 1, 1 << 63, last - 2, last - 1, last}
	for _, l := range numbers {
		for _, seq := range append(numbers, l-1, l, l+1, l+2) {
			in := api.In{Last: l}
			want, fresh, ack := in, false, seq > 0 && seq <= l
			if l != last && seq == l+1 {
				want, fresh, ack = api.In{Last: seq}, true, true
			}
			after, gotFresh, gotAck := delta.Take(in, seq)
			if after != want || gotFresh != fresh || gotAck != ack {
				t.Errorf("Take(%d, %d): %v, %v, %v, not %v, %v, %v", l, seq, after, gotFresh, gotAck, want, fresh, ack)
			}
		}
	}
}

// De5: a list and what makes another one of it is that other one; nothing is told of one and itself; news again change nothing.
func TestWhatFollows(t *testing.T) {
	r := rand.New(rand.NewPCG(14, 5))
	for range 20000 {
		l, other, news := someList(r), someList(r), someNews(r)
		d, e := delta.Diff(l, other)
		if e != api.OK {
			t.Fatalf("Diff(%v, %v): %d", l, other, e)
		}
		merges(t, l, d, other, api.OK)
		merges(t, other, d, other, api.OK)
		diffs(t, l, l, nil, api.OK)
		once, e := delta.Merge(l, news)
		if e != api.OK || !modelList(once) {
			t.Fatalf("Merge(%v, %v): %v, %d", l, news, once, e)
		}
		merges(t, once, news, once, api.OK)
	}
}

// All that is promised, held against the model; of an Out that may not be only where something is promised.
func TestAgainstModel(t *testing.T) {
	r := rand.New(rand.NewPCG(14, 1))
	for range 60000 {
		a, b := mostly(r, someList(r)), mostly(r, someNews(r))
		want, e := modelDiff(a, b)
		diffs(t, a, b, want, e)
		want, e = modelDiff(b, a)
		diffs(t, b, a, want, e)
		want, e = modelMerge(a, b)
		merges(t, a, b, want, e)

		o, now := anyOut(r), mostly(r, someList(r))
		if r.IntN(4) == 0 {
			now = slices.Clone(o.Acked)
		}
		checks(t, o, modelCheck(o))
		after, news, ok, e := delta.Offer(o, now)
		wantAfter, wantNews, wantOk, wantE := modelOffer(o, now)
		if !sameOut(after, wantAfter) || !sameNews(news, wantNews) || ok != wantOk || e != wantE {
			t.Fatalf("Offer(%v, %v): %v, %v, %v, %d, not %v, %v, %v, %d", o, now, after, news, ok, e, wantAfter, wantNews, wantOk, wantE)
		}
		seq, resend := pick(r, o.Seq, o.Seq, o.Seq+1, o.Seq-1, 0), pick(r, 0, 1, 2, 3, 8, math.MaxInt, -1)
		if modelCheck(o) != api.OK { // it ends
			delta.Acked(o, seq)
			delta.Tick(o, resend)
			delta.Settled(o, now)
			continue
		}
		wantAfter, wantOk = modelAcked(o, seq)
		acks(t, o, seq, wantAfter, wantOk)
		wantAfter, wantOk = modelTick(o, resend)
		ticks(t, o, resend, wantAfter, wantOk)
		settled(t, o, now, modelSettled(o, now))
		checks(t, wantAfter, api.OK)
	}
}

// The model and the layer below agree on what is wrong here.
func TestWrongIsWrong(t *testing.T) {
	for _, n := range wrongNews() {
		if newsMayBe(n) {
			t.Errorf("the model lets %+v be", n)
		}
	}
	for _, l := range wrongLists() {
		if modelNews(l) {
			t.Errorf("the model lets %s be", short(l))
		}
	}
	for _, l := range infinite() {
		if !modelNews(l) || modelList(l) {
			t.Errorf("the model takes %s for another thing", short(l))
		}
	}
}

// R1: an Out that may not be: each call ends.
func TestEndsWithWrongOuts(t *testing.T) {
	all := slices.Concat(wrongLists(), infinite(), [][]api.News{nil, {mark(1, 1)}, marks(2000, 1, 1)})
	for _, acked := range all {
		for _, sent := range [][]api.News{nil, acked, {mark(1, 1)}, {mark(2, 1), mark(1, 1)}, marks(2000, 1, 1)} {
			for _, o := range []api.Out{{Acked: acked, Sent: sent}, flying(0, -1, acked, sent), flying(1, math.MinInt, sent, acked), flying(last, math.MaxInt, acked, sent)} {
				delta.Acked(o, o.Seq)
				delta.Acked(o, 2)
				delta.Tick(o, 3)
				delta.Tick(o, math.MinInt)
				delta.Settled(o, sent)
				delta.Settled(o, acked)
			}
		}
	}
}
