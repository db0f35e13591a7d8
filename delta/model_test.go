package delta_test

import (
	"math"
	"math/rand/v2"
	"slices"

	"beacon/api"
)

// What the chapter says, once more and in another way: lists stand in maps by destination, and what is told is picked out of them and sorted.

// about is what news are about.
type about struct{ kind, dest int }

// parts is News by the bits of its floats.
type parts struct {
	about
	dist, radius uint64
	home         int
}

func partsOf(n api.News) parts {
	return parts{about{n.Kind, n.Dest}, math.Float64bits(n.Dist), math.Float64bits(n.Radius), n.Home}
}

// quarters is whether a float is that many quarters, from nought to below some.
func quarters(f float64, below int) bool {
	n := f * 4
	return f == f && n >= 0 && n < float64(below) && math.Float64bits(n) == math.Float64bits(float64(int(n)))
}

func numberMayBe(id int) bool { return id > 0 && uint64(id)>>31 == 0 }

func distanceMayBe(d float64) bool { return quarters(d, 1<<32) || d > math.MaxFloat64 }

func newsMayBe(n api.News) bool {
	noHome := math.Float64bits(n.Radius) == 0 && n.Home == 0
	finite := n.Dist <= math.MaxFloat64
	switch {
	case !numberMayBe(n.Dest), !distanceMayBe(n.Dist), n.Kind != 1 && n.Kind != 2:
		return false
	case n.Kind == 1 || !finite:
		return noHome
	case n.Radius > math.MaxFloat64:
		return n.Home == 0
	}
	return distanceMayBe(n.Radius) && numberMayBe(n.Home)
}

// modelNews is whether news may be told: each is behind all that came.
func modelNews(news []api.News) bool {
	last := about{}
	for _, n := range news {
		rises := n.Kind > last.kind || n.Kind == last.kind && n.Dest > last.dest
		if !newsMayBe(n) || !rises {
			return false
		}
		last = about{n.Kind, n.Dest}
	}
	return true
}

func modelList(l []api.News) bool {
	for _, n := range l {
		if n.Dist > math.MaxFloat64 {
			return false
		}
	}
	return modelNews(l)
}

func byAbout(l []api.News) map[about]api.News {
	m := map[about]api.News{}
	for _, n := range l {
		m[about{n.Kind, n.Dest}] = n
	}
	return m
}

func inOrder(m map[about]api.News) []api.News {
	var l []api.News
	for _, n := range m {
		l = append(l, n)
	}
	slices.SortFunc(l, func(a, b api.News) int { return (a.Kind-b.Kind)*(1<<32) + a.Dest - b.Dest })
	return l
}

func modelDiff(from, to []api.News) ([]api.News, api.Errno) {
	if !modelList(from) || !modelList(to) {
		return nil, 1
	}
	old, now := byAbout(from), byAbout(to)
	told := map[about]api.News{}
	for d, n := range now {
		if was, ok := old[d]; !ok || partsOf(was) != partsOf(n) {
			told[d] = n
		}
	}
	for d := range old {
		if _, ok := now[d]; !ok {
			told[d] = api.News{Dest: d.dest, Kind: d.kind, Dist: math.Inf(1)}
		}
	}
	return inOrder(told), 0
}

func modelMerge(l, news []api.News) ([]api.News, api.Errno) {
	if !modelList(l) || !modelNews(news) {
		return nil, 1
	}
	m := byAbout(l)
	for _, n := range news {
		m[about{n.Kind, n.Dest}] = n
		if n.Dist > math.MaxFloat64 {
			delete(m, about{n.Kind, n.Dest})
		}
	}
	return inOrder(m), 0
}

func modelCheck(o api.Out) api.Errno {
	n := len(o.Sent)
	switch {
	case !modelList(o.Acked), !modelNews(o.Sent), o.Age < 0:
		return 1
	case o.Flying && (o.Seq == 0 || n == 0 || n > 512):
		return 1
	case !o.Flying && (n > 0 || o.Age > 0):
		return 1
	}
	return 0
}

func modelOffer(o api.Out, now []api.News) (api.Out, []api.News, bool, api.Errno) {
	if modelCheck(o) != 0 || !modelList(now) {
		return o, nil, false, 1
	}
	news, _ := modelDiff(o.Acked, now)
	if o.Flying || len(news) == 0 {
		return o, nil, false, 0
	}
	if o.Seq == 1<<64-1 {
		return o, nil, false, 2
	}
	if len(news) > 512 {
		news = news[:512]
	}
	return api.Out{Seq: o.Seq + 1, Acked: o.Acked, Sent: news, Flying: true}, news, true, 0
}

func modelAcked(o api.Out, seq uint64) (api.Out, bool) {
	if !o.Flying || o.Seq != seq {
		return o, false
	}
	l, _ := modelMerge(o.Acked, o.Sent)
	return api.Out{Seq: seq, Acked: l}, true
}

func modelTick(o api.Out, resend int) (api.Out, bool) {
	if !o.Flying {
		return o, false
	}
	if o.Age >= resend || o.Age+1 == resend || o.Age == math.MaxInt {
		o.Age = 0
		return o, true
	}
	o.Age++
	return o, false
}

func modelSettled(o api.Out, now []api.News) bool {
	return !o.Flying && sameNews(o.Acked, now)
}

func pick[T any](r *rand.Rand, l ...T) T { return l[r.IntN(len(l))] }

// someNews is some that may be told, of few destinations, so that the same ones come again.
func someNews(r *rand.Rand) []api.News {
	var l []api.News
	for kind := 1; kind <= 2; kind++ {
		for _, dest := range []int{1, 2, 3, 7, api.MaxId} {
			switch x := r.IntN(5); {
			case x < 2:
			case x == 2:
				l = append(l, gone(kind, dest))
			case kind == api.EntryMark:
				l = append(l, mark(dest, pick(r, 0, 0.25, 3, far)))
			case r.IntN(3) == 0:
				l = append(l, ball(dest, pick(r, 0.0, 1), inf, 0))
			default:
				l = append(l, ball(dest, pick(r, 0.0, 1), pick(r, 0, 4, far), pick(r, 1, 2)))
			}
		}
	}
	return l
}

func someList(r *rand.Rand) []api.News {
	return slices.DeleteFunc(someNews(r), func(n api.News) bool { return n.Dist == inf })
}

// nearly is a list of which one part is another, or stands elsewhere: so it may mostly not be.
func nearly(r *rand.Rand, l []api.News) []api.News {
	if len(l) == 0 {
		return list(pick(r, wrongNews()...))
	}
	i, k := r.IntN(len(l)), r.IntN(len(l))
	switch r.IntN(3) {
	case 0:
		l[i] = pick(r, wrongNews()...)
	case 1:
		l[i], l[k] = l[k], l[i]
	default:
		l = slices.Insert(l, i, l[k])
	}
	return l
}

// mostly is a list as it is, and seldom one that is nearly it.
func mostly(r *rand.Rand, l []api.News) []api.News {
	if r.IntN(12) == 0 {
		return nearly(r, l)
	}
	return l
}

// someOut is one that may be.
func someOut(r *rand.Rand) api.Out {
	o := api.Out{Seq: pick[uint64](r, 0, 1, 2, 1<<32, last-1, last), Acked: someList(r)}
	if r.IntN(2) == 0 {
		return o
	}
	o.Flying, o.Seq, o.Sent = true, max(o.Seq, 1), someNews(r)
	o.Age = pick(r, 0, 1, 2, 7, math.MaxInt-1, math.MaxInt)
	if len(o.Sent) == 0 {
		o.Sent = list(mark(5, 1))
	}
	return o
}

// anyOut is mostly one that may be.
func anyOut(r *rand.Rand) api.Out {
	o := someOut(r)
	o.Acked, o.Sent = mostly(r, o.Acked), mostly(r, o.Sent)
	switch r.IntN(20) {
	case 0:
		o.Flying = !o.Flying
	case 1:
		o.Age = pick(r, 1, -1, math.MinInt, math.MaxInt)
	case 2:
		o.Seq = 0
	}
	return o
}
