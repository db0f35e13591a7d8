package cache_test

import (
	"math"
	"math/rand/v2"
	"slices"

	"beacon/api"
)

// What the chapter says, once more and in another way: all that is known stands in one map, by neighbour, Kind and Dest, and what is told is picked out of it.

// about is what news are about, and whose they are.
type about struct{ id, kind, dest int }

type model struct {
	weights map[int]float64
	known   map[about]api.News
}

func newModel() *model { return &model{weights: map[int]float64{}, known: map[about]api.News{}} }

// quarters is whether a float is that many quarters, from some to below some.
func quarters(f float64, from, below int) bool {
	n := f * 4
	return f == f && n >= float64(from) && n < float64(below) && math.Float64bits(n) == math.Float64bits(float64(int(n)))
}

func weightError(w float64) api.Errno {
	switch {
	case w != w:
		return 10
	case w-w != 0:
		return 11
	case math.Signbit(w):
		return 12
	case w < 1:
		return 13
	case w > 1048576:
		return 14
	case !quarters(w, 4, 4*1048576+1):
		return 15
	}
	return 0
}

func numberMayBe(id int) bool { return id > 0 && uint64(id)>>31 == 0 }

func distanceMayBe(d float64) bool { return quarters(d, 0, 1<<32) || d > math.MaxFloat64 }

func newsMayBe(n api.News) bool {
	noHome := math.Float64bits(n.Radius) == 0 && n.Home == 0
	finite := n.Dist <= math.MaxFloat64
	switch {
	case !numberMayBe(n.Dest), !distanceMayBe(n.Dist), n.Kind != 1 && n.Kind != 2:
		return false
	case n.Kind == 1 || !finite:
		return noHome
	case n.Radius > math.MaxFloat64:
		return n.Home == 0
	}
	return distanceMayBe(n.Radius) && numberMayBe(n.Home)
}

// told is whether news may be told: each is ahead of all that come.
func told(news []api.News) bool {
	lastKind, lastDest := 0, 0
	for _, n := range news {
		rises := n.Kind > lastKind || n.Kind == lastKind && n.Dest > lastDest
		if !newsMayBe(n) || !rises {
			return false
		}
		lastKind, lastDest = n.Kind, n.Dest
	}
	return true
}

func (m *model) has(id int) bool {
	_, ok := m.weights[id]
	return ok
}

func (m *model) add(id int, weight float64) api.Errno {
	switch e := weightError(weight); {
	case !numberMayBe(id):
		return 20
	case e != 0:
		return e
	case m.has(id):
		return 72
	case len(m.weights) >= 256:
		return 2
	}
	m.weights[id] = weight
	return 0
}

func (m *model) weigh(id int, weight float64) api.Errno {
	e := weightError(weight)
	if e == 0 && !m.has(id) {
		e = 4
	}
	if e == 0 {
		m.weights[id] = weight
	}
	return e
}

func (m *model) remove(id int) api.Errno {
	_, e := m.forget(id)
	delete(m.weights, id)
	return e
}

func (m *model) learn(id int, news []api.News) (int, api.Errno) {
	if !m.has(id) {
		return 0, 4
	}
	if !told(news) {
		return 0, 1
	}
	changed := 0
	for _, n := range news {
		key := about{id, n.Kind, n.Dest}
		old, had := m.known[key]
		gone := n.Dist > math.MaxFloat64
		if gone {
			delete(m.known, key)
		} else {
			m.known[key] = n
		}
		if had && gone || !had && !gone || had && !gone && old != n {
			changed++
		}
	}
	return changed, 0
}

func (m *model) forget(id int) (int, api.Errno) {
	if !m.has(id) {
		return 0, 4
	}
	n := 0
	for key := range m.known {
		if key.id == id {
			delete(m.known, key)
			n++
		}
	}
	return n, 0
}

func (m *model) list(id int) ([]api.News, api.Errno) {
	if !m.has(id) {
		return nil, 4
	}
	var l []api.News
	for key, n := range m.known {
		if key.id == id {
			l = append(l, n)
		}
	}
	slices.SortFunc(l, func(a, b api.News) int { return (a.Kind-b.Kind)*(1<<32) + a.Dest - b.Dest })
	return l, 0
}

func (m *model) ids() []int {
	var l []int
	for id := range m.weights {
		l = append(l, id)
	}
	slices.Sort(l)
	return l
}

func (m *model) all() []api.Heard {
	var l []api.Heard
	for _, id := range m.ids() {
		news, _ := m.list(id)
		l = append(l, api.Heard{From: id, Weight: m.weights[id], News: news})
	}
	return l
}

func (m *model) offers(kind, dest int) []api.Heard {
	var l []api.Heard
	for _, h := range m.all() {
		for _, n := range h.News {
			if n.Kind == kind && n.Dest == dest {
				l = append(l, api.Heard{From: h.From, Weight: h.Weight, News: []api.News{n}})
			}
		}
	}
	return l
}

func (m *model) dests(kind int) []int {
	var l []int
	for key := range m.known {
		if key.kind == kind && !slices.Contains(l, key.dest) {
			l = append(l, key.dest)
		}
	}
	slices.Sort(l)
	return l
}

func pick[T any](r *rand.Rand, l ...T) T { return l[r.IntN(len(l))] }

// someId is mostly one of few, so that it is often a neighbour.
func someId(r *rand.Rand) int {
	if r.IntN(15) > 0 {
		return pick(r, 1, 2, 3, 4, api.MaxId)
	}
	return pick(r, noNumbers()...)
}

func someWeight(r *rand.Rand) float64 {
	if r.IntN(10) > 0 {
		return pick(r, 1, 1.25, 2, 3.5, api.MaxWeight)
	}
	return pick(r, wrongWeights()...).weight
}

// someNews is some that may be told, of few destinations, so that the same ones come again.
func someNews(r *rand.Rand) []api.News {
	var l []api.News
	for kind := 1; kind <= 2; kind++ {
		for _, dest := range []int{1, 2, 3, 7, api.MaxId} {
			switch x := r.IntN(5); {
			case x < 2:
			case x == 2:
				l = append(l, gone(kind, dest))
			case kind == api.EntryMark:
				l = append(l, mark(dest, pick(r, 0, 0.25, 3, far)))
			case r.IntN(3) == 0:
				l = append(l, ball(dest, pick(r, 0.0, 1), inf, 0))
			default:
				l = append(l, ball(dest, pick(r, 0.0, 1), pick(r, 0, 4, far), pick(r, 1, 2)))
			}
		}
	}
	return l
}

// someTold is mostly such news; else one of them is another or stands elsewhere, so that they may mostly not be told.
func someTold(r *rand.Rand) []api.News {
	l := someNews(r)
	if len(l) == 0 || r.IntN(8) > 0 {
		return l
	}
	i, k := r.IntN(len(l)), r.IntN(len(l))
	switch r.IntN(3) {
	case 0:
		l[i] = pick(r, wrongNews()...)
	case 1:
		l[i], l[k] = l[k], l[i]
	default:
		l = slices.Insert(l, i, l[k])
	}
	return l
}
