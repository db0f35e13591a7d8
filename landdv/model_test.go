package landdv_test

import (
	"math"
	"math/rand/v2"
	"slices"

	"beacon/api"
)

// What the chapter says, once more and in another way: in whole quarters, and each landmark asked by itself of all that was heard.

// quarters is whether a float is that many quarters, from some to below some.
func quarters(f float64, from, below int) bool {
	n := f * 4
	return f == f && n >= float64(from) && n < float64(below) && math.Float64bits(n) == math.Float64bits(float64(int(n)))
}

func numberMayBe(id int) bool { return id > 0 && uint64(id)>>31 == 0 }

func weightMayBe(w float64) bool { return quarters(w, 4, 4*1048576+1) }

// limitError is what layer 1 refuses.
func limitError(max float64) api.Errno {
	switch {
	case max != max:
		return 10
	case max-max != 0:
		return 11
	case math.Signbit(max):
		return 12
	case max < 1:
		return 13
	case max > 1<<30:
		return 14
	case !quarters(max, 4, 1<<32+1):
		return 15
	}
	return 0
}

// finiteMayBe is whether a distance may be, but too far.
func finiteMayBe(d float64) bool { return quarters(d, 0, 1<<32) }

func isNought(f float64) bool { return math.Float64bits(f) == 0 }

// modelList is whether it is a list: each is behind all that came.
func modelList(l []api.News) bool {
	lastKind, lastDest := 0, 0
	for _, n := range l {
		rises := n.Kind > lastKind || n.Kind == lastKind && n.Dest > lastDest
		if !rises || !numberMayBe(n.Dest) || !finiteMayBe(n.Dist) {
			return false
		}
		ok := false
		switch n.Kind {
		case 1:
			ok = isNought(n.Radius) && n.Home == 0
		case 2:
			ok = n.Radius > math.MaxFloat64 && n.Home == 0 || finiteMayBe(n.Radius) && numberMayBe(n.Home)
		}
		if !ok {
			return false
		}
		lastKind, lastDest = n.Kind, n.Dest
	}
	return true
}

func modelCheck(self int, heard []api.Heard) api.Errno {
	if !numberMayBe(self) {
		return 20
	}
	last := 0
	for _, h := range heard {
		if !numberMayBe(h.From) || h.From <= last || h.From == self || !weightMayBe(h.Weight) || !modelList(h.News) {
			return 1
		}
		last = h.From
	}
	return 0
}

// offered is how many quarters a neighbour is from a landmark, as it says.
func offered(h api.Heard, dest int) (int, bool) {
	for _, n := range h.News {
		if n.Kind == 1 && n.Dest == dest {
			return int(n.Dist * 4), true
		}
	}
	return 0, false
}

func modelMarks(self int, heard []api.Heard, max float64) ([]api.Entry, api.Errno) {
	if e := modelCheck(self, heard); e != 0 {
		return nil, e
	}
	if e := limitError(max); e != 0 {
		return nil, e
	}
	dests := []int{}
	for _, h := range heard {
		for _, n := range h.News {
			if n.Kind == 1 && n.Dest != self && !slices.Contains(dests, n.Dest) {
				dests = append(dests, n.Dest)
			}
		}
	}
	slices.Sort(dests)
	var l []api.Entry
	for _, dest := range dests {
		l = append(l, modelMark(dest, heard, int(max*4)))
	}
	return l, 0
}

// modelMark goes through the neighbours from the last one on: so the one that stays is the first of the nearest.
func modelMark(dest int, heard []api.Heard, below int) api.Entry {
	least, next := below, 0
	for i := len(heard) - 1; i >= 0; i-- {
		d, ok := offered(heard[i], dest)
		if d += int(heard[i].Weight * 4); ok && d < below && d <= least {
			least, next = d, heard[i].From
		}
	}
	if next == 0 {
		return farMark(dest)
	}
	return entry(dest, float64(least)/4, next)
}

func marksMayBe(self int, marks []api.Entry) bool {
	last := 0
	for _, m := range marks {
		tooFar := m.Dist > math.MaxFloat64
		switch {
		case m.Kind != 1, !numberMayBe(m.Dest), m.Dest == self, m.Dest <= last, !isNought(m.Radius), m.Home != 0:
			return false
		case tooFar && m.Next != 0, !tooFar && !numberMayBe(m.Next), !tooFar && !quarters(m.Dist, 1, 1<<32):
			return false
		}
		last = m.Dest
	}
	return true
}

func modelMarksError(self int, marks []api.Entry) api.Errno {
	switch {
	case !numberMayBe(self):
		return 20
	case !marksMayBe(self, marks):
		return 1
	}
	return 0
}

func modelHome(self int, mark bool, marks []api.Entry) (api.Home, api.Errno) {
	if e := modelMarksError(self, marks); e != 0 {
		return api.Home{}, e
	}
	home := api.Home{Id: self, Radius: math.Inf(1)}
	for i := len(marks) - 1; i >= 0; i-- {
		if m := marks[i]; m.Dist <= math.MaxFloat64 && m.Dist <= home.Radius {
			home = api.Home{Id: self, Home: m.Dest, Radius: m.Dist}
		}
	}
	if mark {
		home = api.Home{Id: self, Home: self}
	}
	return home, 0
}

func modelTell(self int, mark bool, marks []api.Entry) ([]api.News, api.Errno) {
	if e := modelMarksError(self, marks); e != 0 {
		return nil, e
	}
	dists := map[int]float64{}
	for _, m := range marks {
		if m.Dist <= math.MaxFloat64 {
			dists[m.Dest] = m.Dist
		}
	}
	if mark {
		dists[self] = 0
	}
	var l []api.News
	for dest, d := range dists {
		l = append(l, api.News{Dest: dest, Kind: 1, Dist: d})
	}
	slices.SortFunc(l, func(a, b api.News) int { return a.Dest - b.Dest })
	return l, 0
}

func pick[T any](r *rand.Rand, l ...T) T { return l[r.IntN(len(l))] }

// someIds are all numbers that come again and again.
var someIds = []int{1, 2, 3, 5, 7, 9, api.MaxId - 1, api.MaxId}

// someNews is a list of few destinations and few distances, so that offers are often as near as others.
func someNews(r *rand.Rand) []api.News {
	var l []api.News
	for _, dest := range someIds {
		if r.IntN(2) == 0 {
			l = append(l, mark(dest, pick(r, 0, 0.25, 1, 1.5, 2, 3, far)))
		}
	}
	for _, dest := range someIds {
		switch r.IntN(6) {
		case 0:
			l = append(l, ball(dest, pick(r, 0.0, 1, far), inf, 0))
		case 1:
			l = append(l, ball(dest, pick(r, 0.0, 1, far), pick(r, 0, 4, far), pick(r, someIds...)))
		}
	}
	return l
}

// someHeard is what one of them may have heard.
func someHeard(r *rand.Rand, self int) []api.Heard {
	var l []api.Heard
	for _, from := range someIds {
		if from != self && r.IntN(3) > 0 {
			l = append(l, heard(from, pick(r, 1, 1.25, 1.5, 2, 3, api.MaxWeight), someNews(r)...))
		}
	}
	return l
}

// anyHeard is mostly what may be; else one part of it is another, or stands elsewhere.
func anyHeard(r *rand.Rand, self int) []api.Heard {
	l := someHeard(r, self)
	if len(l) == 0 || r.IntN(4) > 0 {
		return l
	}
	i, k := r.IntN(len(l)), r.IntN(len(l))
	switch r.IntN(6) {
	case 0:
		l[i].From = pick(r, append(wrongNumbers(), self)...)
	case 1:
		l[i].Weight = pick(r, wrongWeights()...)
	case 2:
		l[i].News = pick(r, wrongLists()...)
	case 3:
		l[i], l[k] = l[k], l[i]
	case 4:
		l = slices.Insert(l, i, l[k])
	default:
		l = slices.Insert(l, i, heard(self, 1, mark(3, 1)))
	}
	return l
}

// someMarks is marks that one of them may have.
func someMarks(r *rand.Rand, self int) []api.Entry {
	var l []api.Entry
	for _, dest := range someIds {
		switch {
		case dest == self || r.IntN(3) == 0:
		case r.IntN(4) == 0:
			l = append(l, farMark(dest))
		default:
			l = append(l, entry(dest, pick(r, 0.25, 1, 1.5, 2, 3, far), pick(r, someIds...)))
		}
	}
	return l
}

// anyMarks is mostly what may be.
func anyMarks(r *rand.Rand, self int) []api.Entry {
	l := someMarks(r, self)
	if len(l) == 0 || r.IntN(4) > 0 {
		return l
	}
	i, k := r.IntN(len(l)), r.IntN(len(l))
	switch r.IntN(4) {
	case 0:
		l[i] = pick(r, wrongMarks()...)
	case 1:
		l[i], l[k] = l[k], l[i]
	case 2:
		l = slices.Insert(l, i, l[k])
	default:
		l = slices.Insert(l, i, entry(self, 1, 2))
	}
	return l
}

func anyLimit(r *rand.Rand) float64 {
	if r.IntN(10) == 0 {
		return pick(r, wrongLimits()...)
	}
	return pick(r, 1, 1.25, 2, 2.75, 3, 4, 5, 1<<20, 1<<20+2, api.MaxLimit-0.25, api.MaxLimit)
}
