package paths

import (
	"container/heap"
	"math"

	"beacon/metric"
)

// stop is how one comes to a router: at which place it stands, how far one has gone, and the number of the one that one went to first (0: one has not left yet).
type stop struct {
	at    int
	dist  float64
	first int
}

// queue is the stops that are still to be gone through: which one of them is next is for the queue to say.
type queue interface {
	put(s stop)
	take() (stop, bool) // false: there is none
}

// walk goes out from a router that is up to all that are not too far, by a queue that is empty at first: of each router it tells the stop that was taken first, or one that is too far.
func (n net) walk(from int, max float64, q queue) []stop {
	stops := make([]stop, len(n.nodes))
	for i := range stops {
		stops[i] = stop{at: i, dist: math.Inf(1)}
	}
	if n.nodes[from].Up {
		q.put(stop{at: from})
	}
	for s, ok := q.take(); ok; s, ok = q.take() {
		if !isTooFar(stops[s.at].dist) { // one has come there already
			continue
		}
		stops[s.at] = s
		for _, r := range n.roads[s.at] {
			on := n.onward(s, r, max)
			if isTooFar(stops[r.to].dist) && !isTooFar(on.dist) {
				q.put(on)
			}
		}
	}
	return stops
}

// onward is the stop at the end of a road that leads on from one.
func (n net) onward(s stop, r road, max float64) stop {
	first := s.first
	if first == 0 {
		first = n.nodes[r.to].Id
	}
	return stop{at: r.to, dist: metric.Add(r.weight, s.dist, max), first: first}
}

func isTooFar(dist float64) bool { return math.IsInf(dist, 1) }

// nearest is a queue that gives the nearest stop, of as near ones that with the least first hop. As all roads are longer than nothing, all least ways to a router wait in it before the first of them is taken.
type nearest struct{ stops byDist }

func (q *nearest) put(s stop) { heap.Push(&q.stops, s) }

func (q *nearest) take() (stop, bool) {
	if len(q.stops) == 0 {
		return stop{}, false
	}
	return heap.Pop(&q.stops).(stop), true
}

// byDist is stops as package heap handles them.
type byDist []stop

func (l byDist) Len() int { return len(l) }

func (l byDist) Less(i, k int) bool {
	if l[i].dist != l[k].dist {
		return l[i].dist < l[k].dist
	}
	return l[i].first < l[k].first
}

func (l byDist) Swap(i, k int) { l[i], l[k] = l[k], l[i] }

func (l *byDist) Push(s any) { *l = append(*l, s.(stop)) }

func (l *byDist) Pop() any {
	last := len(*l) - 1
	s := (*l)[last]
	*l = (*l)[:last]
	return s
}

// line is a queue that gives the stop that has waited longest: it serves where only who is reached matters.
type line struct{ stops []stop }

func (q *line) put(s stop) { q.stops = append(q.stops, s) }

func (q *line) take() (stop, bool) {
	if len(q.stops) == 0 {
		return stop{}, false
	}
	s := q.stops[0]
	q.stops = q.stops[1:]
	return s, true
}
