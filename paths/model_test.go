package paths_test

import (
	"math"
	"math/rand/v2"
	"slices"

	"beacon/api"
	"beacon/graph"
	"beacon/metric"
)

// What the chapter says, once more and in another way: by all ways, one by one, and in whole quarters.

// far is more quarters than any way has.
const far = 1 << 50

// quarters is a weight or a limit in quarters.
func quarters(f float64) int { return int(f * 4) }

// floatOf is a length as a float: too far, if it is not below the limit.
func floatOf(length int, max float64) float64 {
	if length >= quarters(max) {
		return inf
	}
	return float64(length) / 4
}

// stepsOf is what is between routers at once: the quarters of the live links, by both ends.
func stepsOf(g api.Graph) map[[2]int]int {
	isUp := map[int]bool{}
	for _, n := range g.Nodes {
		isUp[n.Id] = n.Up
	}
	steps := map[[2]int]int{}
	for _, l := range g.Links {
		if l.Up && isUp[l.A] && isUp[l.B] {
			steps[[2]int{l.A, l.B}] = quarters(l.Weight)
			steps[[2]int{l.B, l.A}] = quarters(l.Weight)
		}
	}
	return steps
}

// told is what is so of two routers: the least length of a way, whatever the limit, and the first hop of the least ways.
type told struct {
	length int
	next   int
}

// allWays tells of all pairs by going all ways on which no router stands twice. It is for small graphs.
func allWays(g api.Graph) map[[2]int]told {
	steps := stepsOf(g)
	all := map[[2]int]told{}
	for _, from := range g.Nodes {
		for _, to := range g.Nodes {
			all[[2]int{from.Id, to.Id}] = told{length: far}
		}
		if !from.Up {
			continue
		}
		var goOn func(way []int, length int)
		goOn = func(way []int, length int) {
			at, next := way[len(way)-1], 0
			if len(way) > 1 {
				next = way[1]
			}
			best := all[[2]int{from.Id, at}]
			if length < best.length || length == best.length && next < best.next {
				all[[2]int{from.Id, at}] = told{length, next}
			}
			for _, n := range g.Nodes {
				if step, ok := steps[[2]int{at, n.Id}]; ok && !slices.Contains(way, n.Id) {
					goOn(append(slices.Clone(way), n.Id), length+step)
				}
			}
		}
		goOn([]int{from.Id}, 0)
	}
	return all
}

// allSums tells of all pairs by way of each router. It is for great graphs.
func allSums(g api.Graph) map[[2]int]told {
	steps := stepsOf(g)
	n := len(g.Nodes)
	length := make([][]int, n)
	for i, a := range g.Nodes {
		length[i] = make([]int, n)
		for k, b := range g.Nodes {
			length[i][k] = far
			if step, ok := steps[[2]int{a.Id, b.Id}]; ok {
				length[i][k] = step
			}
		}
		if a.Up {
			length[i][i] = 0
		}
	}
	for by := range n {
		for i := range n {
			for k := range n {
				length[i][k] = min(length[i][k], length[i][by]+length[by][k])
			}
		}
	}
	all := map[[2]int]told{}
	for i, a := range g.Nodes {
		for k, b := range g.Nodes {
			t := told{length: length[i][k]}
			for by, v := range g.Nodes {
				step, ok := steps[[2]int{a.Id, v.Id}]
				if t.next == 0 && i != k && ok && t.length < far && step+length[by][k] == t.length {
					t.next = v.Id
				}
			}
			all[[2]int{a.Id, b.Id}] = t
		}
	}
	return all
}

// model is a graph with what is so of all pairs of its routers.
type model struct {
	g   api.Graph
	all map[[2]int]told
}

func modelOf(g api.Graph) model {
	if graph.Check(g) != api.OK {
		return model{g: g}
	}
	if len(g.Nodes) <= 6 {
		return model{g, allWays(g)}
	}
	return model{g, allSums(g)}
}

// refuses is what is told first: what layer 1 refuses of the limit, what layer 7 refuses of the graph, and who is not there.
func (m model) refuses(max float64, ids ...int) api.Errno {
	if e := metric.Limit(max); e != api.OK {
		return e
	}
	if e := graph.Check(m.g); e != api.OK {
		return e
	}
	for _, id := range ids {
		if !slices.ContainsFunc(m.g.Nodes, func(n api.Node) bool { return n.Id == id }) {
			return api.ErrNone
		}
	}
	return api.OK
}

func (m model) dist(max float64, from, to int) float64 {
	return floatOf(m.all[[2]int{from, to}].length, max)
}

func (m model) next(max float64, from, to int) int {
	if m.dist(max, from, to) == inf {
		return 0
	}
	return m.all[[2]int{from, to}].next
}

func (m model) dists(max float64, from int) ([]float64, api.Errno) {
	if e := m.refuses(max, from); e != api.OK {
		return nil, e
	}
	var l []float64
	for _, n := range m.g.Nodes {
		l = append(l, m.dist(max, from, n.Id))
	}
	return l, api.OK
}

func (m model) nexts(max float64, from int) ([]int, api.Errno) {
	if e := m.refuses(max, from); e != api.OK {
		return nil, e
	}
	var l []int
	for _, n := range m.g.Nodes {
		l = append(l, m.next(max, from, n.Id))
	}
	return l, api.OK
}

func (m model) path(max float64, from, to int) ([]int, float64, api.Errno) {
	if e := m.refuses(max, from, to); e != api.OK {
		return nil, 0, e
	}
	dist := m.dist(max, from, to)
	if dist == inf {
		return nil, inf, api.OK
	}
	path := []int{from}
	for at := from; at != to; path = append(path, at) {
		at = m.next(max, at, to)
	}
	return path, dist, api.OK
}

func (m model) near(max float64, from int, radius float64) ([]int, api.Errno) {
	if e := m.refuses(max, from); e != api.OK {
		return nil, e
	}
	if radius != radius {
		return nil, api.ErrNaN
	}
	if math.Float64bits(radius)>>63 == 1 {
		return nil, api.ErrSign
	}
	var l []int
	for _, n := range m.g.Nodes {
		if m.dist(max, from, n.Id) < radius {
			l = append(l, n.Id)
		}
	}
	return l, api.OK
}

// components are those that have the same first one that they reach.
func (m model) components() ([][]int, api.Errno) {
	if e := graph.Check(m.g); e != api.OK {
		return nil, e
	}
	var l [][]int
	for _, first := range m.g.Nodes {
		var component []int
		for _, n := range m.g.Nodes {
			if m.firstReached(n.Id) == first.Id {
				component = append(component, n.Id)
			}
		}
		if component != nil {
			l = append(l, component)
		}
	}
	return l, api.OK
}

// firstReached is the least number of a router that one reaches; 0: it is down.
func (m model) firstReached(id int) int {
	for _, n := range m.g.Nodes {
		if m.all[[2]int{id, n.Id}].length < far {
			return n.Id
		}
	}
	return 0
}

func (m model) wide(max float64) (float64, api.Errno) {
	if e := m.refuses(max); e != api.OK {
		return 0, e
	}
	wide := 0.0
	for _, t := range m.all {
		if d := floatOf(t.length, max); d != inf && d > wide {
			wide = d
		}
	}
	return wide, api.OK
}

func pick[T any](r *rand.Rand, l ...T) T { return l[r.IntN(len(l))] }

// someGraph is a graph that may be, of some of these nodes and some of the links between them; its weights are few, so that ways are often as long as others.
func someGraph(r *rand.Rand, ids ...int) api.Graph {
	var g api.Graph
	share, downs := r.IntN(4), pick(r, 3, 5, 20, 1000)
	for _, id := range ids {
		if r.IntN(8) > 0 {
			g.Nodes = append(g.Nodes, api.Node{Id: id, Up: r.IntN(downs) > 0, Mark: r.IntN(3) == 0})
		}
	}
	weights := pick(r, []float64{1}, []float64{1, 2, 3}, []float64{1, 1.25, 1.5, 1.75, 2.5, 2.75}, []float64{1, 5, 20}, []float64{1 << 20, 1<<20 - 0.25, 1 << 19})
	for i, a := range g.Nodes {
		for _, b := range g.Nodes[i+1:] {
			if r.IntN(4) >= share {
				g.Links = append(g.Links, api.Link{A: a.Id, B: b.Id, Weight: pick(r, weights...), Up: r.IntN(downs) > 0})
			}
		}
	}
	return g
}

// someLimit is a limit that may be: mostly one that the graph's distances are about.
func someLimit(r *rand.Rand, m model) float64 {
	l := []float64{1, 1.25, 2, 2.75, 3, 10, 1 << 20, 1 << 30}
	for _, t := range m.all {
		if t.length > 4 && t.length < far {
			l = append(l, float64(t.length-1)/4, float64(t.length)/4, float64(t.length+1)/4)
		}
	}
	slices.Sort(l) // so that the draws are the same each time
	return pick(r, l...)
}
