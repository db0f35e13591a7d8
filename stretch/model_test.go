package stretch_test

import (
	"cmp"
	"math"
	"math/big"
	"math/rand/v2"
	"slices"

	"beacon/api"
	"beacon/graph"
	"beacon/metric"
)

// What the chapter says, once more and in another way: in whole quarters, roads by their first hop and the road from there, quotients by fractions.

// far is more quarters than any way has.
const far = 1 << 50

// nanBits is the one NaN that is told.
const nanBits = 0x7ff8000000000000

// quarters is a weight or a limit in quarters.
func quarters(f float64) int { return int(f * 4) }

// two is two routers, by their numbers.
type two struct{ u, w int }

// nearest is a router's home, 0 if it has none, and how many quarters away that is.
type nearest struct{ home, radius int }

// model is a graph under a limit: who is up, who stands beside whom, and what is between two of them in quarters.
type model struct {
	g      api.Graph
	max    float64
	ups    []int
	isMark map[int]bool
	beside map[int][]int // rising
	step   map[two]int
	dist   map[two]int // far, if they are too far
	homeOf map[int]nearest
}

func modelOf(g api.Graph, max float64) model {
	m := model{g: g, max: max, isMark: map[int]bool{}, beside: map[int][]int{}, step: map[two]int{}, dist: map[two]int{}, homeOf: map[int]nearest{}}
	if m.refuses() != api.OK {
		return m
	}
	for _, n := range g.Nodes {
		if n.Up {
			m.ups = append(m.ups, n.Id)
			m.isMark[n.Id] = n.Mark
		}
	}
	for _, l := range g.Links {
		if l.Up && slices.Contains(m.ups, l.A) && slices.Contains(m.ups, l.B) {
			m.step[two{l.A, l.B}], m.step[two{l.B, l.A}] = quarters(l.Weight), quarters(l.Weight)
			m.beside[l.A], m.beside[l.B] = append(m.beside[l.A], l.B), append(m.beside[l.B], l.A)
		}
	}
	for _, id := range m.ups {
		slices.Sort(m.beside[id])
		m.reach(id)
	}
	for _, id := range m.ups {
		m.homeOf[id] = m.nearestTo(id)
	}
	return m
}

// reach finds how far all are from one: as long as a router comes nearer, its neighbours may, too.
func (m model) reach(from int) {
	for _, id := range m.ups {
		m.dist[two{from, id}] = far
	}
	m.dist[two{from, from}] = 0
	for changed := []int{from}; len(changed) > 0; {
		var next []int
		for _, at := range changed {
			for _, id := range m.beside[at] {
				sum := m.dist[two{from, at}] + m.step[two{at, id}]
				if sum < m.dist[two{from, id}] && sum < quarters(m.max) {
					m.dist[two{from, id}] = sum
					next = append(next, id)
				}
			}
		}
		changed = next
	}
}

// refuses is what is told first: what layer 7 refuses of the graph, what layer 1 refuses of the limit, and who is not there or down.
func (m model) refuses(ids ...int) api.Errno {
	if e := graph.Check(m.g); e != api.OK {
		return e
	}
	if e := metric.Limit(m.max); e != api.OK {
		return e
	}
	for _, id := range ids {
		if !slices.ContainsFunc(m.g.Nodes, func(n api.Node) bool { return n.Id == id && n.Up }) {
			return api.ErrNone
		}
	}
	return api.OK
}

func (m model) nearestTo(id int) nearest {
	l := []nearest{{0, far}}
	for _, mark := range m.ups {
		if d := m.dist[two{mark, id}]; m.isMark[mark] && d < far {
			l = append(l, nearest{mark, d})
		}
	}
	return slices.MinFunc(l, func(a, b nearest) int { return cmp.Or(a.radius-b.radius, a.home-b.home) })
}

// knows tells whether the one knows the other, which is not it.
func (m model) knows(u, w int) bool {
	d := m.dist[two{u, w}]
	return d < far && (m.isMark[w] || d < m.homeOf[w].radius || m.homeOf[w].home == u)
}

// hop is the least neighbour by whom the other one is as far as it is.
func (m model) hop(u, w int) int {
	for _, v := range m.beside[u] {
		if m.step[two{u, v}]+m.dist[two{v, w}] == m.dist[two{u, w}] {
			return v
		}
	}
	return 0
}

// nodes is the routers of the road from the one to the other.
func (m model) nodes(u, w int) []int {
	home := m.homeOf[w].home
	switch {
	case u == w:
		return []int{u}
	case m.knows(u, w):
		return append([]int{u}, m.nodes(m.hop(u, w), w)...)
	case home != 0 && m.dist[two{u, home}] < far:
		return append([]int{u}, m.nodes(m.hop(u, home), w)...)
	}
	return []int{u}
}

// length is how many quarters a road has.
func (m model) length(nodes []int) int {
	sum := 0
	for i := 1; i < len(nodes); i++ {
		sum += m.step[two{nodes[i-1], nodes[i]}]
	}
	return sum
}

func (m model) travel(u, w int) (api.Road, api.Errno) {
	if e := m.refuses(u, w); e != api.OK {
		return api.Road{}, e
	}
	nodes := m.nodes(u, w)
	return api.Road{Nodes: nodes, Weight: float64(m.length(nodes)) / 4, Ok: nodes[len(nodes)-1] == w}, api.OK
}

func (m model) ratio(u, w int) (float64, api.Errno) {
	if e := m.refuses(u, w); e != api.OK {
		return 0, e
	}
	return m.ratioOf(two{u, w}), api.OK
}

func (m model) ratioOf(p two) float64 {
	d, nodes := m.dist[p], m.nodes(p.u, p.w)
	switch {
	case p.u == p.w:
		return 1
	case d == far:
		return math.Float64frombits(nanBits)
	case nodes[len(nodes)-1] != p.w:
		return inf
	}
	f, _ := big.NewRat(int64(m.length(nodes)), int64(d)).Float64()
	return f
}

// nears is all two that are near, by rising u, then w.
func (m model) nears() []two {
	var l []two
	for _, u := range m.ups {
		for _, w := range m.ups {
			if d := m.dist[two{u, w}]; u != w && d < far && 3*d < quarters(m.max) {
				l = append(l, two{u, w})
			}
		}
	}
	return l
}

func (m model) worst() (int, int, float64, api.Errno) {
	if e := m.refuses(); e != api.OK {
		return 0, 0, 0, e
	}
	nears := m.nears()
	if len(nears) == 0 {
		return 0, 0, 1, api.OK
	}
	ratios := map[two]float64{}
	for _, p := range nears {
		ratios[p] = m.ratioOf(p)
	}
	p := slices.MinFunc(nears, func(a, b two) int { return cmp.Or(cmp.Compare(ratios[b], ratios[a]), a.u-b.u, a.w-b.w) })
	return p.u, p.w, ratios[p], api.OK
}

func (m model) mean() (float64, api.Errno) {
	if e := m.refuses(); e != api.OK {
		return 0, e
	}
	nears := m.nears()
	if len(nears) == 0 {
		return math.Float64frombits(nanBits), api.OK
	}
	sum := new(big.Float).SetPrec(53) // as many bits as a float has
	for _, p := range nears {
		sum.Add(sum, big.NewFloat(m.ratioOf(p)))
	}
	mean, _ := sum.Quo(sum, big.NewFloat(float64(len(nears)))).Float64()
	return mean, api.OK
}

func pick[T any](r *rand.Rand, l ...T) T { return l[r.IntN(len(l))] }

// someGraph is a graph that may be, of some of these nodes and some of the links between them; its weights are few, so that ways are often as long as others, and landmarks as near.
func someGraph(r *rand.Rand, ids ...int) api.Graph {
	var g api.Graph
	share, downs, marks := r.IntN(5), pick(r, 4, 20, 1000), pick(r, 1, 2, 3, 4, 8)
	for _, id := range ids {
		if r.IntN(8) > 0 {
			g.Nodes = append(g.Nodes, api.Node{Id: id, Up: r.IntN(downs) > 0, Mark: r.IntN(marks) == 0})
		}
	}
	weights := pick(r, []float64{1}, []float64{1, 2, 3}, []float64{1, 1.25, 1.5, 1.75, 2.5, 2.75}, []float64{1, 5, 20}, []float64{1 << 20, 1<<20 - 0.25, 1 << 19})
	for i, a := range g.Nodes {
		for _, b := range g.Nodes[i+1:] {
			if r.IntN(5) >= share {
				g.Links = append(g.Links, api.Link{A: a.Id, B: b.Id, Weight: pick(r, weights...), Up: r.IntN(downs) > 0})
			}
		}
	}
	return g
}

// someLimit is a limit that may be: mostly one that the graph's distances, or three times these, are about.
func someLimit(r *rand.Rand, g api.Graph) float64 {
	l := []float64{1, 1.25, 2, 2.75, 3, 10, 1 << 20, most, most}
	for _, d := range modelOf(g, most).dist {
		if d > 4 && d < far {
			l = append(l, float64(d)/4, float64(d+1)/4, float64(3*d)/4, float64(3*d+1)/4)
		}
	}
	slices.Sort(l) // so that the draws are the same each time
	return pick(r, l...)
}
