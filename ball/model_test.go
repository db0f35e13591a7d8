package ball_test

import (
	"cmp"
	"math/rand/v2"
	"slices"

	"beacon/api"
	"beacon/graph"
	"beacon/metric"
)

// What the chapter says, once more and in another way: in whole quarters, by sums over all pairs, each entry asked of the chapter's table by itself.

// far is more quarters than any way has.
const far = 1 << 50

// quarters is a weight or a limit in quarters.
func quarters(f float64) int { return int(f * 4) }

// model is a graph under a limit, the routers that are up, and what is between each two of them in quarters: far, if they are too far.
type model struct {
	g      api.Graph
	max    float64
	ups    []api.Node
	steps  map[[2]int]int // the live links, by both ends
	dist   map[[2]int]int
	homeOf map[int]home
}

// home is a router's home, 0 if it has none, and how many quarters its radius is.
type home struct{ id, radius int }

func modelOf(g api.Graph, max float64) model {
	m := model{g: g, max: max, steps: map[[2]int]int{}, dist: map[[2]int]int{}, homeOf: map[int]home{}}
	if m.refuses() != api.OK {
		return m
	}
	isUp := map[int]bool{}
	for _, n := range g.Nodes {
		isUp[n.Id] = n.Up
		if n.Up {
			m.ups = append(m.ups, n)
		}
	}
	for _, l := range g.Links {
		if l.Up && isUp[l.A] && isUp[l.B] {
			m.steps[[2]int{l.A, l.B}] = quarters(l.Weight)
			m.steps[[2]int{l.B, l.A}] = quarters(l.Weight)
		}
	}
	m.sum()
	for _, n := range m.ups {
		m.homeOf[n.Id] = m.nearest(n.Id)
	}
	return m
}

// sum finds the distances, by way of each router.
func (m model) sum() {
	length := make([][]int, len(m.ups))
	for i, a := range m.ups {
		length[i] = make([]int, len(m.ups))
		for k, b := range m.ups {
			step, ok := m.steps[[2]int{a.Id, b.Id}]
			switch {
			case i == k:
			case ok:
				length[i][k] = step
			default:
				length[i][k] = far
			}
		}
	}
	for by := range m.ups {
		for i := range m.ups {
			for k := range m.ups {
				length[i][k] = min(length[i][k], length[i][by]+length[by][k])
			}
		}
	}
	for i, a := range m.ups {
		for k, b := range m.ups {
			if length[i][k] >= quarters(m.max) {
				length[i][k] = far
			}
			m.dist[[2]int{a.Id, b.Id}] = length[i][k]
		}
	}
}

// refuses is what is told first: what layer 7 refuses of the graph, what layer 1 refuses of the limit, and who is not there or down.
func (m model) refuses(ids ...int) api.Errno {
	if e := graph.Check(m.g); e != api.OK {
		return e
	}
	if e := metric.Limit(m.max); e != api.OK {
		return e
	}
	for _, id := range ids {
		if !slices.ContainsFunc(m.g.Nodes, func(n api.Node) bool { return n.Id == id && n.Up }) {
			return api.ErrNone
		}
	}
	return api.OK
}

func floatOf(length int) float64 {
	if length == far {
		return inf
	}
	return float64(length) / 4
}

func (m model) nearest(id int) home {
	var marks []home
	for _, n := range m.ups {
		if d := m.dist[[2]int{n.Id, id}]; n.Mark && d != far {
			marks = append(marks, home{n.Id, d})
		}
	}
	if marks == nil {
		return home{0, far}
	}
	return slices.MinFunc(marks, func(a, b home) int { return cmp.Or(a.radius-b.radius, a.id-b.id) })
}

func (m model) homes() ([]api.Home, api.Errno) {
	if e := m.refuses(); e != api.OK {
		return nil, e
	}
	var l []api.Home
	for _, n := range m.ups {
		l = append(l, api.Home{Id: n.Id, Home: m.homeOf[n.Id].id, Radius: floatOf(m.homeOf[n.Id].radius)})
	}
	return l, api.OK
}

// next is the least of all neighbours by which the other one is as far as it is; 0: it is too far.
func (m model) next(u, w int) int {
	if m.dist[[2]int{u, w}] == far {
		return 0
	}
	for _, v := range m.ups {
		step, ok := m.steps[[2]int{u, v.Id}]
		if ok && step+m.dist[[2]int{v.Id, w}] == m.dist[[2]int{u, w}] {
			return v.Id
		}
	}
	return 0
}

// hears tells whether a router has a neighbour that is not too far from another one.
func (m model) hears(u, w int) bool {
	for _, v := range m.ups {
		_, ok := m.steps[[2]int{u, v.Id}]
		if ok && m.dist[[2]int{v.Id, w}] != far {
			return true
		}
	}
	return false
}

// entries is which entries of a kind a router has.
func (m model) entries(u, kind int) []api.Entry {
	var l []api.Entry
	for _, n := range m.ups {
		w, home := n.Id, m.homeOf[n.Id]
		d := m.dist[[2]int{u, w}]
		has := map[int]bool{
			api.EntryMark:  n.Mark && (d != far || m.hears(u, w)),
			api.EntryBall:  !n.Mark && d < home.radius,
			api.EntryFlock: !n.Mark && home.id == u && d == home.radius && d != far,
		}
		if w == u || !has[kind] {
			continue
		}
		entry := api.Entry{Dest: w, Kind: kind, Dist: floatOf(d), Next: m.next(u, w), Radius: floatOf(home.radius), Home: home.id}
		if kind == api.EntryMark {
			entry.Radius, entry.Home = 0, 0
		}
		l = append(l, entry)
	}
	return l
}

func (m model) table(u int) ([]api.Entry, api.Errno) {
	if e := m.refuses(u); e != api.OK {
		return nil, e
	}
	return slices.Concat(m.entries(u, api.EntryMark), m.entries(u, api.EntryBall), m.entries(u, api.EntryFlock)), api.OK
}

func (m model) knows(u, w int) (bool, api.Errno) {
	if e := m.refuses(u, w); e != api.OK {
		return false, e
	}
	table, _ := m.table(u)
	return u == w || slices.ContainsFunc(table, func(e api.Entry) bool { return e.Dest == w && e.Dist != inf }), api.OK
}

func (m model) tables() ([][]api.Entry, api.Errno) {
	if e := m.refuses(); e != api.OK {
		return nil, e
	}
	var l [][]api.Entry
	for _, n := range m.ups {
		table, _ := m.table(n.Id)
		l = append(l, table)
	}
	return l, api.OK
}

func (m model) sizes() ([]int, api.Errno) {
	tables, e := m.tables()
	var l []int
	for _, table := range tables {
		l = append(l, len(table))
	}
	return l, e
}

func pick[T any](r *rand.Rand, l ...T) T { return l[r.IntN(len(l))] }

// someGraph is a graph that may be, of some of these nodes and some of the links between them; its weights are few, so that ways are often as long as others, and landmarks as near.
func someGraph(r *rand.Rand, ids ...int) api.Graph {
	var g api.Graph
	share, downs, marks := r.IntN(5), pick(r, 3, 5, 20, 1000), pick(r, 2, 3, 4, 8)
	for _, id := range ids {
		if r.IntN(8) > 0 {
			g.Nodes = append(g.Nodes, api.Node{Id: id, Up: r.IntN(downs) > 0, Mark: r.IntN(marks) == 0})
		}
	}
	weights := pick(r, []float64{1}, []float64{1, 2, 3}, []float64{1, 1.25, 1.5, 1.75, 2.5, 2.75}, []float64{1, 5, 20}, []float64{1 << 20, 1<<20 - 0.25, 1 << 19})
	for i, a := range g.Nodes {
		for _, b := range g.Nodes[i+1:] {
			if r.IntN(5) >= share {
				g.Links = append(g.Links, api.Link{A: a.Id, B: b.Id, Weight: pick(r, weights...), Up: r.IntN(downs) > 0})
			}
		}
	}
	return g
}

// someLimit is a limit that may be: mostly one that the graph's distances are about.
func someLimit(r *rand.Rand, g api.Graph) float64 {
	l := []float64{1, 1.25, 2, 2.75, 3, 10, 1 << 20, 1 << 30}
	for _, d := range modelOf(g, most).dist {
		if d > 4 && d < far {
			l = append(l, float64(d-1)/4, float64(d)/4, float64(d+1)/4)
		}
	}
	slices.Sort(l) // so that the draws are the same each time
	return pick(r, l...)
}
