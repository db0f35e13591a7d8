package ball

import (
	"cmp"
	"math"
	"slices"

	"beacon/api"
	"beacon/graph"
	"beacon/metric"
	"beacon/paths"
)

// sight is what is live of a graph, and how far its routers are from one another under a limit, all by the routers' places among its nodes.
type sight struct {
	live  api.Graph
	hops  [][]hop // from each router by the rising numbers of those that they lead to
	max   float64
	dists [][]float64 // from each router; nil: not asked for yet
}

// hop is a live link as it leads away from one of its ends, to the router at a place.
type hop struct {
	to     int
	weight float64
}

// sightOf is the sight of a graph under a limit, if both may be.
func sightOf(g api.Graph, max float64) (*sight, api.Errno) {
	live, e := graph.Live(g) // it refuses what Check refuses
	if e != api.OK {
		return nil, e
	}
	if e := metric.Limit(max); e != api.OK {
		return nil, e
	}
	n := len(live.Nodes)
	s := &sight{live: live, hops: make([][]hop, n), max: max, dists: make([][]float64, n)}
	// As links stand in a graph, those that lead back from a router come ahead of those that lead on from it, and both rise.
	for _, l := range live.Links {
		a, _ := s.place(l.A)
		b, _ := s.place(l.B)
		s.hops[a] = append(s.hops[a], hop{to: b, weight: l.Weight})
		s.hops[b] = append(s.hops[b], hop{to: a, weight: l.Weight})
	}
	return s, api.OK
}

// place is where a router stands; false: it is not there, or is down.
func (s *sight) place(id int) (int, bool) {
	return slices.BinarySearchFunc(s.live.Nodes, id, func(n api.Node, id int) int { return cmp.Compare(n.Id, id) })
}

// distsFrom is how far all are from the router at a place.
func (s *sight) distsFrom(at int) []float64 {
	if s.dists[at] == nil {
		s.dists[at], _ = paths.Dists(s.live, s.max, s.live.Nodes[at].Id) // what is live may be
	}
	return s.dists[at]
}

// dist is how far two are from one another. It is the same both ways: what is known already is not asked for again.
func (s *sight) dist(at, to int) float64 {
	if s.dists[to] != nil {
		return s.dists[to][at]
	}
	return s.distsFrom(at)[to]
}

func isTooFar(dist float64) bool { return math.IsInf(dist, 1) }

// next is the first hop from the one to the other: the least neighbour that is nearer by its link's weight; 0: it is too far.
func (s *sight) next(at, to int) int {
	dist := s.dist(at, to)
	if isTooFar(dist) {
		return 0
	}
	for _, h := range s.hops[at] {
		if h.weight+s.dist(h.to, to) == dist {
			return s.live.Nodes[h.to].Id
		}
	}
	return 0
}

// home is the nearest landmark of the router at a place.
func (s *sight) home(at int) api.Home {
	home := api.Home{Id: s.live.Nodes[at].Id, Radius: math.Inf(1)}
	for mark, n := range s.live.Nodes {
		if !n.Mark {
			continue
		}
		if dist := s.dist(mark, at); dist < home.Radius {
			home.Home, home.Radius = n.Id, dist
		}
	}
	return home
}

func (s *sight) homes() []api.Home {
	var homes []api.Home
	for at := range s.live.Nodes {
		homes = append(homes, s.home(at))
	}
	return homes
}
