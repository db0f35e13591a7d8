package stretch

import (
	"math"

	"beacon/api"
	"beacon/ball"
	"beacon/paths"
)

// nearTimes is how many times the distance of two that are near is below the limit: no road between them is longer.
const nearTimes = 3

// network is a graph under a limit, and what roads in it come of, by the routers' numbers.
type network struct {
	graph   api.Graph
	max     float64
	homes   map[int]int        // of each router that is up; 0: it has none
	nexts   map[[2]int]int     // from one to another one that it knows
	weights map[[2]int]float64 // of the links, by their ends
}

// pair is two that are near, and their ratio.
type pair struct {
	u, w  int
	ratio float64
}

// networkOf is the network of a graph under a limit, if both may be, and all routers that are asked for are up.
func networkOf(g api.Graph, max float64, ids ...int) (network, api.Errno) {
	homes, e := ball.Homes(g, max) // it refuses what Check and Limit refuse
	if e != api.OK {
		return network{}, e
	}
	n := network{graph: g, max: max, homes: map[int]int{}, nexts: map[[2]int]int{}, weights: map[[2]int]float64{}}
	for _, h := range homes {
		n.homes[h.Id] = h.Home
	}
	for _, id := range ids {
		if _, ok := n.homes[id]; !ok {
			return network{}, api.ErrNone
		}
	}
	tables, _ := ball.Tables(g, max) // it refuses no more than Homes does
	for i, h := range homes {
		n.learn(h.Id, tables[i])
	}
	for _, l := range g.Links {
		n.weights[[2]int{l.A, l.B}] = l.Weight
		n.weights[[2]int{l.B, l.A}] = l.Weight
	}
	return n, api.OK
}

// learn keeps where a router goes to whom it knows by its table.
func (n network) learn(id int, table []api.Entry) {
	for _, entry := range table {
		if !isTooFar(entry.Dist) {
			n.nexts[[2]int{id, entry.Dest}] = entry.Next
		}
	}
}

func isTooFar(dist float64) bool { return math.IsInf(dist, 1) }

// road is the road from one router to another one. It ends, as each hop is nearer to that one or to its home.
func (n network) road(u, w int) api.Road {
	road := api.Road{Nodes: []int{u}}
	for at := u; at != w; {
		next := n.next(at, w)
		if next == 0 {
			return road
		}
		road.Nodes = append(road.Nodes, next)
		road.Weight += n.weights[[2]int{at, next}]
		at = next
	}
	road.Ok = true
	return road
}

// next is where the road to a router goes on from another one; 0: nowhere.
func (n network) next(at, w int) int {
	if next, ok := n.nexts[[2]int{at, w}]; ok {
		return next
	}
	// Homes are landmarks, so what is known of one is an EntryMark; of no home, 0, nothing is known.
	return n.nexts[[2]int{at, n.homes[w]}]
}

// ratio is how much longer the road between two is than their distance.
func (n network) ratio(u, w int, dist float64) float64 {
	switch {
	case u == w:
		return 1
	case isTooFar(dist):
		return math.Float64frombits(nanBits)
	}
	road := n.road(u, w)
	if !road.Ok {
		return math.Inf(1)
	}
	return road.Weight / dist
}

// nears is all two that are near, by rising u, then rising w.
func (n network) nears() []pair {
	var nears []pair
	for _, u := range n.graph.Nodes {
		dists, _ := paths.Dists(n.graph, n.max, u.Id) // of one that is down all are too far
		for i, w := range n.graph.Nodes {
			if u.Id != w.Id && nearTimes*dists[i] < n.max {
				nears = append(nears, pair{u: u.Id, w: w.Id, ratio: n.ratio(u.Id, w.Id, dists[i])})
			}
		}
	}
	return nears
}
