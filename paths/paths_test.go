package paths_test

import (
	"fmt"
	"math"
	"math/rand/v2"
	"slices"
	"testing"

	"beacon/api"
	"beacon/guard"
	"beacon/metric"
	"beacon/paths"
)

var (
	inf      = math.Inf(1)
	negInf   = math.Inf(-1)
	negZero  = math.Copysign(0, -1)
	nan      = math.NaN()
	negNaN   = math.Float64frombits(0xfff8000000000000)
	otherNaN = math.Float64frombits(0x7ff0000000000001)
	tiny     = math.SmallestNonzeroFloat64
)

const most = 1 << 30 // the greatest limit

// strangers is numbers of no router of a graph without them.
func strangers() []int {
	return []int{0, -1, -2, math.MinInt, 77, api.MaxId + 1, 1 << 32, 1<<32 + 1, math.MaxInt}
}

// Graphs, by what they are.

func ups(ids ...int) api.Graph {
	var g api.Graph
	for _, id := range ids {
		g.Nodes = append(g.Nodes, api.Node{Id: id, Up: true})
	}
	return g
}

func link(a, b int, weight float64) api.Link { return api.Link{A: a, B: b, Weight: weight, Up: true} }

// with is a graph with other links.
func with(g api.Graph, l ...api.Link) api.Graph { return api.Graph{Nodes: g.Nodes, Links: l} }

// crashed is a graph some of whose routers are down.
func crashed(g api.Graph, ids ...int) api.Graph {
	g.Nodes = slices.Clone(g.Nodes)
	for i, n := range g.Nodes {
		if slices.Contains(ids, n.Id) {
			g.Nodes[i].Up = false
		}
	}
	return g
}

// cut is a graph some of whose links, by their places, are down.
func cut(g api.Graph, places ...int) api.Graph {
	g.Links = slices.Clone(g.Links)
	for _, i := range places {
		g.Links[i].Up = false
	}
	return g
}

// triangle is the chapter's example.
func triangle() api.Graph { return with(ups(1, 2, 3), link(1, 2, 2), link(1, 3, 3), link(2, 3, 1)) }

// row is routers one behind the other, with links of a weight.
func row(n int, weight float64) api.Graph {
	var g api.Graph
	for i := range n {
		g.Nodes = append(g.Nodes, api.Node{Id: i + 1, Up: true})
		if i > 0 {
			g.Links = append(g.Links, link(i, i+1, weight))
		}
	}
	return g
}

// thick is as many routers and links as may be; the last of the routers are reached by long ways.
func thick(r *rand.Rand, weights ...float64) api.Graph {
	g := row(api.MaxNodes, 1)
	g.Links = nil
	for a := 1; a <= api.MaxNodes; a++ {
		for b := a + 1; b <= api.MaxNodes; b++ {
			if b == a+1 || b <= 91 && len(g.Links)+api.MaxNodes-a <= api.MaxLinks {
				g.Links = append(g.Links, link(a, b, pick(r, weights...)))
			}
		}
	}
	return g
}

// Answers, held against each other.

func short(v any) string {
	s := fmt.Sprintf("%+v", v)
	return s[:min(len(s), 500)]
}

func sameBits(a, b float64) bool { return math.Float64bits(a) == math.Float64bits(b) }

func distsAre(t *testing.T, g api.Graph, max float64, from int, want []float64, wantError api.Errno) {
	t.Helper()
	if got, e := paths.Dists(g, max, from); !slices.EqualFunc(got, want, sameBits) || e != wantError {
		t.Fatalf("Dists(%s, %v, %d): %s, %d, not %s, %d", short(g), max, from, short(got), e, short(want), wantError)
	}
}

func nextsAre(t *testing.T, g api.Graph, max float64, from int, want []int, wantError api.Errno) {
	t.Helper()
	if got, e := paths.Nexts(g, max, from); !slices.Equal(got, want) || e != wantError {
		t.Fatalf("Nexts(%s, %v, %d): %s, %d, not %s, %d", short(g), max, from, short(got), e, short(want), wantError)
	}
}

func pathIs(t *testing.T, g api.Graph, max float64, from, to int, want []int, wantDist float64, wantError api.Errno) {
	t.Helper()
	if got, dist, e := paths.Path(g, max, from, to); !slices.Equal(got, want) || !sameBits(dist, wantDist) || e != wantError {
		t.Fatalf("Path(%s, %v, %d, %d): %s, %v, %d, not %s, %v, %d", short(g), max, from, to, short(got), dist, e, short(want), wantDist, wantError)
	}
}

func nearAre(t *testing.T, g api.Graph, max float64, from int, radius float64, want []int, wantError api.Errno) {
	t.Helper()
	if got, e := paths.Near(g, max, from, radius); !slices.Equal(got, want) || e != wantError {
		t.Fatalf("Near(%s, %v, %d, %v): %s, %d, not %s, %d", short(g), max, from, radius, short(got), e, short(want), wantError)
	}
}

func componentsAre(t *testing.T, g api.Graph, want [][]int, wantError api.Errno) {
	t.Helper()
	if got, e := paths.Components(g); !slices.EqualFunc(got, want, slices.Equal[[]int]) || e != wantError {
		t.Fatalf("Components(%s): %s, %d, not %s, %d", short(g), short(got), e, short(want), wantError)
	}
}

func wideIs(t *testing.T, g api.Graph, max, want float64, wantError api.Errno) {
	t.Helper()
	if got, e := paths.Wide(g, max); !sameBits(got, want) || e != wantError {
		t.Fatalf("Wide(%s, %v): %v, %d, not %v, %d", short(g), max, got, e, want, wantError)
	}
}

// refused: all calls that are asked about a limit tell an error, and nothing else.
func refused(t *testing.T, g api.Graph, max float64, from, to int, radius float64, want api.Errno) {
	t.Helper()
	distsAre(t, g, max, from, nil, want)
	nextsAre(t, g, max, from, nil, want)
	pathIs(t, g, max, from, to, nil, 0, want)
	nearAre(t, g, max, from, radius, nil, want)
	if want != api.ErrNone { // Wide asks for nobody
		wideIs(t, g, max, 0, want)
	}
}

// radii is radii of all sorts.
func radii(max float64) []float64 {
	return []float64{0, tiny, 0.25, 1, 1.1, 2, 2.5, 3, max, max - 0.25, max + 0.25, math.Nextafter(2, 0), math.Nextafter(2, 3), most, math.MaxFloat64, inf, nan, negNaN, otherNaN, negZero, -tiny, -1, negInf}
}

// check holds all that is promised of a graph under a limit against the model.
func check(t *testing.T, m model, max float64) {
	t.Helper()
	components, e := m.components()
	componentsAre(t, m.g, components, e)
	wide, e := m.wide(max)
	wideIs(t, m.g, max, wide, e)
	for _, n := range m.g.Nodes {
		checkFrom(t, m, max, n.Id)
	}
	for _, id := range strangers() {
		checkFrom(t, m, max, id)
	}
}

// checkFrom holds what is promised of one router against the model.
func checkFrom(t *testing.T, m model, max float64, from int) {
	t.Helper()
	dists, e := m.dists(max, from)
	distsAre(t, m.g, max, from, dists, e)
	nexts, e := m.nexts(max, from)
	nextsAre(t, m.g, max, from, nexts, e)
	for _, radius := range append(radii(max), dists...) {
		near, e := m.near(max, from, radius)
		nearAre(t, m.g, max, from, radius, near, e)
	}
	for _, n := range append([]api.Node{{Id: 0}, {Id: 77}, {Id: math.MaxInt}}, m.g.Nodes...) {
		path, dist, e := m.path(max, from, n.Id)
		pathIs(t, m.g, max, from, n.Id, path, dist, e)
	}
}

// The chapter's examples.
func TestExamples(t *testing.T) {
	distsAre(t, triangle(), 10, 1, []float64{0, 2, 3}, api.OK)
	nextsAre(t, triangle(), 10, 1, []int{0, 2, 2}, api.OK)
	distsAre(t, triangle(), 3, 1, []float64{0, 2, inf}, api.OK)
	pathIs(t, triangle(), 10, 1, 3, []int{1, 2, 3}, 3, api.OK)
	distsAre(t, crashed(triangle(), 2), 10, 1, []float64{0, inf, 3}, api.OK)
	componentsAre(t, crashed(triangle(), 2), [][]int{{1, 3}}, api.OK)
}

// limitErrors is limits that may not be, and what layer 1 refuses of them.
func limitErrors() map[float64]api.Errno {
	return map[float64]api.Errno{
		nan: api.ErrNaN, negNaN: api.ErrNaN, otherNaN: api.ErrNaN, inf: api.ErrInf, negInf: api.ErrInf, negZero: api.ErrSign, -1: api.ErrSign, -tiny: api.ErrSign,
		0.75: api.ErrLow, tiny: api.ErrLow, math.Nextafter(1, 0): api.ErrLow, most + 0.25: api.ErrHigh, math.MaxFloat64: api.ErrHigh, 1.1: api.ErrQuarter, 10.125: api.ErrQuarter,
	}
}

// wrongGraphs is graphs that may not be, by what layer 7 refuses of them.
func wrongGraphs() map[api.Errno]api.Graph {
	return map[api.Errno]api.Graph{
		api.ErrFull:    {Nodes: row(api.MaxNodes, 1).Nodes, Links: make([]api.Link, api.MaxLinks+1)},
		api.ErrNode:    with(ups(2, 1), link(1, 2, 1)),
		api.ErrLink:    with(ups(1, 2), link(2, 1, 1)),
		api.ErrNaN:     with(ups(1, 2), link(1, 2, nan)),
		api.ErrInf:     with(ups(1, 2), link(1, 2, inf)),
		api.ErrSign:    with(ups(1, 2), link(1, 2, negZero)),
		api.ErrLow:     with(ups(1, 2), link(1, 2, 0)),
		api.ErrHigh:    with(ups(1, 2), link(1, 2, most)),
		api.ErrQuarter: with(ups(1, 2), link(1, 2, 1.1)),
	}
}

// A limit that may not be goes ahead of all else that is wrong.
func TestLimitErrors(t *testing.T) {
	for max, want := range limitErrors() {
		for _, g := range []api.Graph{triangle(), {}} {
			refused(t, g, max, 1, 2, 1, want)
			refused(t, g, max, 9, 1, nan, want)
		}
		for _, g := range wrongGraphs() {
			refused(t, g, max, 1, 2, 1, want)
			refused(t, g, max, 9, 9, negZero, want)
		}
	}
	refused(t, triangle(), 0, 1, 2, 1, api.ErrLow)
}

// A graph that may not be goes ahead of who is not there, and of the radius; it is all that Components refuses.
func TestGraphErrors(t *testing.T) {
	for want, g := range wrongGraphs() {
		for _, max := range []float64{1, 10, 10.25, most} {
			refused(t, g, max, 1, 2, 1, want)
			refused(t, g, max, 9, 1, nan, want)
			refused(t, g, max, 1, 9, negZero, want)
		}
		componentsAre(t, g, nil, want)
		componentsAre(t, crashed(g, 1), nil, want)
	}
	full := row(api.MaxNodes, 1)
	full.Nodes = append(full.Nodes, api.Node{Id: api.MaxId})
	refused(t, full, 10, 1, 2, 1, api.ErrFull)
	componentsAre(t, full, nil, api.ErrFull)
}

// Who is none of the routers goes ahead of the radius. (One that is down is one of them.)
func TestNoneErrors(t *testing.T) {
	for _, g := range []api.Graph{triangle(), crashed(triangle(), 1, 2, 3), {}, ups(2, api.MaxId)} {
		for _, id := range append(strangers(), 4) {
			for _, radius := range []float64{1, inf, nan, negZero, -1} {
				refused(t, g, 10, id, id, radius, api.ErrNone)
				refused(t, g, 10, id, 2, radius, api.ErrNone)
			}
			pathIs(t, g, 10, 2, id, nil, 0, api.ErrNone)
		}
	}
	pathIs(t, crashed(triangle(), 1), 10, 1, 9, nil, 0, api.ErrNone)
	pathIs(t, crashed(triangle(), 1), 10, 9, 1, nil, 0, api.ErrNone)
}

// Pa3: radii that may not be.
func TestRadiusErrors(t *testing.T) {
	for _, g := range []api.Graph{triangle(), crashed(triangle(), 1), ups(1)} {
		for _, radius := range []float64{nan, negNaN, otherNaN} {
			nearAre(t, g, 10, 1, radius, nil, api.ErrNaN)
		}
		for _, radius := range []float64{negZero, -tiny, -1, -10, negInf} {
			nearAre(t, g, 10, 1, radius, nil, api.ErrSign)
		}
	}
}

// Pa1: distances by several links, and to each router in the order of the graph.
func TestDists(t *testing.T) {
	g := with(ups(2, 3, 5, 7, 11), link(2, 3, 1.25), link(2, 7, 10), link(3, 5, 2.5), link(5, 7, 1))
	distsAre(t, g, most, 2, []float64{0, 1.25, 3.75, 4.75, inf}, api.OK)
	distsAre(t, g, most, 7, []float64{4.75, 3.5, 1, 0, inf}, api.OK)
	distsAre(t, g, most, 11, []float64{inf, inf, inf, inf, 0}, api.OK)
	distsAre(t, cut(g, 2), most, 2, []float64{0, 1.25, 11, 10, inf}, api.OK)
	distsAre(t, cut(g, 1, 2), most, 2, []float64{0, 1.25, inf, inf, inf}, api.OK)
	distsAre(t, ups(api.MaxId), 1, api.MaxId, []float64{0}, api.OK)
}

// Pa1: a distance is below the limit, or too far; what lies behind what is too far is so, too.
func TestDistsUnderLimits(t *testing.T) {
	g := row(4, 1.25)
	distsAre(t, g, 1, 1, []float64{0, inf, inf, inf}, api.OK)
	distsAre(t, g, 1.25, 1, []float64{0, inf, inf, inf}, api.OK)
	distsAre(t, g, 1.5, 1, []float64{0, 1.25, inf, inf}, api.OK)
	distsAre(t, g, 2.5, 1, []float64{0, 1.25, inf, inf}, api.OK)
	distsAre(t, g, 2.75, 1, []float64{0, 1.25, 2.5, inf}, api.OK)
	distsAre(t, g, 3.75, 1, []float64{0, 1.25, 2.5, inf}, api.OK)
	distsAre(t, g, 4, 1, []float64{0, 1.25, 2.5, 3.75}, api.OK)
	nextsAre(t, g, 2.75, 1, []int{0, 2, 2, 0}, api.OK)
	nextsAre(t, g, 2.5, 1, []int{0, 2, 0, 0}, api.OK)
	nextsAre(t, g, 1, 1, []int{0, 0, 0, 0}, api.OK)
	wideIs(t, g, 2.5, 1.25, api.OK)
	wideIs(t, g, 2.75, 2.5, api.OK)
	wideIs(t, g, 1.25, 0, api.OK)
	pathIs(t, g, 2.5, 1, 3, nil, inf, api.OK)
	pathIs(t, g, 2.75, 1, 3, []int{1, 2, 3}, 2.5, api.OK)
}

// Pa1, Pa2, Pa3: of a router that is down all is too far, itself too; it may be asked for.
func TestDown(t *testing.T) {
	g := crashed(triangle(), 1)
	distsAre(t, g, 10, 1, []float64{inf, inf, inf}, api.OK)
	distsAre(t, g, 10, 2, []float64{inf, 0, 1}, api.OK)
	nextsAre(t, g, 10, 1, []int{0, 0, 0}, api.OK)
	nextsAre(t, g, 10, 2, []int{0, 0, 3}, api.OK)
	pathIs(t, g, 10, 1, 1, nil, inf, api.OK)
	pathIs(t, g, 10, 1, 2, nil, inf, api.OK)
	pathIs(t, g, 10, 2, 1, nil, inf, api.OK)
	nearAre(t, g, 10, 1, inf, nil, api.OK)
	nearAre(t, g, 10, 2, inf, []int{2, 3}, api.OK)
	componentsAre(t, g, [][]int{{2, 3}}, api.OK)
	wideIs(t, g, 10, 1, api.OK)
	all := crashed(triangle(), 1, 2, 3)
	componentsAre(t, all, nil, api.OK)
	wideIs(t, all, 10, 0, api.OK)
	marked := api.Graph{Nodes: []api.Node{{Id: 1, Mark: true}, {Id: 2, Up: true, Mark: true}}, Links: []api.Link{link(1, 2, 1)}}
	distsAre(t, marked, 10, 2, []float64{inf, 0}, api.OK)
	distsAre(t, marked, 10, 1, []float64{inf, inf}, api.OK)
	distsAre(t, cut(triangle(), 2), 10, 2, []float64{2, 0, 5}, api.OK)
	nextsAre(t, cut(triangle(), 2), 10, 2, []int{1, 0, 1}, api.OK)
}

// Pa1: of first hops of ways as long the one with the least number, wherever the ways part, however many hops they have, and in which order they are found.
func TestNexts(t *testing.T) {
	ring := with(ups(1, 2, 3, 4), link(1, 2, 1), link(1, 3, 1), link(2, 4, 1), link(3, 4, 1))
	nextsAre(t, ring, 10, 1, []int{0, 2, 3, 2}, api.OK)
	nextsAre(t, ring, 10, 4, []int{2, 2, 3, 0}, api.OK)
	nextsAre(t, ring, 10, 2, []int{1, 0, 1, 4}, api.OK)
	// The lesser first hop is the farther one, and is met later.
	late := with(ups(1, 2, 3, 4), link(1, 2, 3), link(1, 3, 1), link(2, 4, 1), link(3, 4, 3))
	nextsAre(t, late, 10, 1, []int{0, 2, 3, 2}, api.OK)
	// The ways part at the first hop and meet two hops ahead of their end.
	long := with(ups(1, 2, 3, 4, 5, 6), link(1, 2, 2), link(1, 3, 1), link(2, 4, 2), link(3, 4, 3), link(4, 5, 1), link(5, 6, 1))
	nextsAre(t, long, 100, 1, []int{0, 2, 3, 2, 2, 2}, api.OK)
	// The last hop's number does not matter: 9 is first on the way by 2, 2 on none that is least from 8.
	back := with(ups(1, 2, 8, 9), link(1, 9, 1), link(2, 8, 1), link(2, 9, 1), link(8, 9, 1))
	nextsAre(t, back, 10, 8, []int{9, 2, 0, 9}, api.OK)
	nextsAre(t, back, 10, 1, []int{0, 9, 9, 9}, api.OK)
	// Straight, and by one that is less, and by one that is more.
	nextsAre(t, with(ups(2, 3, 4), link(2, 3, 1), link(2, 4, 2), link(3, 4, 1)), 10, 2, []int{0, 3, 3}, api.OK)
	nextsAre(t, with(ups(2, 3, 4), link(2, 3, 2), link(2, 4, 1), link(3, 4, 1)), 10, 2, []int{0, 3, 4}, api.OK)
	// A way that is less by a quarter goes ahead of a lesser number.
	nextsAre(t, with(ups(1, 2, 3, 4), link(1, 2, 1), link(1, 3, 1), link(2, 4, 1.25), link(3, 4, 1)), 10, 1, []int{0, 2, 3, 3}, api.OK)
}

// Pa2: hop by hop, each the least one from there.
func TestPath(t *testing.T) {
	g := with(ups(1, 2, 3, 4, 5, 6, 7), link(1, 3, 1), link(1, 4, 1), link(2, 5, 1), link(3, 5, 1), link(3, 6, 1), link(4, 5, 1), link(5, 7, 1), link(6, 7, 1))
	pathIs(t, g, 10, 1, 7, []int{1, 3, 5, 7}, 3, api.OK)
	pathIs(t, g, 10, 7, 1, []int{7, 5, 3, 1}, 3, api.OK)
	pathIs(t, g, 10, 6, 4, []int{6, 3, 1, 4}, 3, api.OK)
	pathIs(t, g, 10, 4, 6, []int{4, 1, 3, 6}, 3, api.OK)
	pathIs(t, g, 10, 2, 1, []int{2, 5, 3, 1}, 3, api.OK)
	pathIs(t, g, 3, 2, 1, nil, inf, api.OK)
	pathIs(t, g, 3, 2, 3, []int{2, 5, 3}, 2, api.OK)
	for _, n := range g.Nodes {
		pathIs(t, g, 1, n.Id, n.Id, []int{n.Id}, 0, api.OK)
	}
	pathIs(t, ups(1, 2), most, 1, 2, nil, inf, api.OK)
	pathIs(t, with(ups(1, 2), link(1, 2, 1<<20)), most, 2, 1, []int{2, 1}, 1<<20, api.OK)
}

// Pa3: those below the radius, itself too, but none at it.
func TestNear(t *testing.T) {
	g := with(ups(1, 2, 3, 4, 5), link(1, 3, 1), link(2, 3, 1.5), link(3, 4, 1))
	for _, x := range []struct {
		radius float64
		want   []int
	}{
		{0, nil}, {tiny, []int{3}}, {0.25, []int{3}}, {1, []int{3}}, {math.Nextafter(1, 2), []int{1, 3, 4}}, {1.5, []int{1, 3, 4}}, {1.6, []int{1, 2, 3, 4}}, {1.75, []int{1, 2, 3, 4}},
		{10, []int{1, 2, 3, 4}}, {most, []int{1, 2, 3, 4}}, {math.MaxFloat64, []int{1, 2, 3, 4}}, {inf, []int{1, 2, 3, 4}},
	} {
		nearAre(t, g, 10, 3, x.radius, x.want, api.OK)
	}
	nearAre(t, g, 1.5, 3, inf, []int{1, 3, 4}, api.OK)
	nearAre(t, g, 1.5, 3, 100, []int{1, 3, 4}, api.OK)
	nearAre(t, g, 1, 3, inf, []int{3}, api.OK)
	nearAre(t, g, 10, 5, inf, []int{5}, api.OK)
}

// Pa4: those that reach one another, by their first ones; each router that is up stands in one, alone or not.
func TestComponents(t *testing.T) {
	componentsAre(t, api.Graph{}, nil, api.OK)
	componentsAre(t, ups(4), [][]int{{4}}, api.OK)
	componentsAre(t, ups(1, 2, api.MaxId), [][]int{{1}, {2}, {api.MaxId}}, api.OK)
	g := with(ups(1, 2, 3, 4, 5, 6, 7), link(1, 6, 1), link(2, 5, 1<<20), link(3, 5, 1<<20), link(4, 6, 1))
	componentsAre(t, g, [][]int{{1, 4, 6}, {2, 3, 5}, {7}}, api.OK)
	componentsAre(t, crashed(g, 5), [][]int{{1, 4, 6}, {2}, {3}, {7}}, api.OK)
	componentsAre(t, crashed(g, 1), [][]int{{2, 3, 5}, {4, 6}, {7}}, api.OK)
	componentsAre(t, cut(g, 3), [][]int{{1, 6}, {2, 3, 5}, {4}, {7}}, api.OK)
	last := with(ups(1, 2, 3, 4, 5), link(1, 5, 1), link(2, 4, 1), link(3, 5, 1))
	componentsAre(t, last, [][]int{{1, 3, 5}, {2, 4}}, api.OK)
	far := row(api.MaxNodes, api.MaxWeight)
	l, e := paths.Components(far)
	if e != api.OK || len(l) != 1 || len(l[0]) != api.MaxNodes || !slices.IsSorted(l[0]) {
		t.Errorf("a long row: %s, %d", short(l), e)
	}
}

// Pa4: the greatest distance, wherever it is.
func TestWide(t *testing.T) {
	wideIs(t, api.Graph{}, 10, 0, api.OK)
	wideIs(t, ups(1), 10, 0, api.OK)
	wideIs(t, ups(1, 2, 3), 10, 0, api.OK)
	g := with(ups(1, 2, 3, 4, 5, 6), link(1, 2, 1), link(3, 4, 5), link(4, 5, 2.25))
	wideIs(t, g, 100, 7.25, api.OK)
	wideIs(t, g, 7.5, 7.25, api.OK)
	wideIs(t, g, 7.25, 5, api.OK)
	wideIs(t, g, 5, 2.25, api.OK)
	wideIs(t, g, 2, 1, api.OK)
	wideIs(t, g, 1, 0, api.OK)
	wideIs(t, crashed(g, 4), 100, 1, api.OK)
	wideIs(t, cut(g, 1), 100, 2.25, api.OK)
}

// Pa1, Pa2, Pa3, Pa4: many small graphs, whose ways are gone one by one.
func TestAgainstAllWays(t *testing.T) {
	r := rand.New(rand.NewPCG(8, 1))
	for range 700 {
		m := modelOf(someGraph(r, 1, 2, 3, 50, 60, api.MaxId))
		check(t, m, someLimit(r, m))
		check(t, m, pick(r, 1.1, 0, 1.25, nan, most, most+1))
	}
}

// Pa1, Pa2, Pa3, Pa4: greater graphs.
func TestAgainstAllSums(t *testing.T) {
	r := rand.New(rand.NewPCG(8, 2))
	for range 60 {
		m := modelOf(someGraph(r, 1, 2, 3, 4, 5, 6, 7, 9, 10, 12, 99, 100, api.MaxId-1, api.MaxId))
		check(t, m, someLimit(r, m))
		check(t, m, most)
	}
}

// Pa1, Pa2, Pa4: as many routers and links as may be.
func TestMost(t *testing.T) {
	r := rand.New(rand.NewPCG(8, 3))
	for _, weights := range [][]float64{{1}, {1, 1.25, 1.5, 2, 2.5, 3}, {api.MaxWeight}} {
		m := modelOf(thick(r, weights...))
		if len(m.g.Links) < api.MaxLinks-100 {
			t.Fatalf("only %d links", len(m.g.Links))
		}
		for _, max := range []float64{10, someLimit(r, m), most} {
			wide, e := m.wide(max)
			wideIs(t, m.g, max, wide, e)
			for _, from := range []int{1, 91, 200, api.MaxNodes} {
				dists, e := m.dists(max, from)
				distsAre(t, m.g, max, from, dists, e)
				nexts, e := m.nexts(max, from)
				nextsAre(t, m.g, max, from, nexts, e)
				path, dist, e := m.path(max, from, 1)
				pathIs(t, m.g, max, from, 1, path, dist, e)
			}
		}
	}
	g := row(api.MaxNodes, api.MaxWeight)
	wideIs(t, g, most, (api.MaxNodes-1)<<20, api.OK)
	wideIs(t, g, (api.MaxNodes-1)<<20, (api.MaxNodes-2)<<20, api.OK)
	path, dist, e := paths.Path(g, most, api.MaxNodes, 1)
	if len(path) != api.MaxNodes || path[0] != api.MaxNodes || path[1] != api.MaxNodes-1 || dist != (api.MaxNodes-1)<<20 || e != api.OK {
		t.Errorf("the longest way: %s, %v, %d", short(path), dist, e)
	}
}

// answers is what is told of a graph that may be under a limit, by the routers' places.
type answers struct {
	dists [][]float64
	nexts [][]int
	place map[int]int
}

func answersOf(t *testing.T, g api.Graph, max float64) answers {
	t.Helper()
	a := answers{place: map[int]int{}}
	for i, n := range g.Nodes {
		dists, e := paths.Dists(g, max, n.Id)
		nexts, f := paths.Nexts(g, max, n.Id)
		if e != api.OK || f != api.OK || len(dists) != len(g.Nodes) || len(nexts) != len(g.Nodes) {
			t.Fatalf("of %s under %v from %d: %v, %v, %d, %d", short(g), max, n.Id, dists, nexts, e, f)
		}
		a.dists, a.nexts, a.place[n.Id] = append(a.dists, dists), append(a.nexts, nexts), i
	}
	return a
}

// Pa5: both ways the same; none farther than by way of a third one, as long as that is below the limit.
func TestDistsFollow(t *testing.T) {
	r := rand.New(rand.NewPCG(8, 4))
	for range 300 {
		m := modelOf(someGraph(r, 1, 2, 3, 4, 5, 6, 7, 8))
		max := someLimit(r, m)
		d := answersOf(t, m.g, max).dists
		for i := range d {
			for k := range d {
				if e := metric.Dist(d[i][k], max); e != api.OK || d[i][k] != d[k][i] {
					t.Fatalf("%s under %v: %v and %v", short(m.g), max, d[i][k], d[k][i])
				}
				for by := range d {
					if sum := d[i][by] + d[by][k]; sum < max && d[i][k] > sum {
						t.Fatalf("%s under %v: %v, but %v by way of another one", short(m.g), max, d[i][k], sum)
					}
				}
			}
		}
	}
}

// weightOf is the weight of a link that must be up.
func weightOf(t *testing.T, g api.Graph, a, b int) float64 {
	t.Helper()
	for _, l := range g.Links {
		if l.A == min(a, b) && l.B == max(a, b) && l.Up {
			return l.Weight
		}
	}
	t.Fatalf("%s has no link of %d and %d", short(g), a, b)
	return 0
}

// Pa5: the first hop is nearer by the weight of its link; there is one just if it is another router that is not too far.
func TestNextsFollow(t *testing.T) {
	r := rand.New(rand.NewPCG(8, 5))
	for range 300 {
		m := modelOf(someGraph(r, 1, 2, 3, 4, 5, 6, 7, 8))
		max := someLimit(r, m)
		a := answersOf(t, m.g, max)
		for i, u := range m.g.Nodes {
			for k := range m.g.Nodes {
				next := a.nexts[i][k]
				if (next != 0) != (i != k && a.dists[i][k] != inf) {
					t.Fatalf("%s under %v: from %d to the one at %d: %d", short(m.g), max, u.Id, k, next)
				}
				if next != 0 && a.dists[a.place[next]][k]+weightOf(t, m.g, u.Id, next) != a.dists[i][k] {
					t.Fatalf("%s under %v: from %d to the one at %d: %d is not nearer", short(m.g), max, u.Id, k, next)
				}
			}
		}
	}
}

// Pa5: a Path is as long as the distance, no router stands in it twice, and what is left of it is the Path from there.
func TestPathFollows(t *testing.T) {
	r := rand.New(rand.NewPCG(8, 6))
	for range 200 {
		m := modelOf(someGraph(r, 1, 2, 3, 4, 5, 6, 7, 8))
		max := someLimit(r, m)
		a := answersOf(t, m.g, max)
		for i, u := range m.g.Nodes {
			for k, w := range m.g.Nodes {
				path, dist, e := paths.Path(m.g, max, u.Id, w.Id)
				if e != api.OK || dist != a.dists[i][k] || (dist == inf) != (path == nil) {
					t.Fatalf("%s under %v: from %d to %d: %v, %v, %d", short(m.g), max, u.Id, w.Id, path, dist, e)
				}
				left := dist
				for n := 1; n < len(path); n++ {
					if slices.Contains(path[n:], path[n-1]) || a.nexts[a.place[path[n-1]]][k] != path[n] {
						t.Fatalf("%s under %v: %v", short(m.g), max, path)
					}
					left -= weightOf(t, m.g, path[n-1], path[n])
					pathIs(t, m.g, max, path[n], w.Id, path[n:], left, api.OK)
				}
				if dist != inf && left != 0 {
					t.Fatalf("%s under %v: %v is not %v long", short(m.g), max, path, dist)
				}
			}
		}
	}
}

// Pa6: under a greater limit what was not too far is as far as it was; in one component are just those that the greatest limit has not too far.
func TestLimitsFollow(t *testing.T) {
	r := rand.New(rand.NewPCG(8, 7))
	for range 300 {
		m := modelOf(someGraph(r, 1, 2, 3, 4, 5, 6, 7, 8))
		one, other := someLimit(r, m), someLimit(r, m)
		less, more := answersOf(t, m.g, min(one, other)).dists, answersOf(t, m.g, max(one, other)).dists
		whole := answersOf(t, m.g, most)
		for i := range less {
			for k := range less {
				if less[i][k] != inf && less[i][k] != more[i][k] || more[i][k] != inf && more[i][k] != whole.dists[i][k] {
					t.Fatalf("%s: %v under %v and %v", short(m.g), less[i][k], one, other)
				}
			}
		}
		components, e := paths.Components(m.g)
		of := map[int]int{}
		for n, component := range components {
			for _, id := range component {
				of[id] = n + 1
			}
		}
		for i, u := range m.g.Nodes {
			for k, w := range m.g.Nodes {
				if e != api.OK || (of[u.Id] != 0 && of[u.Id] == of[w.Id]) != (whole.dists[i][k] != inf) {
					t.Fatalf("%s: %v, %d, but %d and %d are at %v", short(m.g), components, e, u.Id, w.Id, whole.dists[i][k])
				}
			}
		}
	}
}

// R3: nil and the empty list are the same.
func TestEmptyLists(t *testing.T) {
	for _, g := range []api.Graph{{}, {Nodes: []api.Node{}, Links: []api.Link{}}, {Nodes: make([]api.Node, 0, 5), Links: make([]api.Link, 0, 5)}} {
		refused(t, g, 10, 1, 1, 1, api.ErrNone)
		componentsAre(t, g, nil, api.OK)
		wideIs(t, g, 10, 0, api.OK)
	}
	g := ups(1, 2)
	g.Links = []api.Link{}
	distsAre(t, g, 10, 1, []float64{0, inf}, api.OK)
}

// lists is all lists that are told of a graph.
type lists struct {
	floats [][]float64
	ints   [][]int
}

func listsOf(g api.Graph) lists {
	var l lists
	for _, n := range g.Nodes {
		dists, _ := paths.Dists(g, 10, n.Id)
		nexts, _ := paths.Nexts(g, 10, n.Id)
		near, _ := paths.Near(g, 10, n.Id, inf)
		path, _, _ := paths.Path(g, 10, n.Id, g.Nodes[0].Id)
		l.floats = append(l.floats, dists)
		l.ints = append(l.ints, nexts, near, path)
	}
	components, _ := paths.Components(g)
	l.ints = append(l.ints, components...)
	return l
}

func (l lists) same(other lists) bool {
	return slices.EqualFunc(l.floats, other.floats, slices.Equal[[]float64]) && slices.EqualFunc(l.ints, other.ints, slices.Equal[[]int])
}

// spoil overwrites a list and the room behind it.
func spoil[T any](l []T, v T) {
	l = l[:cap(l)]
	for i := range l {
		l[i] = v
	}
}

// R3: answers are new, each of its own, with the room behind it.
func TestAnswersAreNew(t *testing.T) {
	g := with(ups(1, 2, 3, 4, 5, 6, 7), link(1, 2, 1), link(1, 4, 2), link(2, 4, 1), link(3, 5, 1), link(5, 7, 1))
	want := listsOf(g)
	for n := range want.ints {
		got := listsOf(g)
		spoil(got.ints[n], 99)
		got.ints[n] = want.ints[n]
		if !got.same(want) {
			t.Fatalf("behind a changed list: %v, not %v", got, want)
		}
	}
	for n := range want.floats {
		got := listsOf(g)
		spoil(got.floats[n], 99)
		got.floats[n] = want.floats[n]
		if !got.same(want) {
			t.Fatalf("behind a changed list: %v, not %v", got, want)
		}
	}
	components, _ := paths.Components(g)
	spoil(components, nil)
	componentsAre(t, g, [][]int{{1, 2, 4}, {3, 5, 7}, {6}}, api.OK)
}

// R3: what is handed in, and the room behind it, is not changed and not kept.
func TestArgumentsStay(t *testing.T) {
	g := with(ups(1, 2, 3, 4, 5), link(1, 2, 1), link(1, 4, 2), link(2, 4, 1), link(3, 5, 1))
	all := api.Graph{Nodes: append(slices.Clone(g.Nodes), api.Node{Id: 100, Up: true}), Links: append(slices.Clone(g.Links), link(4, 5, 1), link(4, 100, 1))}
	before := api.Graph{Nodes: slices.Clone(all.Nodes), Links: slices.Clone(all.Links)}
	given := api.Graph{Nodes: all.Nodes[:len(g.Nodes)], Links: all.Links[:len(g.Links)]}
	want, got := listsOf(g), listsOf(given)
	wideIs(t, given, 10, 2, api.OK)
	if !got.same(want) || !slices.Equal(all.Nodes, before.Nodes) || !slices.Equal(all.Links, before.Links) {
		t.Errorf("%s with room behind: %v, not %v; now %s", short(g), got, want, short(all))
	}
	spoil(all.Nodes, api.Node{Id: 77})
	spoil(all.Links, link(77, 78, 79))
	if !got.same(want) {
		t.Errorf("behind a changed argument: %v, not %v", got, want)
	}
}

// R1, R4: whatever is asked, a call ends, and tells the same again.
func TestAnyArguments(t *testing.T) {
	r := rand.New(rand.NewPCG(8, 8))
	for range 400 {
		g := someGraph(r, 1, 2, 3, 4, 5)
		for range r.IntN(3) {
			g = changed(r, g)
		}
		m := modelOf(g)
		max := pick(r, someLimit(r, m), someLimit(r, m), nan, inf, negInf, negZero, 0, 0.75, 1.1, most+0.25, math.MaxFloat64)
		ended := guard.Run(func() {
			check(t, m, max)
			check(t, m, max)
		})
		if ended.Kind != api.CaughtNone {
			t.Fatalf("%s under %v: panics: %v", short(g), max, ended)
		}
	}
}

// changed is a graph of which a part is another one: it may not be, mostly.
func changed(r *rand.Rand, g api.Graph) api.Graph {
	g = api.Graph{Nodes: slices.Clone(g.Nodes), Links: slices.Clone(g.Links)}
	id := pick(r, 0, -1, 1, 2, 3, 4, 5, 99, api.MaxId, api.MaxId+1, math.MaxInt, math.MinInt)
	if len(g.Links) == 0 || r.IntN(3) == 0 {
		g.Nodes = append(g.Nodes, api.Node{Id: id, Up: true})
		return g
	}
	l := &g.Links[r.IntN(len(g.Links))]
	switch r.IntN(4) {
	case 0:
		l.A = id
	case 1:
		l.B = id
	case 2:
		l.Weight = pick(r, nan, inf, negInf, negZero, 0, -1, 0.75, 1.1, 1<<20+0.25, 1e300)
	default:
		g.Links = append(g.Links, *l)
	}
	return g
}
