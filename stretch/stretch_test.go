package stretch_test

import (
	"fmt"
	"math"
	"math/rand/v2"
	"slices"
	"testing"

	"beacon/api"
	"beacon/ball"
	"beacon/graph"
	"beacon/guard"
	"beacon/paths"
	"beacon/stretch"
)

var (
	inf      = math.Inf(1)
	negInf   = math.Inf(-1)
	negZero  = math.Copysign(0, -1)
	nan      = math.NaN()
	negNaN   = math.Float64frombits(0xfff8000000000000)
	otherNaN = math.Float64frombits(0x7ff0000000000001)
	tiny     = math.SmallestNonzeroFloat64
)

const most = 1 << 30 // the greatest limit

// Graphs, by their texts.

// pathText is the chapter's path.
const pathText = `node 1 mark
node 2
node 3
node 4
link 1 2 1
link 2 3 1
link 3 4 1
`

// ringText has a road that is three times as long as need be: 3 is at 2, and its radius is 1, so 2 goes towards the landmark 4, by 1.
const ringText = `node 1
node 2
node 3
node 4 mark
link 1 2 1
link 1 4 1
link 2 3 1
link 3 4 1
`

// ringsText is two such rings.
const ringsText = `node 1
node 2
node 3
node 4 mark
node 5
node 6
node 7
node 8 mark
link 1 2 1
link 1 4 1
link 2 3 1
link 3 4 1
link 5 6 1
link 5 8 1
link 6 7 1
link 7 8 1
`

func graphOf(text string) api.Graph {
	g, e := graph.Parse(text)
	if e != api.OK {
		panic("no text of a graph: " + text)
	}
	return g
}

// after is a graph behind changes.
func after(g api.Graph, l ...api.Change) api.Graph {
	for _, c := range l {
		changed, e := graph.Apply(g, c)
		if e != api.OK {
			panic(fmt.Sprintf("%+v can't be done", c))
		}
		g = changed
	}
	return g
}

func cut(a, b int) api.Change { return api.Change{Kind: api.ChangeCut, A: a, B: b} }

func crash(a int) api.Change { return api.Change{Kind: api.ChangeCrash, A: a} }

func link(a, b int, weight float64) api.Link { return api.Link{A: a, B: b, Weight: weight, Up: true} }

// row is as many routers as may be, one behind the other, the first one a landmark.
func row(weight float64) api.Graph {
	g := api.Graph{Nodes: []api.Node{{Id: 1, Up: true, Mark: true}}}
	for id := 2; id <= api.MaxNodes; id++ {
		g.Nodes = append(g.Nodes, api.Node{Id: id, Up: true})
		g.Links = append(g.Links, link(id-1, id, weight))
	}
	return g
}

// thick is as many routers and links as may be, some of them landmarks; the last of the routers are reached by long ways.
func thick(r *rand.Rand, marks int) api.Graph {
	var g api.Graph
	for id := 1; id <= api.MaxNodes; id++ {
		g.Nodes = append(g.Nodes, api.Node{Id: id, Up: true, Mark: r.IntN(api.MaxNodes/marks) == 0})
	}
	for a := 1; a <= api.MaxNodes; a++ {
		for b := a + 1; b <= api.MaxNodes; b++ {
			if b == a+1 || b <= 91 && len(g.Links)+api.MaxNodes-a <= api.MaxLinks {
				g.Links = append(g.Links, link(a, b, pick(r, 1, 1.25, 1.5, 2, 2.5, 3)))
			}
		}
	}
	return g
}

// Answers, held against each other.

func short(v any) string {
	s := fmt.Sprintf("%+v", v)
	return s[:min(len(s), 900)]
}

func sameBits(a, b float64) bool { return math.Float64bits(a) == math.Float64bits(b) }

func sameRoad(a, b api.Road) bool {
	return slices.Equal(a.Nodes, b.Nodes) && sameBits(a.Weight, b.Weight) && a.Ok == b.Ok
}

func travelIs(t *testing.T, g api.Graph, max float64, u, w int, want api.Road, wantError api.Errno) {
	t.Helper()
	if got, e := stretch.Travel(g, max, u, w); !sameRoad(got, want) || e != wantError {
		t.Fatalf("Travel(%s, %v, %d, %d): %+v, %d, not %+v, %d", short(g), max, u, w, got, e, want, wantError)
	}
}

func ratioIs(t *testing.T, g api.Graph, max float64, u, w int, want float64, wantError api.Errno) {
	t.Helper()
	if got, e := stretch.Ratio(g, max, u, w); !sameBits(got, want) || e != wantError {
		t.Fatalf("Ratio(%s, %v, %d, %d): %v (%x), %d, not %v, %d", short(g), max, u, w, got, math.Float64bits(got), e, want, wantError)
	}
}

func worstIs(t *testing.T, g api.Graph, max float64, u, w int, want float64, wantError api.Errno) {
	t.Helper()
	if gotU, gotW, got, e := stretch.Worst(g, max); gotU != u || gotW != w || !sameBits(got, want) || e != wantError {
		t.Fatalf("Worst(%s, %v): %d, %d, %v, %d, not %d, %d, %v, %d", short(g), max, gotU, gotW, got, e, u, w, want, wantError)
	}
}

func meanIs(t *testing.T, g api.Graph, max float64, want float64, wantError api.Errno) {
	t.Helper()
	if got, e := stretch.Mean(g, max); !sameBits(got, want) || e != wantError {
		t.Fatalf("Mean(%s, %v): %v (%x), %d, not %v, %d", short(g), max, got, math.Float64bits(got), e, want, wantError)
	}
}

// goes: the road comes to its end, and the ratio is this.
func goes(t *testing.T, g api.Graph, max float64, weight, ratio float64, nodes ...int) {
	t.Helper()
	u, w := nodes[0], nodes[len(nodes)-1]
	travelIs(t, g, max, u, w, api.Road{Nodes: nodes, Weight: weight, Ok: true}, api.OK)
	ratioIs(t, g, max, u, w, ratio, api.OK)
}

// stops: the road does not leave the router where it begins.
func stops(t *testing.T, g api.Graph, max float64, u, w int, ratio float64) {
	t.Helper()
	travelIs(t, g, max, u, w, api.Road{Nodes: []int{u}}, api.OK)
	ratioIs(t, g, max, u, w, ratio, api.OK)
}

// refused: all calls tell an error, and nothing else.
func refused(t *testing.T, g api.Graph, max float64, u, w int, want api.Errno) {
	t.Helper()
	travelIs(t, g, max, u, w, api.Road{}, want)
	ratioIs(t, g, max, u, w, 0, want)
	if want != api.ErrNone { // the others ask for nobody
		worstIs(t, g, max, 0, 0, 0, want)
		meanIs(t, g, max, 0, want)
	}
}

// check holds all that is promised of a graph under a limit against the model.
func check(t *testing.T, g api.Graph, max float64) {
	t.Helper()
	m := modelOf(g, max)
	ids := strangers()
	for _, n := range g.Nodes {
		ids = append(ids, n.Id)
	}
	for _, u := range ids {
		for _, w := range ids {
			road, e := m.travel(u, w)
			travelIs(t, g, max, u, w, road, e)
			ratio, e := m.ratio(u, w)
			ratioIs(t, g, max, u, w, ratio, e)
		}
	}
	checkAll(t, m)
}

// checkAll holds what is promised of all two that are near against the model.
func checkAll(t *testing.T, m model) {
	t.Helper()
	u, w, ratio, e := m.worst()
	worstIs(t, m.g, m.max, u, w, ratio, e)
	mean, e := m.mean()
	meanIs(t, m.g, m.max, mean, e)
}

// strangers is numbers of no router of a graph without them.
func strangers() []int {
	return []int{0, -1, math.MinInt, 77, api.MaxId + 1, 1<<32 + 1, math.MaxInt}
}

// The chapter's first example.
func TestPathExample(t *testing.T) {
	g := graphOf(pathText)
	goes(t, g, 100, 1, 1, 4, 3)
	goes(t, g, 100, 2, 1, 2, 3, 4)
	goes(t, g, 100, 2, 1, 4, 3, 2)
	goes(t, g, 100, 3, 1, 1, 2, 3, 4)
	goes(t, g, 100, 3, 1, 4, 3, 2, 1)
	goes(t, g, 100, 0, 1, 3)
	worstIs(t, g, 100, 1, 2, 1, api.OK)
	meanIs(t, g, 100, 1, api.OK)
}

// The chapter's second example.
func TestStarExample(t *testing.T) {
	g := graphOf("node 1 mark\nnode 2\nnode 3\nnode 4\nnode 5\nlink 1 2 1\nlink 1 3 1\nlink 1 4 1\nlink 1 5 1\n")
	goes(t, g, 100, 2, 1, 2, 1, 3)
	goes(t, g, 100, 2, 1, 5, 1, 4)
	worstIs(t, g, 100, 1, 2, 1, api.OK)
	meanIs(t, g, 100, 1, api.OK)
}

// The chapter's third example: of the twelve roads that between 1 and 4 is longer than need be, both ways.
func TestDetourExample(t *testing.T) {
	g := graphOf("node 1\nnode 2 mark\nnode 3\nnode 4\nlink 1 2 1\nlink 1 3 3\nlink 1 4 2\nlink 2 3 1\nlink 3 4 1\n")
	goes(t, g, 100, 3, 1.5, 1, 2, 3, 4)
	goes(t, g, 100, 2, 1, 1, 2, 3)
	goes(t, g, 100, 3, 1.5, 4, 3, 2, 1)
	worstIs(t, g, 100, 1, 4, 1.5, api.OK)
	meanIs(t, g, 100, 13.0/12, api.OK)
}

// limitErrors is limits that may not be, and what layer 1 refuses of them.
func limitErrors() map[float64]api.Errno {
	return map[float64]api.Errno{
		nan: api.ErrNaN, negNaN: api.ErrNaN, otherNaN: api.ErrNaN, inf: api.ErrInf, negInf: api.ErrInf, negZero: api.ErrSign, -1: api.ErrSign, -tiny: api.ErrSign,
		0.75: api.ErrLow, tiny: api.ErrLow, math.Nextafter(1, 0): api.ErrLow, most + 0.25: api.ErrHigh, math.MaxFloat64: api.ErrHigh, 1.1: api.ErrQuarter, 10.125: api.ErrQuarter,
	}
}

// wrongGraphs is graphs that may not be, by what layer 7 refuses of them.
func wrongGraphs() map[api.Errno]api.Graph {
	with := func(l ...api.Link) api.Graph {
		return api.Graph{Nodes: []api.Node{{Id: 1, Up: true, Mark: true}, {Id: 2, Up: true}}, Links: l}
	}
	return map[api.Errno]api.Graph{
		api.ErrFull:    with(make([]api.Link, api.MaxLinks+1)...),
		api.ErrNode:    {Nodes: []api.Node{{Id: 2, Up: true}, {Id: 1, Up: true}}, Links: []api.Link{link(1, 2, 1)}},
		api.ErrLink:    with(link(2, 1, 1)),
		api.ErrNaN:     with(link(1, 2, nan)),
		api.ErrInf:     with(link(1, 2, inf)),
		api.ErrSign:    with(link(1, 2, negZero)),
		api.ErrLow:     with(link(1, 2, 0)),
		api.ErrHigh:    with(link(1, 2, most)),
		api.ErrQuarter: with(link(1, 2, 1.1)),
	}
}

// A graph that may not be goes ahead of a limit that may not be, and of who is not there; what is down must be as it may, too.
func TestGraphErrors(t *testing.T) {
	for want, g := range wrongGraphs() {
		down := api.Graph{Nodes: slices.Clone(g.Nodes), Links: slices.Clone(g.Links)}
		down.Nodes[0].Up, down.Links[0].Up = false, false
		for _, max := range []float64{1, 10, most, 0, negZero, -1, 0.75, 1.1, most + 1, inf, negInf, nan, negNaN} {
			for _, bad := range []api.Graph{g, down} {
				refused(t, bad, max, 1, 2, want)
				refused(t, bad, max, 9, 1, want)
				refused(t, bad, max, 1, 9, want)
				refused(t, bad, max, 1, 1, want)
			}
		}
	}
	refused(t, api.Graph{Nodes: make([]api.Node, api.MaxNodes+1)}, 10, 1, 2, api.ErrFull)
}

// A limit that may not be goes ahead of who is not there; it is told of the empty graph, too.
func TestLimitErrors(t *testing.T) {
	g := graphOf(pathText)
	for max, want := range limitErrors() {
		for _, g := range []api.Graph{g, {}, after(g, crash(1), crash(2), crash(3), crash(4))} {
			refused(t, g, max, 1, 2, want)
			refused(t, g, max, 9, 1, want)
			refused(t, g, max, 1, 9, want)
			refused(t, g, max, 1, 1, want)
		}
	}
	refused(t, g, 0, 1, 2, api.ErrLow)
}

// St1: who is not there, or is down, be it the first one or the second one.
func TestNoneErrors(t *testing.T) {
	g := graphOf(pathText)
	for _, id := range append(strangers(), 2) {
		for _, g := range []api.Graph{after(g, crash(2)), {}} {
			refused(t, g, 10, id, 1, api.ErrNone)
			refused(t, g, 10, 1, id, api.ErrNone)
			refused(t, g, 10, id, id, api.ErrNone)
		}
	}
	goes(t, after(g, crash(2)), 10, 1, 1, 3, 4)
	worstIs(t, after(g, crash(2)), 10, 3, 4, 1, api.OK)
}

// St2: where none are near.
func TestNobodyIsNear(t *testing.T) {
	g := graphOf(pathText)
	for _, g := range []api.Graph{
		{}, {Nodes: []api.Node{}, Links: []api.Link{}}, graphOf("node 7\n"), graphOf("node 1 mark\nnode 2\nnode 3 mark\n"),
		after(g, crash(2), crash(3)), after(g, cut(1, 2), cut(2, 3), cut(3, 4)), after(g, crash(1), crash(2), crash(3), crash(4)),
	} {
		for _, max := range []float64{1, 10, most} {
			worstIs(t, g, max, 0, 0, 1, api.OK)
			meanIs(t, g, max, math.Float64frombits(nanBits), api.OK)
		}
	}
}

// St2: two are near while three times their distance is below the limit, not at it.
func TestNear(t *testing.T) {
	straight := graphOf("node 1 mark\nnode 2\nlink 1 2 1.25\n")
	for _, max := range []float64{1, 1.25, 1.5, 3.5, 3.75} {
		worstIs(t, straight, max, 0, 0, 1, api.OK)
		meanIs(t, straight, max, math.Float64frombits(nanBits), api.OK)
	}
	worstIs(t, straight, 4, 1, 2, 1, api.OK)
	meanIs(t, straight, 4, 1, api.OK)
	ring := graphOf(ringText)
	worstIs(t, ring, 3, 0, 0, 1, api.OK)
	worstIs(t, ring, 3.25, 2, 3, 3, api.OK)
	meanIs(t, ring, 6, 10.0/8, api.OK)
	meanIs(t, ring, 6.25, 14.0/12, api.OK)
	heavy := row(api.MaxWeight)
	meanIs(t, heavy, 3<<20, math.Float64frombits(nanBits), api.OK)
	worstIs(t, heavy, 3<<20+0.25, 1, 2, 1, api.OK)
}

// St1, St3: a road may be three times as long as need be.
func TestThreeTimes(t *testing.T) {
	g := graphOf(ringText)
	goes(t, g, 100, 3, 3, 2, 1, 4, 3)
	goes(t, g, 100, 1, 1, 3, 2)
	goes(t, g, 100, 1, 1, 2, 1)
	goes(t, g, 100, 2, 1, 2, 1, 4)
	worstIs(t, g, 100, 2, 3, 3, api.OK)
	meanIs(t, g, 100, 14.0/12, api.OK)
	// It is so no more where one does not go towards the landmark by 1.
	goes(t, after(g, crash(1)), 100, 1, 1, 2, 3)
	goes(t, after(g, cut(1, 4)), 100, 1, 1, 2, 3)
	goes(t, after(g, cut(1, 4)), 100, 3, 1, 4, 3, 2, 1)
	goes(t, after(g, api.Change{Kind: api.ChangeWeight, A: 1, B: 2, Weight: 1.25}), 100, 1, 1, 2, 3)
	// Nor where who is asked for is a landmark, or where no landmark is.
	goes(t, after(g, api.Change{Kind: api.ChangePromote, A: 3}), 100, 1, 1, 2, 3)
	goes(t, after(g, api.Change{Kind: api.ChangeDemote, A: 4}), 100, 1, 1, 2, 3)
	goes(t, after(g, crash(4)), 100, 1, 1, 2, 3)
}

// St1: the road leaves its way to the home as soon as one on it knows the other, or is it.
func TestRoadTurns(t *testing.T) {
	g := graphOf(`node 1 mark
node 2
node 3
node 4
node 5
node 6
link 1 2 1
link 1 6 3
link 2 3 1
link 3 4 1
link 4 5 2
link 4 6 2
`)
	// 6's radius is 3: 4 knows it, 3 and 5 do not.
	goes(t, g, 100, 4, 1, 5, 4, 6)
	goes(t, g, 100, 5, 5.0/3, 3, 2, 1, 6)
	goes(t, g, 100, 4, 1, 5, 4, 3, 2)
	// It is 2: 4 does not know it, either.
	nearer := after(g, api.Change{Kind: api.ChangeWeight, A: 1, B: 6, Weight: 2})
	goes(t, nearer, 100, 7, 7.0/4, 5, 4, 3, 2, 1, 6)
	goes(t, nearer, 100, 5, 5.0/2, 4, 3, 2, 1, 6)
	// It is 3.25: 3 knows it, too.
	goes(t, after(g, api.Change{Kind: api.ChangeWeight, A: 1, B: 6, Weight: 3.25}), 100, 3, 1, 3, 4, 6)
}

// St1: the road goes towards the home of its end, not that of its beginning, be they as near.
func TestRoadGoesHome(t *testing.T) {
	g := graphOf(`node 1 mark
node 2
node 3
node 4
node 5 mark
link 1 2 1
link 1 4 3
link 2 3 1
link 2 5 1
link 3 4 3
link 4 5 2
`)
	// 4's home is 5, at 2; 2's is 1, at 1; 3's is 1, at 2.
	goes(t, g, 100, 3, 1, 2, 5, 4)
	goes(t, g, 100, 4, 4.0/3, 3, 2, 5, 4)
	goes(t, g, 100, 4, 4.0/3, 4, 1, 2)
	goes(t, g, 100, 5, 5.0/3, 4, 1, 2, 3)
}

// St1: where the home is too far, or there is none, the road ends where it begins.
func TestRoadStops(t *testing.T) {
	g := graphOf("node 1\nnode 2\nnode 3 mark\nlink 1 2 2\nlink 2 3 2\n")
	stops(t, g, 4, 1, 2, inf)
	goes(t, g, 4.25, 2, 1, 1, 2)
	goes(t, g, 4, 2, 1, 2, 1)
	goes(t, g, 4, 2, 1, 2, 3)
	stops(t, g, 4, 1, 3, math.Float64frombits(nanBits))
	stops(t, g, 4, 3, 1, math.Float64frombits(nanBits))
	stops(t, g, 1, 1, 2, math.Float64frombits(nanBits))
	stops(t, after(g, cut(1, 2)), 100, 1, 2, math.Float64frombits(nanBits))
	stops(t, after(g, cut(1, 2)), 100, 1, 3, math.Float64frombits(nanBits))
	stops(t, after(g, cut(1, 2)), 100, 3, 1, math.Float64frombits(nanBits))
	goes(t, after(g, cut(1, 2), cut(2, 3)), 1, 0, 1, 1)
	stops(t, graphOf(ringText), 2, 2, 3, inf)
}

// St1: a road may come to its end where the distance is too far; its weight is a sum, whatever the limit.
func TestRoadPastLimit(t *testing.T) {
	g := graphOf("node 1\nnode 2 mark\nnode 3\nlink 1 2 2.5\nlink 2 3 2.25\n")
	goes(t, g, 2.75, 4.75, math.Float64frombits(nanBits), 1, 2, 3)
	goes(t, g, 4.75, 4.75, math.Float64frombits(nanBits), 1, 2, 3)
	goes(t, g, 5, 4.75, 1, 1, 2, 3)
	stops(t, g, 2.5, 1, 3, math.Float64frombits(nanBits))
	goes(t, graphOf(ringText), 2.25, 3, 3, 2, 1, 4, 3)
	goes(t, graphOf(ringText), 3, 3, 3, 2, 1, 4, 3)
	worstIs(t, g, 2.75, 0, 0, 1, api.OK)
}

// St2: of the same ratio the least u, then the least w, in whatever order the ratios come.
func TestWorst(t *testing.T) {
	both := graphOf("node 1\nnode 2\nnode 3\nnode 5\nnode 9 mark\nlink 1 2 1\nlink 1 9 1\nlink 2 3 1\nlink 2 5 1\nlink 3 9 1\nlink 5 9 1\n")
	goes(t, both, 100, 3, 3, 2, 1, 9, 3)
	goes(t, both, 100, 3, 3, 2, 1, 9, 5)
	worstIs(t, both, 100, 2, 3, 3, api.OK)
	worstIs(t, after(both, crash(3)), 100, 2, 5, 3, api.OK)
	rings := graphOf(ringsText)
	worstIs(t, rings, 100, 2, 3, 3, api.OK)
	worstIs(t, after(rings, crash(1)), 100, 6, 7, 3, api.OK)
	// The greater ratio is the last, or the first.
	lesser := after(rings, api.Change{Kind: api.ChangeWeight, A: 3, B: 4, Weight: 1.25}, api.Change{Kind: api.ChangeWeight, A: 2, B: 3, Weight: 1.25})
	goes(t, lesser, 100, 3.25, 2.6, 2, 1, 4, 3)
	worstIs(t, lesser, 100, 6, 7, 3, api.OK)
	greater := after(rings, api.Change{Kind: api.ChangeWeight, A: 7, B: 8, Weight: 1.25}, api.Change{Kind: api.ChangeWeight, A: 6, B: 7, Weight: 1.25})
	worstIs(t, greater, 100, 2, 3, 3, api.OK)
	// Where all roads are as long as need be, those two that are near first.
	worstIs(t, graphOf("node 1\nnode 2 mark\nnode 3\nlink 1 2 40\nlink 2 3 1\n"), 100, 2, 3, 1, api.OK)
	worstIs(t, graphOf("node 1\nnode 2\nnode 3 mark\nlink 1 3 1\nlink 2 3 1\n"), 100, 1, 2, 1, api.OK)
}

// St1, St2: many small graphs.
func TestAgainstModel(t *testing.T) {
	r := rand.New(rand.NewPCG(10, 1))
	for range 250 {
		g := someGraph(r, 1, 2, 3, 50, 60, api.MaxId)
		check(t, g, someLimit(r, g))
		check(t, g, pick(r, 1.1, 0, 1.25, nan, most, most+1))
	}
	for range 30 {
		g := someGraph(r, 1, 2, 3, 4, 5, 6, 7, 9, 10, 12, 99, 100, api.MaxId-1, api.MaxId)
		check(t, g, someLimit(r, g))
	}
	for range 600 {
		g := someGraph(r, 1, 2, 3, 4, 5, 6, 7, 8, 9, 10, 11, 12, 13)
		checkAll(t, modelOf(g, someLimit(r, g)))
	}
}

// St1, St2: as many routers and links as may be.
func TestMost(t *testing.T) {
	r := rand.New(rand.NewPCG(10, 2))
	for _, marks := range []int{6, api.MaxNodes} {
		g := thick(r, marks)
		if len(g.Links) < api.MaxLinks-100 {
			t.Fatalf("only %d links", len(g.Links))
		}
		m := modelOf(g, pick(r, 30.0, most))
		checkAll(t, m)
		road, e := m.travel(50, api.MaxNodes)
		travelIs(t, g, m.max, 50, api.MaxNodes, road, e)
		ratio, e := m.ratio(180, 1)
		ratioIs(t, g, m.max, 180, 1, ratio, e)
	}
	g := row(api.MaxWeight)
	whole := make([]int, api.MaxNodes)
	for i := range whole {
		whole[i] = i + 1
	}
	goes(t, g, most, 255<<20, 1, whole...)
	slices.Reverse(whole)
	goes(t, g, most, 255<<20, 1, whole...)
	worstIs(t, g, most, 1, 2, 1, api.OK)
	meanIs(t, g, most, 1, api.OK)
}

// linkWeight is the weight of a link that must be live.
func linkWeight(t *testing.T, g api.Graph, a, b int) float64 {
	t.Helper()
	live, _ := graph.Live(g)
	for _, l := range live.Links {
		if l.A == min(a, b) && l.B == max(a, b) {
			return l.Weight
		}
	}
	t.Fatalf("%s has no live link of %d and %d", short(g), a, b)
	return 0
}

// road is one that must be told, with the distance that it is of.
func road(t *testing.T, g api.Graph, limit float64, u, w int) (api.Road, float64) {
	t.Helper()
	road, e := stretch.Travel(g, limit, u, w)
	_, dist, _ := paths.Path(g, limit, u, w)
	if e != api.OK || len(road.Nodes) == 0 || road.Nodes[0] != u || road.Ok != (road.Nodes[len(road.Nodes)-1] == w) {
		t.Fatalf("%s under %v, %d to %d: %+v, %d", short(g), limit, u, w, road, e)
	}
	return road, dist
}

// St3: of two that are near the road comes to its end, in at most three times the distance; it is just that within the ball, to a landmark, and from the home.
func TestStretchThree(t *testing.T) {
	r := rand.New(rand.NewPCG(10, 3))
	for range 300 {
		g := someGraph(r, 1, 2, 3, 4, 5, 6, 7, 8)
		limit := someLimit(r, g)
		homes, _ := ball.Homes(g, limit)
		for _, u := range homes {
			for _, w := range homes {
				road, dist := road(t, g, limit, u.Id, w.Id)
				if u == w || 3*dist >= limit {
					continue
				}
				straight := dist < w.Radius || w.Home == w.Id || w.Home == u.Id
				if !road.Ok || road.Weight < dist || road.Weight > 3*dist || straight && road.Weight != dist {
					t.Fatalf("%s under %v: %+v, for %v", short(g), limit, road, dist)
				}
			}
		}
	}
}

// St4: if a router of a road knows its end, all behind do, and those ahead go nearer to the home; no router stands twice, and there are no more links than the weight tells.
func TestRoadsFollow(t *testing.T) {
	r := rand.New(rand.NewPCG(10, 4))
	for range 200 {
		g := someGraph(r, 1, 2, 3, 4, 5, 6, 7, 8)
		limit := someLimit(r, g)
		homes, _ := ball.Homes(g, limit)
		for _, u := range homes {
			for _, w := range homes {
				road, _ := road(t, g, limit, u.Id, w.Id)
				sum, known := 0.0, false
				for i, id := range road.Nodes {
					knows, _ := ball.Knows(g, limit, id, w.Id)
					if known && !knows || slices.Contains(road.Nodes[:i], id) {
						t.Fatalf("%s under %v: %v", short(g), limit, road.Nodes)
					}
					if i > 0 {
						sum += linkWeight(t, g, road.Nodes[i-1], id)
					}
					if i > 0 && !known && !isNearer(g, limit, road.Nodes[i-1], id, w.Home) {
						t.Fatalf("%s under %v: %v is not nearer to %d", short(g), limit, road.Nodes[:i+1], w.Home)
					}
					known = knows
				}
				if !sameBits(sum, road.Weight) || float64(len(road.Nodes)-1) > road.Weight {
					t.Fatalf("%s under %v: %+v weighs %v", short(g), limit, road, sum)
				}
			}
		}
	}
}

// isNearer tells whether the other one is nearer than the one to a third one.
func isNearer(g api.Graph, limit float64, one, other, to int) bool {
	_, from, e := paths.Path(g, limit, one, to)
	_, left, _ := paths.Path(g, limit, other, to)
	return e == api.OK && left < from
}

// St5: if all are landmarks, all roads are distances.
func TestAllLandmarks(t *testing.T) {
	r := rand.New(rand.NewPCG(10, 5))
	for range 200 {
		g := someGraph(r, 1, 2, 3, 4, 5, 6, 7, 8)
		for i := range g.Nodes {
			g.Nodes[i].Mark = true
		}
		m := modelOf(g, someLimit(r, g))
		for _, u := range m.ups {
			for _, w := range m.ups {
				road, dist := road(t, g, m.max, u, w)
				if road.Ok != (dist < inf) || road.Ok && road.Weight != dist {
					t.Fatalf("%s under %v: %+v, for %v", short(g), m.max, road, dist)
				}
			}
		}
		if nears := m.nears(); len(nears) > 0 {
			worstIs(t, g, m.max, nears[0].u, nears[0].w, 1, api.OK)
			meanIs(t, g, m.max, 1, api.OK)
		}
	}
}

// St5: the worst ratio is at most 3, the mean between 1 and it; the worst one is that of its two.
func TestWorstAndMean(t *testing.T) {
	r := rand.New(rand.NewPCG(10, 6))
	for range 300 {
		g := someGraph(r, 1, 2, 3, 4, 5, 6, 7, 8, 9, 10)
		limit := someLimit(r, g)
		u, w, worst, e := stretch.Worst(g, limit)
		mean, f := stretch.Mean(g, limit)
		if e != api.OK || f != api.OK || worst < 1 || worst > 3 || mean < 1 || mean > worst || (u == 0) != math.IsNaN(mean) || (u == 0) != (w == 0) {
			t.Fatalf("%s under %v: %d, %d, %v, %d; %v, %d", short(g), limit, u, w, worst, e, mean, f)
		}
		if u != 0 {
			ratioIs(t, g, limit, u, w, worst, api.OK)
		}
	}
}

// spoil overwrites a list and the room behind it.
func spoil[T any](l []T, v T) {
	l = l[:cap(l)]
	for i := range l {
		l[i] = v
	}
}

// R3: answers are new, with the room behind them.
func TestAnswersAreNew(t *testing.T) {
	g := graphOf(ringText)
	for range 3 {
		one, _ := stretch.Travel(g, 100, 2, 3)
		other, _ := stretch.Travel(g, 100, 2, 3)
		spoil(one.Nodes, 99)
		if !slices.Equal(other.Nodes, []int{2, 1, 4, 3}) {
			t.Fatalf("behind a changed road: %v", other.Nodes)
		}
		goes(t, g, 100, 3, 3, 2, 1, 4, 3)
		goes(t, g, 100, 0, 1, 2)
	}
}

// R3: what is handed in, and the room behind it, is not changed and not kept.
func TestArgumentsStay(t *testing.T) {
	g := graphOf(ringText)
	all := api.Graph{Nodes: append(slices.Clone(g.Nodes), api.Node{Id: 100, Up: true, Mark: true}), Links: append(slices.Clone(g.Links), link(3, 100, 1), link(4, 100, 1))}
	before := api.Graph{Nodes: slices.Clone(all.Nodes), Links: slices.Clone(all.Links)}
	given := api.Graph{Nodes: all.Nodes[:len(g.Nodes)], Links: all.Links[:len(g.Links)]}
	check(t, given, 100)
	road, _ := stretch.Travel(given, 100, 2, 3)
	if !slices.Equal(all.Nodes, before.Nodes) || !slices.Equal(all.Links, before.Links) {
		t.Errorf("what was handed in is now %s", short(all))
	}
	spoil(all.Nodes, api.Node{Id: 77})
	spoil(all.Links, link(77, 78, 79))
	if !slices.Equal(road.Nodes, []int{2, 1, 4, 3}) {
		t.Errorf("behind a changed argument: %v", road.Nodes)
	}
	check(t, g, 100)
}

// R1, R4: whatever is asked, a call ends, and tells the same again.
func TestAnyArguments(t *testing.T) {
	r := rand.New(rand.NewPCG(10, 7))
	for range 300 {
		g := someGraph(r, 1, 2, 3, 4, 5)
		for range r.IntN(3) {
			g = changed(r, g)
		}
		max := pick(r, 1, 2.5, 4, most, nan, inf, negInf, negZero, 0, 0.75, 1.1, most+0.25, math.MaxFloat64)
		ended := guard.Run(func() {
			check(t, g, max)
			check(t, g, max)
		})
		if ended.Kind != api.CaughtNone {
			t.Fatalf("%s under %v: panics: %v", short(g), max, ended)
		}
	}
}

// changed is a graph of which a part is another one: it may not be, mostly.
func changed(r *rand.Rand, g api.Graph) api.Graph {
	g = api.Graph{Nodes: slices.Clone(g.Nodes), Links: slices.Clone(g.Links)}
	id := pick(r, 0, -1, 1, 2, 3, 4, 5, 99, api.MaxId, api.MaxId+1, math.MaxInt, math.MinInt)
	if len(g.Links) == 0 || r.IntN(3) == 0 {
		g.Nodes = append(g.Nodes, api.Node{Id: id, Up: true, Mark: r.IntN(2) == 0})
		return g
	}
	l := &g.Links[r.IntN(len(g.Links))]
	switch r.IntN(4) {
	case 0:
		l.A = id
	case 1:
		l.B = id
	case 2:
		l.Weight = pick(r, nan, inf, negInf, negZero, 0, -1, 0.75, 1.1, 1<<20+0.25, 1e300)
	default:
		g.Links = append(g.Links, *l)
	}
	return g
}
