package ball_test

import (
	"fmt"
	"math"
	"math/rand/v2"
	"slices"
	"testing"

	"beacon/api"
	"beacon/ball"
	"beacon/guard"
)

var (
	inf      = math.Inf(1)
	negInf   = math.Inf(-1)
	negZero  = math.Copysign(0, -1)
	nan      = math.NaN()
	negNaN   = math.Float64frombits(0xfff8000000000000)
	otherNaN = math.Float64frombits(0x7ff0000000000001)
	tiny     = math.SmallestNonzeroFloat64
)

const most = 1 << 30 // the greatest limit

// strangers is numbers of no router of a graph without them.
func strangers() []int {
	return []int{0, -1, -2, math.MinInt, 77, api.MaxId + 1, 1 << 32, 1<<32 + 1, math.MaxInt}
}

// Graphs, by what they are.

// routers is routers that are up, some of them landmarks.
func routers(marks []int, others ...int) api.Graph {
	var g api.Graph
	for _, id := range marks {
		g.Nodes = append(g.Nodes, api.Node{Id: id, Up: true, Mark: true})
	}
	for _, id := range others {
		g.Nodes = append(g.Nodes, api.Node{Id: id, Up: true})
	}
	slices.SortFunc(g.Nodes, func(a, b api.Node) int { return a.Id - b.Id })
	return g
}

func link(a, b int, weight float64) api.Link { return api.Link{A: a, B: b, Weight: weight, Up: true} }

// with is a graph with other links.
func with(g api.Graph, l ...api.Link) api.Graph { return api.Graph{Nodes: g.Nodes, Links: l} }

// crashed is a graph some of whose routers are down.
func crashed(g api.Graph, ids ...int) api.Graph {
	g.Nodes = slices.Clone(g.Nodes)
	for i, n := range g.Nodes {
		if slices.Contains(ids, n.Id) {
			g.Nodes[i].Up = false
		}
	}
	return g
}

// cut is a graph some of whose links, by their places, are down.
func cut(g api.Graph, places ...int) api.Graph {
	g.Links = slices.Clone(g.Links)
	for _, i := range places {
		g.Links[i].Up = false
	}
	return g
}

// path is the chapter's example.
func path() api.Graph {
	return with(routers([]int{1}, 2, 3, 4), link(1, 2, 1), link(2, 3, 1), link(3, 4, 1))
}

// thick is as many routers and links as may be, some of them landmarks; the last of the routers are reached by long ways.
func thick(r *rand.Rand, marks int, weights ...float64) api.Graph {
	var g api.Graph
	for id := 1; id <= api.MaxNodes; id++ {
		g.Nodes = append(g.Nodes, api.Node{Id: id, Up: true, Mark: marks > 0 && r.IntN(api.MaxNodes/marks) == 0})
	}
	for a := 1; a <= api.MaxNodes; a++ {
		for b := a + 1; b <= api.MaxNodes; b++ {
			if b == a+1 || b <= 91 && len(g.Links)+api.MaxNodes-a <= api.MaxLinks {
				g.Links = append(g.Links, link(a, b, pick(r, weights...)))
			}
		}
	}
	return g
}

// Entries, by what they are.

func mark(dest int, dist float64, next int) api.Entry {
	return api.Entry{Dest: dest, Kind: api.EntryMark, Dist: dist, Next: next}
}

func near(dest int, dist float64, next int, radius float64, home int) api.Entry {
	return api.Entry{Dest: dest, Kind: api.EntryBall, Dist: dist, Next: next, Radius: radius, Home: home}
}

func flock(dest int, dist float64, next int, home int) api.Entry {
	return api.Entry{Dest: dest, Kind: api.EntryFlock, Dist: dist, Next: next, Radius: dist, Home: home}
}

// Answers, held against each other.

func short(v any) string {
	s := fmt.Sprintf("%+v", v)
	return s[:min(len(s), 900)]
}

func sameBits(a, b float64) bool { return math.Float64bits(a) == math.Float64bits(b) }

func sameHome(a, b api.Home) bool { return a == b && sameBits(a.Radius, b.Radius) }

func sameEntry(a, b api.Entry) bool {
	return a == b && sameBits(a.Dist, b.Dist) && sameBits(a.Radius, b.Radius)
}

func sameTable(a, b []api.Entry) bool { return slices.EqualFunc(a, b, sameEntry) }

func homesAre(t *testing.T, g api.Graph, max float64, want []api.Home, wantError api.Errno) {
	t.Helper()
	if got, e := ball.Homes(g, max); !slices.EqualFunc(got, want, sameHome) || e != wantError {
		t.Fatalf("Homes(%s, %v): %s, %d, not %s, %d", short(g), max, short(got), e, short(want), wantError)
	}
}

func tableIs(t *testing.T, g api.Graph, max float64, id int, want []api.Entry, wantError api.Errno) {
	t.Helper()
	if got, e := ball.Table(g, max, id); !sameTable(got, want) || e != wantError {
		t.Fatalf("Table(%s, %v, %d): %s, %d, not %s, %d", short(g), max, id, short(got), e, short(want), wantError)
	}
}

func tablesAre(t *testing.T, g api.Graph, max float64, want [][]api.Entry, wantError api.Errno) {
	t.Helper()
	if got, e := ball.Tables(g, max); !slices.EqualFunc(got, want, sameTable) || e != wantError {
		t.Fatalf("Tables(%s, %v): %s, %d, not %s, %d", short(g), max, short(got), e, short(want), wantError)
	}
}

func knowsIs(t *testing.T, g api.Graph, max float64, u, w int, want bool, wantError api.Errno) {
	t.Helper()
	if got, e := ball.Knows(g, max, u, w); got != want || e != wantError {
		t.Fatalf("Knows(%s, %v, %d, %d): %v, %d, not %v, %d", short(g), max, u, w, got, e, want, wantError)
	}
}

func sizesAre(t *testing.T, g api.Graph, max float64, want []int, wantError api.Errno) {
	t.Helper()
	if got, e := ball.Sizes(g, max); !slices.Equal(got, want) || e != wantError {
		t.Fatalf("Sizes(%s, %v): %s, %d, not %s, %d", short(g), max, short(got), e, short(want), wantError)
	}
}

// check holds all that is promised of a graph under a limit against the model.
func check(t *testing.T, g api.Graph, max float64) {
	t.Helper()
	m := modelOf(g, max)
	homes, e := m.homes()
	homesAre(t, g, max, homes, e)
	tables, e := m.tables()
	tablesAre(t, g, max, tables, e)
	sizes, e := m.sizes()
	sizesAre(t, g, max, sizes, e)
	ids := strangers()
	for _, n := range g.Nodes {
		ids = append(ids, n.Id)
	}
	for _, u := range ids {
		table, e := m.table(u)
		tableIs(t, g, max, u, table, e)
		for _, w := range ids {
			knows, e := m.knows(u, w)
			knowsIs(t, g, max, u, w, knows, e)
		}
	}
}

// refused: all calls tell an error, and nothing else.
func refused(t *testing.T, g api.Graph, max float64, u, w int, want api.Errno) {
	t.Helper()
	tableIs(t, g, max, u, nil, want)
	knowsIs(t, g, max, u, w, false, want)
	if want != api.ErrNone { // the others ask for nobody
		homesAre(t, g, max, nil, want)
		tablesAre(t, g, max, nil, want)
		sizesAre(t, g, max, nil, want)
	}
}

// The chapter's first example.
func TestPathExample(t *testing.T) {
	homesAre(t, path(), 10, []api.Home{{Id: 1, Home: 1}, {Id: 2, Home: 1, Radius: 1}, {Id: 3, Home: 1, Radius: 2}, {Id: 4, Home: 1, Radius: 3}}, api.OK)
	want := [][]api.Entry{
		{flock(2, 1, 2, 1), flock(3, 2, 2, 1), flock(4, 3, 2, 1)},
		{mark(1, 1, 1), near(3, 1, 3, 2, 1), near(4, 2, 3, 3, 1)},
		{mark(1, 2, 2), near(4, 1, 4, 3, 1)},
		{mark(1, 3, 3), near(3, 1, 3, 2, 1)},
	}
	tablesAre(t, path(), 10, want, api.OK)
	for i, table := range want {
		tableIs(t, path(), 10, i+1, table, api.OK)
	}
	sizesAre(t, path(), 10, []int{3, 3, 2, 2}, api.OK)
	for u, knows := range [][]bool{{true, true, true, true}, {true, true, true, true}, {true, false, true, true}, {true, false, true, true}} {
		for w, want := range knows {
			knowsIs(t, path(), 10, u+1, w+1, want, api.OK)
		}
	}
}

// The chapter's second example.
func TestLimitExample(t *testing.T) {
	homesAre(t, path(), 3, []api.Home{{Id: 1, Home: 1}, {Id: 2, Home: 1, Radius: 1}, {Id: 3, Home: 1, Radius: 2}, {Id: 4, Radius: inf}}, api.OK)
	tablesAre(t, path(), 3, [][]api.Entry{
		{flock(2, 1, 2, 1), flock(3, 2, 2, 1)},
		{mark(1, 1, 1), near(3, 1, 3, 2, 1), near(4, 2, 3, inf, 0)},
		{mark(1, 2, 2), near(4, 1, 4, inf, 0)},
		{mark(1, inf, 0), near(3, 1, 3, 2, 1)},
	}, api.OK)
	knowsIs(t, path(), 3, 4, 1, false, api.OK)
	knowsIs(t, path(), 3, 1, 4, false, api.OK)
	knowsIs(t, path(), 3, 2, 4, true, api.OK)
}

// limitErrors is limits that may not be, and what layer 1 refuses of them.
func limitErrors() map[float64]api.Errno {
	return map[float64]api.Errno{
		nan: api.ErrNaN, negNaN: api.ErrNaN, otherNaN: api.ErrNaN, inf: api.ErrInf, negInf: api.ErrInf, negZero: api.ErrSign, -1: api.ErrSign, -tiny: api.ErrSign,
		0.75: api.ErrLow, tiny: api.ErrLow, math.Nextafter(1, 0): api.ErrLow, most + 0.25: api.ErrHigh, math.MaxFloat64: api.ErrHigh, 1.1: api.ErrQuarter, 10.125: api.ErrQuarter,
	}
}

// wrongGraphs is graphs that may not be, by what layer 7 refuses of them.
func wrongGraphs() map[api.Errno]api.Graph {
	two := routers([]int{1}, 2)
	return map[api.Errno]api.Graph{
		api.ErrFull:    with(two, make([]api.Link, api.MaxLinks+1)...),
		api.ErrNode:    {Nodes: []api.Node{{Id: 2, Up: true}, {Id: 1, Up: true}}, Links: []api.Link{link(1, 2, 1)}},
		api.ErrLink:    with(two, link(2, 1, 1)),
		api.ErrNaN:     with(two, link(1, 2, nan)),
		api.ErrInf:     with(two, link(1, 2, inf)),
		api.ErrSign:    with(two, link(1, 2, negZero)),
		api.ErrLow:     with(two, link(1, 2, 0)),
		api.ErrHigh:    with(two, link(1, 2, most)),
		api.ErrQuarter: with(two, link(1, 2, 1.1)),
	}
}

// A graph that may not be goes ahead of a limit that may not be, and of who is not there; what is down must be as it may, too.
func TestGraphErrors(t *testing.T) {
	for want, g := range wrongGraphs() {
		for _, max := range []float64{1, 10, most, 0, negZero, -1, 0.75, 1.1, most + 1, inf, negInf, nan, negNaN} {
			for _, bad := range []api.Graph{g, crashed(g, 1), cut(g, 0)} {
				refused(t, bad, max, 1, 2, want)
				refused(t, bad, max, 9, 1, want)
				refused(t, bad, max, 1, 9, want)
			}
		}
	}
	full := routers([]int{1}, 2)
	full.Nodes = make([]api.Node, api.MaxNodes+1)
	refused(t, full, 10, 1, 2, api.ErrFull)
}

// A limit that may not be goes ahead of who is not there; it is told of the empty graph, too.
func TestLimitErrors(t *testing.T) {
	for max, want := range limitErrors() {
		for _, g := range []api.Graph{path(), {}, crashed(path(), 1, 2, 3, 4)} {
			refused(t, g, max, 1, 2, want)
			refused(t, g, max, 9, 1, want)
			refused(t, g, max, 1, 9, want)
		}
	}
	refused(t, path(), 0, 1, 2, api.ErrLow)
	refused(t, api.Graph{}, 0, 1, 2, api.ErrLow)
}

// Ba2: who is not there, or is down.
func TestNoneErrors(t *testing.T) {
	for _, g := range []api.Graph{path(), crashed(path(), 2), {}, routers(nil, 3)} {
		for _, id := range append(strangers(), 2, 5) {
			if id == 2 && len(g.Nodes) == 4 && g.Nodes[1].Up {
				continue
			}
			refused(t, g, 10, id, 3, api.ErrNone)
			refused(t, g, 10, id, id, api.ErrNone)
			knowsIs(t, g, 10, 3, id, false, api.ErrNone)
		}
	}
	for _, id := range []int{1, 2, 3, 4} {
		refused(t, crashed(path(), 1, 2, 3, 4), 10, id, 1, api.ErrNone)
	}
	knowsIs(t, crashed(path(), 1), 10, 2, 1, false, api.ErrNone)
	knowsIs(t, crashed(path(), 1), 10, 1, 2, false, api.ErrNone)
}

// Ba1, Ba2: of nobody.
func TestNobody(t *testing.T) {
	for _, g := range []api.Graph{{}, crashed(path(), 1, 2, 3, 4)} {
		for _, max := range []float64{1, 10, most} {
			homesAre(t, g, max, nil, api.OK)
			tablesAre(t, g, max, nil, api.OK)
			sizesAre(t, g, max, nil, api.OK)
		}
	}
}

// Ba1: of as near landmarks the one with the least number, else the nearest one; those that are down are none, nor are their links.
func TestHomes(t *testing.T) {
	g := with(routers([]int{2, 7, api.MaxId}, 1, 5, 9), link(1, 2, 2), link(1, 7, 2), link(2, 5, 3), link(5, 7, 2.75), link(7, 9, 1.25), link(9, api.MaxId, 1))
	homesAre(t, g, most, []api.Home{{Id: 1, Home: 2, Radius: 2}, {Id: 2, Home: 2}, {Id: 5, Home: 7, Radius: 2.75}, {Id: 7, Home: 7}, {Id: 9, Home: api.MaxId, Radius: 1}, {Id: api.MaxId, Home: api.MaxId}}, api.OK)
	homesAre(t, crashed(g, 2, api.MaxId), most, []api.Home{{Id: 1, Home: 7, Radius: 2}, {Id: 5, Home: 7, Radius: 2.75}, {Id: 7, Home: 7}, {Id: 9, Home: 7, Radius: 1.25}}, api.OK)
	homesAre(t, cut(g, 1, 3), most, []api.Home{{Id: 1, Home: 2, Radius: 2}, {Id: 2, Home: 2}, {Id: 5, Home: 2, Radius: 3}, {Id: 7, Home: 7}, {Id: 9, Home: api.MaxId, Radius: 1}, {Id: api.MaxId, Home: api.MaxId}}, api.OK)
	homesAre(t, crashed(g, 2, 7, api.MaxId), most, []api.Home{{Id: 1, Radius: inf}, {Id: 5, Radius: inf}, {Id: 9, Radius: inf}}, api.OK)
	homesAre(t, g, 1.25, []api.Home{{Id: 1, Radius: inf}, {Id: 2, Home: 2}, {Id: 5, Radius: inf}, {Id: 7, Home: 7}, {Id: 9, Home: api.MaxId, Radius: 1}, {Id: api.MaxId, Home: api.MaxId}}, api.OK)
	homesAre(t, g, 1, []api.Home{{Id: 1, Radius: inf}, {Id: 2, Home: 2}, {Id: 5, Radius: inf}, {Id: 7, Home: 7}, {Id: 9, Radius: inf}, {Id: api.MaxId, Home: api.MaxId}}, api.OK)
}

// Ba2: a landmark that is too far stands in a table while a neighbour is not too far from it; the neighbour may be the landmark itself.
func TestMarksTooFar(t *testing.T) {
	straight := with(routers([]int{1}, 2), link(1, 2, 5))
	tableIs(t, straight, 5, 2, []api.Entry{mark(1, inf, 0)}, api.OK)
	tableIs(t, straight, 1, 2, []api.Entry{mark(1, inf, 0)}, api.OK)
	tableIs(t, straight, 5.25, 2, []api.Entry{mark(1, 5, 1)}, api.OK)
	tableIs(t, straight, 5, 1, nil, api.OK)
	tableIs(t, cut(straight, 0), 5, 2, nil, api.OK)
	knowsIs(t, straight, 5, 2, 1, false, api.OK)
	knowsIs(t, straight, 5.25, 2, 1, true, api.OK)
	tableIs(t, path(), 2, 4, []api.Entry{near(3, 1, 3, inf, 0)}, api.OK)
	tableIs(t, path(), 2, 3, []api.Entry{mark(1, inf, 0), near(4, 1, 4, inf, 0)}, api.OK)
	tableIs(t, path(), 1, 2, []api.Entry{mark(1, inf, 0)}, api.OK)
	both := with(routers([]int{1, 2}), link(1, 2, 5))
	tablesAre(t, both, 5, [][]api.Entry{{mark(2, inf, 0)}, {mark(1, inf, 0)}}, api.OK)
	sizesAre(t, both, 5, []int{1, 1}, api.OK)
	// The one that is near is the last of the neighbours.
	last := with(routers([]int{1}, 2, 3, 4, 5), link(1, 5, 1), link(2, 3, 1), link(2, 4, 1), link(2, 5, 1))
	tableIs(t, last, 2, 2, []api.Entry{mark(1, inf, 0), near(3, 1, 3, inf, 0), near(4, 1, 4, inf, 0)}, api.OK)
	tableIs(t, last, 2, 3, []api.Entry{near(2, 1, 2, inf, 0)}, api.OK)
	tableIs(t, cut(last, 3), 2, 2, []api.Entry{near(3, 1, 3, inf, 0), near(4, 1, 4, inf, 0)}, api.OK)
}

// Ba2: who is at the radius, and not home, does not know; the home does. One whose home is another landmark is none of the flock.
func TestAtTheRadius(t *testing.T) {
	g := with(routers([]int{1, 5}, 2, 3), link(1, 2, 2), link(2, 3, 2), link(2, 5, 2))
	tablesAre(t, g, 10, [][]api.Entry{
		{mark(5, 4, 2), flock(2, 2, 2, 1), flock(3, 4, 2, 1)},
		{mark(1, 2, 1), mark(5, 2, 5), near(3, 2, 3, 4, 1)},
		{mark(1, 4, 2), mark(5, 4, 2)},
		{mark(1, 4, 2)},
	}, api.OK)
	knowsIs(t, g, 10, 1, 2, true, api.OK)
	knowsIs(t, g, 10, 5, 2, false, api.OK)
	knowsIs(t, g, 10, 3, 2, false, api.OK)
	nearer := with(routers([]int{1, 5}, 2, 3), link(1, 2, 2), link(2, 3, 1.75), link(2, 5, 2))
	knowsIs(t, nearer, 10, 3, 2, true, api.OK)
	knowsIs(t, nearer, 10, 1, 3, true, api.OK)
	knowsIs(t, nearer, 10, 5, 3, false, api.OK)
}

// Ba2: where no landmark is, all know all that they reach.
func TestNoLandmark(t *testing.T) {
	g := with(routers(nil, 1, 2, 3), link(1, 2, 1))
	tablesAre(t, g, 10, [][]api.Entry{{near(2, 1, 2, inf, 0)}, {near(1, 1, 1, inf, 0)}, nil}, api.OK)
	sizesAre(t, g, 10, []int{1, 1, 0}, api.OK)
	knowsIs(t, g, 10, 1, 3, false, api.OK)
	knowsIs(t, g, 10, 3, 3, true, api.OK)
	tablesAre(t, g, 1, [][]api.Entry{nil, nil, nil}, api.OK)
	tablesAre(t, crashed(path(), 1), 10, [][]api.Entry{
		{near(3, 1, 3, inf, 0), near(4, 2, 3, inf, 0)}, {near(2, 1, 2, inf, 0), near(4, 1, 4, inf, 0)}, {near(2, 2, 3, inf, 0), near(3, 1, 3, inf, 0)},
	}, api.OK)
}

// Ba2: of first hops on least ways the least one, in entries of each kind.
func TestNexts(t *testing.T) {
	ring := with(routers([]int{4}, 1, 2, 3), link(1, 2, 1), link(1, 3, 1), link(2, 4, 1), link(3, 4, 1))
	tableIs(t, ring, 10, 1, []api.Entry{mark(4, 2, 2)}, api.OK)
	tableIs(t, ring, 10, 4, []api.Entry{flock(1, 2, 2, 4), flock(2, 1, 2, 4), flock(3, 1, 3, 4)}, api.OK)
	free := with(routers(nil, 1, 2, 3, 4), ring.Links...)
	tableIs(t, free, 10, 1, []api.Entry{near(2, 1, 2, inf, 0), near(3, 1, 3, inf, 0), near(4, 2, 2, inf, 0)}, api.OK)
	// The least neighbour leads there, but not on a least way.
	by := with(routers([]int{1}, 2, 3, 4), link(1, 2, 2), link(1, 3, 1), link(2, 4, 2), link(3, 4, 2.75))
	tableIs(t, by, 10, 4, []api.Entry{mark(1, 3.75, 3), near(2, 2, 2, 2, 1)}[:1], api.OK)
	tableIs(t, by, 10, 1, []api.Entry{flock(2, 2, 2, 1), flock(3, 1, 3, 1), flock(4, 3.75, 3, 1)}, api.OK)
	// Straight, or by another one that is more, or less.
	tableIs(t, with(routers([]int{2}, 3, 4), link(2, 3, 1), link(2, 4, 2), link(3, 4, 1)), 10, 4, []api.Entry{mark(2, 2, 2)}, api.OK)
	tableIs(t, with(routers([]int{4}, 2, 3), link(2, 3, 1), link(2, 4, 2), link(3, 4, 1)), 10, 2, []api.Entry{mark(4, 2, 3)}, api.OK)
}

// Ba2: a table stands by kind, then by number. (A landmark has no EntryBall, and who is none no EntryFlock.)
func TestOrder(t *testing.T) {
	g := with(routers([]int{3, 8}, 1, 2, 5, 6, 9), link(1, 3, 1), link(2, 3, 1), link(3, 5, 3), link(3, 6, 1), link(3, 8, 3), link(3, 9, 2), link(5, 8, 1), link(8, 9, 4))
	tableIs(t, g, 100, 3, []api.Entry{mark(8, 3, 8), flock(1, 1, 1, 3), flock(2, 1, 2, 3), flock(6, 1, 6, 3), flock(9, 2, 9, 3)}, api.OK)
	tableIs(t, g, 100, 8, []api.Entry{mark(3, 3, 3), flock(5, 1, 5, 8)}, api.OK)
	// Of one that is nobody's under the lesser limit all know that reach it; no landmark does.
	long := with(routers([]int{4, 6}, 1, 2, 3, 5), link(1, 3, 3), link(1, 5, 1), link(2, 4, 1), link(3, 4, 1), link(3, 5, 1), link(3, 6, 1))
	tableIs(t, long, 100, 3, []api.Entry{mark(4, 1, 4), mark(6, 1, 6), near(1, 2, 5, 3, 4), near(5, 1, 5, 2, 4)}, api.OK)
	tableIs(t, long, 100, 4, []api.Entry{mark(6, 2, 3), flock(1, 3, 3, 4), flock(2, 1, 2, 4), flock(3, 1, 3, 4), flock(5, 2, 3, 4)}, api.OK)
	tableIs(t, long, 3, 4, []api.Entry{mark(6, 2, 3), flock(2, 1, 2, 4), flock(3, 1, 3, 4), flock(5, 2, 3, 4)}, api.OK)
	tableIs(t, long, 3, 3, []api.Entry{mark(4, 1, 4), mark(6, 1, 6), near(1, 2, 5, inf, 0), near(5, 1, 5, 2, 4)}, api.OK)
}

// Ba1, Ba2: many small graphs.
func TestAgainstModel(t *testing.T) {
	r := rand.New(rand.NewPCG(9, 1))
	for range 1000 {
		g := someGraph(r, 1, 2, 3, 50, 60, api.MaxId)
		check(t, g, someLimit(r, g))
		check(t, g, pick(r, 1.1, 0, 1.25, nan, most, most+1))
	}
	for range 100 {
		g := someGraph(r, 1, 2, 3, 4, 5, 6, 7, 9, 10, 12, 99, 100, api.MaxId-1, api.MaxId)
		check(t, g, someLimit(r, g))
	}
}

// Ba1, Ba2: as many routers and links as may be, with few landmarks, many and none.
func TestMost(t *testing.T) {
	r := rand.New(rand.NewPCG(9, 2))
	for _, marks := range []int{0, 6, api.MaxNodes} {
		g := thick(r, marks, 1, 1.25, 1.5, 2, 2.5, 3)
		if len(g.Links) < api.MaxLinks-100 {
			t.Fatalf("only %d links", len(g.Links))
		}
		m := modelOf(g, pick(r, 10.0, 40, most))
		homes, e := m.homes()
		homesAre(t, g, m.max, homes, e)
		tables, e := m.tables()
		tablesAre(t, g, m.max, tables, e)
		for _, u := range []int{1, api.MaxNodes} {
			tableIs(t, g, m.max, u, tables[u-1], api.OK)
			for _, w := range []int{2, 200} {
				knows, e := m.knows(u, w)
				knowsIs(t, g, m.max, u, w, knows, e)
			}
		}
	}
}

// Ba3: all know the landmarks that they reach; the first hop of what is known knows it too, nearer by the link's weight; and nobody else knows but within the ball, and the home.
func TestWhatFollows(t *testing.T) {
	r := rand.New(rand.NewPCG(9, 3))
	for range 400 {
		g := someGraph(r, 1, 2, 3, 4, 5, 6, 7, 8)
		m := modelOf(g, someLimit(r, g))
		for _, u := range m.ups {
			table, e := ball.Table(g, m.max, u.Id)
			if e != api.OK {
				t.Fatalf("Table(%s, %v, %d): %d", short(g), m.max, u.Id, e)
			}
			for _, entry := range table {
				if entry.Dist != inf {
					hopKnows(t, m, u.Id, entry)
				}
			}
			for _, w := range m.ups {
				home, dist := m.homeOf[w.Id], m.dist[[2]int{u.Id, w.Id}]
				knowsIs(t, g, m.max, u.Id, w.Id, u == w || w.Mark && dist != far || !w.Mark && (dist < home.radius || home.id == u.Id), api.OK)
			}
		}
	}
}

// hopKnows: the next one knows what the entry is of, or is it.
func hopKnows(t *testing.T, m model, u int, entry api.Entry) {
	t.Helper()
	knowsIs(t, m.g, m.max, u, entry.Dest, true, api.OK)
	knowsIs(t, m.g, m.max, entry.Next, entry.Dest, true, api.OK)
	step, ok := m.steps[[2]int{u, entry.Next}]
	left := entry.Dist - float64(step)/4
	table, _ := ball.Table(m.g, m.max, entry.Next)
	isAsNear := left == 0 && entry.Next == entry.Dest
	for _, on := range table {
		isAsNear = isAsNear || on.Dest == entry.Dest && on.Dist == left
	}
	if !ok || !isAsNear {
		t.Fatalf("%s under %v: %d has %+v, the next one %s", short(m.g), m.max, u, entry, short(table))
	}
}

// R3: nil and the empty list are the same.
func TestNilLists(t *testing.T) {
	g := api.Graph{Nodes: []api.Node{}, Links: []api.Link{}}
	homesAre(t, g, 10, nil, api.OK)
	tablesAre(t, g, 10, nil, api.OK)
	refused(t, g, 10, 1, 1, api.ErrNone)
	g = routers([]int{1}, 2)
	g.Links = []api.Link{}
	tablesAre(t, g, 10, [][]api.Entry{nil, nil}, api.OK)
}

// spoil overwrites a list and the room behind it.
func spoil[T any](l []T, v T) {
	l = l[:cap(l)]
	for i := range l {
		l[i] = v
	}
}

// R3: answers are new, each of its own, with the room behind it.
func TestAnswersAreNew(t *testing.T) {
	r := rand.New(rand.NewPCG(9, 4))
	for range 50 {
		g := someGraph(r, 1, 2, 3, 4, 5, 6, 7, 8, 9, 10)
		want, _ := modelOf(g, 10).tables()
		for n := range want {
			got, _ := ball.Tables(g, 10)
			spoil(got[n], api.Entry{Dest: 99})
			got[n] = want[n]
			if !slices.EqualFunc(got, want, sameTable) {
				t.Fatalf("behind a changed table: %s, not %s", short(got), short(want))
			}
		}
		homes, _ := ball.Homes(g, 10)
		spoil(homes, api.Home{Id: 99})
		sizes, _ := ball.Sizes(g, 10)
		spoil(sizes, 99)
		tables, _ := ball.Tables(g, 10)
		spoil(tables, nil)
		if len(want) > 0 {
			table, _ := ball.Table(g, 10, modelOf(g, 10).ups[0].Id)
			spoil(table, api.Entry{Dest: 99})
		}
		check(t, g, 10)
	}
}

// R3: what is handed in, and the room behind it, is not changed and not kept.
func TestArgumentsStay(t *testing.T) {
	g := crashed(with(routers([]int{1, 5}, 2, 3, 4), link(1, 2, 1), link(1, 4, 2), link(2, 4, 1), link(3, 5, 1)), 2)
	all := api.Graph{Nodes: append(slices.Clone(g.Nodes), api.Node{Id: 100, Up: true, Mark: true}), Links: append(slices.Clone(g.Links), link(4, 5, 1), link(4, 100, 1))}
	before := api.Graph{Nodes: slices.Clone(all.Nodes), Links: slices.Clone(all.Links)}
	given := api.Graph{Nodes: all.Nodes[:len(g.Nodes)], Links: all.Links[:len(g.Links)]}
	check(t, given, 10)
	homes, _ := ball.Homes(given, 10)
	tables, _ := ball.Tables(given, 10)
	if !slices.Equal(all.Nodes, before.Nodes) || !slices.Equal(all.Links, before.Links) {
		t.Errorf("what was handed in is now %s", short(all))
	}
	spoil(all.Nodes, api.Node{Id: 77})
	spoil(all.Links, link(77, 78, 79))
	wantHomes, _ := modelOf(g, 10).homes()
	want, _ := modelOf(g, 10).tables()
	if !slices.EqualFunc(homes, wantHomes, sameHome) || !slices.EqualFunc(tables, want, sameTable) {
		t.Errorf("behind a changed argument: %s, %s", short(homes), short(tables))
	}
}

// R1, R4: whatever is asked, a call ends, and tells the same again.
func TestAnyArguments(t *testing.T) {
	r := rand.New(rand.NewPCG(9, 5))
	for range 400 {
		g := someGraph(r, 1, 2, 3, 4, 5)
		for range r.IntN(3) {
			g = changed(r, g)
		}
		max := pick(r, 1, 2.5, 4, most, nan, inf, negInf, negZero, 0, 0.75, 1.1, most+0.25, math.MaxFloat64)
		ended := guard.Run(func() {
			check(t, g, max)
			check(t, g, max)
		})
		if ended.Kind != api.CaughtNone {
			t.Fatalf("%s under %v: panics: %v", short(g), max, ended)
		}
	}
}

// changed is a graph of which a part is another one: it may not be, mostly.
func changed(r *rand.Rand, g api.Graph) api.Graph {
	g = api.Graph{Nodes: slices.Clone(g.Nodes), Links: slices.Clone(g.Links)}
	id := pick(r, 0, -1, 1, 2, 3, 4, 5, 99, api.MaxId, api.MaxId+1, math.MaxInt, math.MinInt)
	if len(g.Links) == 0 || r.IntN(3) == 0 {
		g.Nodes = append(g.Nodes, api.Node{Id: id, Up: true, Mark: r.IntN(2) == 0})
		return g
	}
	l := &g.Links[r.IntN(len(g.Links))]
	switch r.IntN(4) {
	case 0:
		l.A = id
	case 1:
		l.B = id
	case 2:
		l.Weight = pick(r, nan, inf, negInf, negZero, 0, -1, 0.75, 1.1, 1<<20+0.25, 1e300)
	default:
		g.Links = append(g.Links, *l)
	}
	return g
}
