package graph_test

import (
	"fmt"
	"math"
	"math/rand/v2"
	"slices"
	"strings"
	"testing"

	"beacon/api"
	"beacon/graph"
	"beacon/guard"
)

var (
	inf      = math.Inf(1)
	negInf   = math.Inf(-1)
	negZero  = math.Copysign(0, -1)
	nan      = math.NaN()
	negNaN   = math.Float64frombits(0xfff8000000000000)
	otherNaN = math.Float64frombits(0x7ff0000000000001)
	tiny     = math.SmallestNonzeroFloat64
)

// notIds is numbers of no router.
func notIds() []int {
	return []int{0, -1, -2, math.MinInt, api.MaxId + 1, 1 << 32, 1<<32 + 1, math.MaxInt}
}

// notWeights is floats that are no weight.
func notWeights() []float64 {
	return []float64{nan, negNaN, otherNaN, inf, negInf, 0, negZero, -1, -1.5, -tiny, tiny, 0.25, 0.75, math.Nextafter(1, 0), math.Nextafter(1, 2), 1.1, 1.125, 2.3, api.MaxWeight + 0.25, api.MaxWeight - 0.1, math.Nextafter(api.MaxWeight, math.MaxFloat64), 1 << 30, 1e300, math.MaxFloat64, -math.MaxFloat64}
}

// Nodes and links, by what they are.

func up(id int) api.Node { return api.Node{Id: id, Up: true} }

func down(id int) api.Node { return api.Node{Id: id} }

func marked(n api.Node) api.Node {
	n.Mark = true
	return n
}

func link(a, b int, weight float64) api.Link { return api.Link{A: a, B: b, Weight: weight, Up: true} }

func cut(l api.Link) api.Link {
	l.Up = false
	return l
}

func nodes(l ...api.Node) api.Graph { return api.Graph{Nodes: l} }

func ups(ids ...int) api.Graph {
	var g api.Graph
	for _, id := range ids {
		g.Nodes = append(g.Nodes, up(id))
	}
	return g
}

func with(g api.Graph, l ...api.Link) api.Graph { return api.Graph{Nodes: g.Nodes, Links: l} }

// manyNodes is so many routers, the last one MaxId.
func manyNodes(n int) api.Graph {
	var g api.Graph
	for i := range n {
		g.Nodes = append(g.Nodes, marked(down(api.MaxId-n+1+i)))
	}
	return g
}

// manyLinks is so many links of the greatest text, between as many nodes as may be.
func manyLinks(n int) api.Graph {
	g := manyNodes(api.MaxNodes)
	for i, a := range g.Nodes {
		for _, b := range g.Nodes[i+1:] {
			if len(g.Links) < n {
				g.Links = append(g.Links, cut(link(a.Id, b.Id, api.MaxWeight-0.25)))
			}
		}
	}
	return g
}

// small is a graph with a router and a link of each sort.
func small() api.Graph {
	return with(nodes(marked(up(1)), up(2), down(3), marked(down(5)), up(9)),
		link(1, 2, 1.5), cut(link(1, 9, 1)), link(2, 3, 2), link(2, 9, 3), cut(link(3, 5, 4.25)), link(5, 9, 1<<20))
}

// Changes, by what they do.

func add(a int) api.Change { return api.Change{Kind: api.ChangeAdd, A: a} }

func join(a, b int, weight float64) api.Change {
	return api.Change{Kind: api.ChangeLink, A: a, B: b, Weight: weight}
}

func weigh(a, b int, weight float64) api.Change {
	return api.Change{Kind: api.ChangeWeight, A: a, B: b, Weight: weight}
}

func of(kind int, ends ...int) api.Change {
	c := api.Change{Kind: kind, A: ends[0]}
	if len(ends) > 1 {
		c.B = ends[1]
	}
	return c
}

// linkKinds and nodeKinds turn a link, a router.
func linkKinds() []int { return []int{api.ChangeCut, api.ChangeRaise} }

func nodeKinds() []int {
	return []int{api.ChangePromote, api.ChangeDemote, api.ChangeCrash, api.ChangeStart}
}

// Calls, with what holds of each answer.

// short is the beginning of a value's text.
func short(v any) string {
	s := fmt.Sprintf("%+v", v)
	return s[:min(len(s), 500)]
}

// refused: all calls tell the error of a graph that may not be, and nothing else.
func refused(t *testing.T, g api.Graph, want api.Errno) {
	t.Helper()
	if e := graph.Check(g); e != want {
		t.Fatalf("Check(%s): %d, not %d", short(g), e, want)
	}
	for _, c := range []api.Change{add(7), {}, of(api.ChangeCut, 1, 2)} {
		applyIs(t, g, c, api.Graph{}, want)
	}
	liveIs(t, g, api.Graph{}, want)
	neighboursAre(t, g, 1, nil, want)
	neighboursAre(t, g, 0, nil, want)
	printIs(t, g, "", want)
}

func accepted(t *testing.T, g api.Graph) {
	t.Helper()
	if e := graph.Check(g); e != api.OK {
		t.Fatalf("Check(%s): %d", short(g), e)
	}
}

func applyIs(t *testing.T, g api.Graph, c api.Change, want api.Graph, wantError api.Errno) {
	t.Helper()
	got, e := graph.Apply(g, c)
	if !same(got, want) || e != wantError {
		t.Fatalf("Apply(%s, %+v): %s, %d, not %s, %d", short(g), c, short(got), e, short(want), wantError)
	}
	if e == api.OK {
		accepted(t, got)
	}
}

// refuses: a change of a graph that may be is refused.
func refuses(t *testing.T, g api.Graph, c api.Change, want api.Errno) {
	t.Helper()
	applyIs(t, g, c, api.Graph{}, want)
}

func playIs(t *testing.T, l []api.Change, want api.Graph, wantPlace int, wantError api.Errno) {
	t.Helper()
	got, place, e := graph.Play(l)
	if !same(got, want) || place != wantPlace || e != wantError {
		t.Fatalf("Play(%s): %s, %d, %d, not %s, %d, %d", short(l), short(got), place, e, short(want), wantPlace, wantError)
	}
}

func liveIs(t *testing.T, g, want api.Graph, wantError api.Errno) {
	t.Helper()
	if got, e := graph.Live(g); !same(got, want) || e != wantError {
		t.Fatalf("Live(%s): %s, %d, not %s, %d", short(g), short(got), e, short(want), wantError)
	}
}

func neighboursAre(t *testing.T, g api.Graph, id int, want []api.Link, wantError api.Errno) {
	t.Helper()
	if got, e := graph.Neighbours(g, id); !sameLinks(got, want) || e != wantError {
		t.Fatalf("Neighbours(%s, %d): %s, %d, not %s, %d", short(g), id, short(got), e, short(want), wantError)
	}
}

func printIs(t *testing.T, g api.Graph, want string, wantError api.Errno) {
	t.Helper()
	if s, e := graph.Print(g); s != want || e != wantError {
		t.Fatalf("Print(%s): %.300q, %d, not %.300q, %d", short(g), s, e, want, wantError)
	}
}

func parseIs(t *testing.T, s string, want api.Graph, wantError api.Errno) {
	t.Helper()
	if g, e := graph.Parse(s); !same(g, want) || e != wantError {
		t.Fatalf("Parse(%.300q): %s, %d, not %s, %d", s, short(g), e, short(want), wantError)
	}
}

func noText(t *testing.T, s string) {
	t.Helper()
	parseIs(t, s, api.Graph{}, api.ErrText)
}

// thereAndBack: the graph has this text, and the text is this graph's.
func thereAndBack(t *testing.T, g api.Graph, s string) {
	t.Helper()
	printIs(t, g, s, api.OK)
	parseIs(t, s, g, api.OK)
}

// check holds all that is promised of a graph against the model.
func check(t *testing.T, g api.Graph) {
	t.Helper()
	if e := checkGraph(g); e != api.OK {
		refused(t, g, e)
		s := textOf(g)
		want, wantError := parsed(s)
		parseIs(t, s, want, wantError)
		return
	}
	accepted(t, g)
	live, _ := lived(g)
	liveIs(t, g, live, api.OK)
	liveIs(t, live, live, api.OK)
	for _, n := range append([]api.Node{{Id: 0}, {Id: 7}, {Id: math.MaxInt}, {Id: math.MinInt}}, g.Nodes...) {
		links, e := neighbours(g, n.Id)
		neighboursAre(t, g, n.Id, links, e)
	}
	s, _ := printed(g)
	thereAndBack(t, g, s)
}

// checkText holds what is promised of a text against the model.
func checkText(t *testing.T, s string) {
	t.Helper()
	g, e := parsed(s)
	parseIs(t, s, g, e)
	if e == api.OK {
		printIs(t, g, s, api.OK)
	}
}

// checkChange holds what is promised of a change against the model.
func checkChange(t *testing.T, g api.Graph, c api.Change) {
	t.Helper()
	want, e := applied(g, c)
	applyIs(t, g, c, want, e)
}

// do is the graph behind changes, none of which may be refused.
func do(t *testing.T, g api.Graph, l ...api.Change) api.Graph {
	t.Helper()
	for _, c := range l {
		next, e := graph.Apply(g, c)
		if e != api.OK {
			t.Fatalf("Apply(%s, %+v): %d", short(g), c, e)
		}
		g = next
	}
	return g
}

// The chapter's examples.
func TestExamples(t *testing.T) {
	thereAndBack(t, with(nodes(marked(up(1)), up(2)), link(1, 2, 1.5)), "node 1 mark\nnode 2\nlink 1 2 1.5\n")
	noText(t, "node 1 mark\nnode 2\nlink 2 1 1.5\n")
	refuses(t, ups(1, 2), join(2, 1, 0.5), api.ErrLow)
	refuses(t, ups(1, 2), add(0), api.ErrNode)
	refuses(t, api.Graph{}, add(0), api.ErrNode)
}

// Gr1: which nodes may be.
func TestCheckNodes(t *testing.T) {
	for _, g := range []api.Graph{{}, nodes(up(1)), nodes(down(1)), nodes(marked(up(1))), nodes(marked(down(1))), ups(api.MaxId), ups(1, 2), ups(1, api.MaxId), ups(5, 6, 9), small()} {
		accepted(t, g)
		check(t, g)
	}
	for _, id := range notIds() {
		refused(t, ups(id), api.ErrNode)
		refused(t, ups(1, id), api.ErrNode)
		refused(t, ups(id, 1), api.ErrNode)
		refused(t, with(ups(id, 1), link(id, 1, 1)), api.ErrNode)
	}
	for _, g := range []api.Graph{ups(1, 1), ups(2, 1), ups(1, 3, 2), ups(1, 2, 2), ups(1, 2, 1), ups(api.MaxId, 1), nodes(up(1), down(1)), nodes(up(1), marked(up(1)))} {
		refused(t, g, api.ErrNode)
	}
}

// Gr1: which ends a link may have.
func TestCheckEnds(t *testing.T) {
	g := ups(2, 3, 5, api.MaxId)
	for _, l := range []api.Link{link(2, 3, 1), link(2, api.MaxId, 1), link(5, api.MaxId, 1), cut(link(3, 5, 1))} {
		accepted(t, with(g, l))
		check(t, with(g, l))
	}
	for _, ends := range [][2]int{{3, 2}, {api.MaxId, 2}, {2, 2}, {api.MaxId, api.MaxId}, {1, 2}, {2, 4}, {4, 5}, {3, 4}, {6, api.MaxId}, {1, 4}, {1, 1}, {4, 4}, {5, api.MaxId - 1}} {
		refused(t, with(g, link(ends[0], ends[1], 1)), api.ErrLink)
		refused(t, with(g, cut(link(ends[0], ends[1], 1))), api.ErrLink)
	}
	for _, id := range notIds() {
		for _, l := range []api.Link{link(id, 2, 1), link(2, id, 1), link(id, id, 1)} {
			refused(t, with(g, l), api.ErrLink)
		}
	}
	refused(t, with(api.Graph{}, link(1, 2, 1)), api.ErrLink)
	refused(t, with(ups(1), link(1, 2, 1)), api.ErrLink)
	refused(t, with(ups(2), link(1, 2, 1)), api.ErrLink)
}

// Gr1: links rise by A, then by B, each pair once.
func TestCheckLinksRise(t *testing.T) {
	g := ups(1, 2, 3, 4)
	a, b, c, d := link(1, 2, 1), link(1, 4, 1), link(2, 3, 1), link(3, 4, 1)
	for _, l := range [][]api.Link{{a, b}, {a, c}, {b, c}, {b, d}, {c, d}, {a, b, c, d}, {a, c, d}} {
		accepted(t, with(g, l...))
		check(t, with(g, l...))
		back := slices.Clone(l)
		slices.Reverse(back)
		refused(t, with(g, back...), api.ErrLink)
		refused(t, with(g, append(slices.Clone(l), l[len(l)-1])...), api.ErrLink)
		refused(t, with(g, append([]api.Link{l[0]}, l...)...), api.ErrLink)
	}
	refused(t, with(g, a, link(1, 2, 2)), api.ErrLink)
	refused(t, with(g, a, cut(a)), api.ErrLink)
	refused(t, with(g, a, c, b), api.ErrLink)
	refused(t, with(g, a, b, a), api.ErrLink)
}

// Gr1: which weights a link may have.
func TestCheckWeights(t *testing.T) {
	for _, w := range []float64{1, 1.25, 1.5, 1.75, 2, 1 << 20, 1<<20 - 0.25} {
		accepted(t, with(ups(1, 2), link(1, 2, w)))
		check(t, with(ups(1, 2), link(1, 2, w)))
	}
	for _, x := range []struct {
		w    float64
		want api.Errno
	}{
		{nan, api.ErrNaN}, {negNaN, api.ErrNaN}, {otherNaN, api.ErrNaN}, {inf, api.ErrInf}, {negInf, api.ErrInf}, {negZero, api.ErrSign}, {-1, api.ErrSign}, {-tiny, api.ErrSign},
		{0, api.ErrLow}, {0.75, api.ErrLow}, {tiny, api.ErrLow}, {api.MaxWeight + 0.25, api.ErrHigh}, {1e300, api.ErrHigh}, {1.1, api.ErrQuarter}, {1.125, api.ErrQuarter},
	} {
		refused(t, with(ups(1, 2), link(1, 2, x.w)), x.want)
		refused(t, with(nodes(down(1), up(2)), cut(link(1, 2, x.w))), x.want)
	}
	for _, w := range notWeights() {
		refused(t, with(ups(1, 2, 3), link(1, 2, 1), link(1, 3, w)), weightError(w))
	}
}

// Gr1: too many go ahead of nodes, nodes of links, and links one behind the other.
func TestCheckOrder(t *testing.T) {
	g := ups(1, 2, 3)
	refused(t, with(ups(2, 1), link(9, 9, nan)), api.ErrNode)
	refused(t, with(g, link(2, 1, nan)), api.ErrLink)
	refused(t, with(g, link(1, 9, 0.5)), api.ErrLink)
	refused(t, with(g, link(1, 2, nan), link(9, 9, 1)), api.ErrNaN)
	refused(t, with(g, link(1, 2, 1), link(9, 9, 1), link(2, 3, nan)), api.ErrLink)
	refused(t, with(g, link(1, 3, 0.5), link(1, 2, 1)), api.ErrLow)
	refused(t, with(g, link(1, 3, 1), link(1, 2, 0.5)), api.ErrLink)
	refused(t, with(g, link(1, 2, 0.5), link(1, 3, 1.1)), api.ErrLow)
	refused(t, with(g, link(1, 2, 1.1), link(1, 3, 0.5)), api.ErrQuarter)
}

// Gr1: how many nodes and links may be.
func TestCheckMany(t *testing.T) {
	accepted(t, manyNodes(api.MaxNodes))
	accepted(t, manyLinks(api.MaxLinks))
	refused(t, manyNodes(api.MaxNodes+1), api.ErrFull)
	refused(t, manyLinks(api.MaxLinks+1), api.ErrFull)
	refused(t, manyLinks(30000), api.ErrFull)
	refused(t, api.Graph{Nodes: make([]api.Node, api.MaxNodes)}, api.ErrNode)
	refused(t, api.Graph{Nodes: make([]api.Node, api.MaxNodes+1)}, api.ErrFull)
	refused(t, api.Graph{Links: make([]api.Link, api.MaxLinks)}, api.ErrLink)
	refused(t, api.Graph{Links: make([]api.Link, api.MaxLinks+1)}, api.ErrFull)
	refused(t, with(ups(2, 1), make([]api.Link, api.MaxLinks+1)...), api.ErrFull)
	refused(t, api.Graph{Nodes: make([]api.Node, 1<<20)}, api.ErrFull)
}

// Gr2: a change of no kind, or with a part that it has not.
func TestApplyArg(t *testing.T) {
	g := small()
	for _, kind := range []int{0, -1, -9, 10, 11, 255, 257, 1<<32 + 1, math.MaxInt, math.MinInt} {
		for _, c := range []api.Change{{Kind: kind}, {Kind: kind, A: 1}, {Kind: kind, A: 1, B: 2}, {Kind: kind, A: 7}, {Kind: kind, A: 1, B: 2, Weight: 2}, {Kind: kind, A: 0, B: 0, Weight: nan}} {
			refuses(t, g, c, api.ErrArg)
			refuses(t, api.Graph{}, c, api.ErrArg)
		}
	}
	weights := append(notWeights(), 1, 2)
	weights = slices.DeleteFunc(weights, func(w float64) bool { return math.Float64bits(w) == 0 })
	for _, kind := range append(nodeKinds(), api.ChangeAdd) {
		for _, a := range []int{1, 5, 7, 0, -1, math.MaxInt} {
			for _, b := range append(notIds()[1:], 1, 2, 7) {
				refuses(t, g, of(kind, a, b), api.ErrArg)
			}
			for _, w := range weights {
				refuses(t, g, api.Change{Kind: kind, A: a, Weight: w}, api.ErrArg)
				refuses(t, g, api.Change{Kind: kind, A: a, B: 2, Weight: w}, api.ErrArg)
			}
		}
	}
	for _, kind := range linkKinds() {
		for _, w := range weights {
			refuses(t, g, api.Change{Kind: kind, A: 1, B: 2, Weight: w}, api.ErrArg)
			refuses(t, g, api.Change{Kind: kind, A: 1, B: 5, Weight: w}, api.ErrArg)
			refuses(t, g, api.Change{Kind: kind, Weight: w}, api.ErrArg)
		}
	}
}

// Gr2: a graph that may not be goes ahead of all that is wrong with a change.
func TestApplyRefusesGraphs(t *testing.T) {
	for _, c := range []api.Change{{}, {Kind: 10}, add(0), add(9), {Kind: api.ChangeAdd, A: 9, B: 1}, join(1, 1, nan), of(api.ChangeCrash, 1)} {
		applyIs(t, ups(2, 1), c, api.Graph{}, api.ErrNode)
		applyIs(t, with(ups(1, 2), link(2, 1, 1)), c, api.Graph{}, api.ErrLink)
		applyIs(t, with(ups(1, 2), link(1, 2, 0.5)), c, api.Graph{}, api.ErrLow)
		applyIs(t, manyNodes(api.MaxNodes+1), c, api.Graph{}, api.ErrFull)
	}
}

// Gr2: a router that comes to be is up, and no landmark, and stands where its number has it.
func TestApplyAdd(t *testing.T) {
	applyIs(t, api.Graph{}, add(1), ups(1), api.OK)
	applyIs(t, api.Graph{}, add(api.MaxId), ups(api.MaxId), api.OK)
	applyIs(t, nodes(marked(down(3)), up(5)), add(4), nodes(marked(down(3)), up(4), up(5)), api.OK)
	applyIs(t, nodes(marked(down(3)), up(5)), add(1), nodes(up(1), marked(down(3)), up(5)), api.OK)
	applyIs(t, nodes(marked(down(3)), up(5)), add(6), nodes(marked(down(3)), up(5), up(6)), api.OK)
	applyIs(t, with(ups(1, 3), link(1, 3, 2)), add(2), with(ups(1, 2, 3), link(1, 3, 2)), api.OK)
	for _, id := range notIds() {
		refuses(t, small(), add(id), api.ErrNode)
	}
	for _, n := range small().Nodes {
		refuses(t, small(), add(n.Id), api.ErrTwice)
	}
}

// Gr2: a router behind the last one that has room.
func TestApplyAddFull(t *testing.T) {
	most := manyNodes(api.MaxNodes)
	applyIs(t, nodes(most.Nodes[1:]...), add(most.Nodes[0].Id), nodes(append([]api.Node{up(most.Nodes[0].Id)}, most.Nodes[1:]...)...), api.OK)
	refuses(t, most, add(1), api.ErrFull)
	refuses(t, most, add(api.MaxId), api.ErrTwice)
	refuses(t, most, add(api.MaxId+1), api.ErrNode)
	refuses(t, most, add(0), api.ErrNode)
}

// Gr2: a link comes to be between two, whichever stands first, and up, whether they are or not.
func TestApplyLink(t *testing.T) {
	g := nodes(up(1), down(2), marked(up(3)))
	for _, w := range []float64{1, 1.25, 1 << 20} {
		applyIs(t, g, join(1, 2, w), with(g, link(1, 2, w)), api.OK)
		applyIs(t, g, join(2, 1, w), with(g, link(1, 2, w)), api.OK)
	}
	applyIs(t, with(g, link(1, 2, 1), link(2, 3, 1)), join(3, 1, 2), with(g, link(1, 2, 1), link(1, 3, 2), link(2, 3, 1)), api.OK)
	applyIs(t, with(g, link(1, 3, 1), link(2, 3, 1)), join(1, 2, 2), with(g, link(1, 2, 2), link(1, 3, 1), link(2, 3, 1)), api.OK)
	applyIs(t, with(g, cut(link(1, 2, 1)), link(1, 3, 1)), join(3, 2, 2), with(g, cut(link(1, 2, 1)), link(1, 3, 1), link(2, 3, 2)), api.OK)
	for _, id := range append(notIds(), 4, 99) {
		for _, w := range []float64{1, nan, 0} {
			refuses(t, small(), join(id, 1, w), api.ErrNode)
			refuses(t, small(), join(1, id, w), api.ErrNode)
			refuses(t, small(), join(id, id, w), api.ErrNode)
		}
	}
	for _, n := range small().Nodes {
		refuses(t, small(), join(n.Id, n.Id, 1), api.ErrLink)
		refuses(t, small(), join(n.Id, n.Id, nan), api.ErrLink)
	}
	for _, l := range small().Links {
		for _, w := range []float64{1, l.Weight, nan, 0.5} {
			refuses(t, small(), join(l.A, l.B, w), api.ErrTwice)
			refuses(t, small(), join(l.B, l.A, w), api.ErrTwice)
		}
	}
	for _, w := range notWeights() {
		refuses(t, small(), join(1, 3, w), weightError(w))
		refuses(t, small(), join(3, 1, w), weightError(w))
	}
}

// Gr2: a link behind the last one that has room; all else goes ahead of that.
func TestApplyLinkFull(t *testing.T) {
	most := manyLinks(api.MaxLinks)
	l, first, last := most.Links[0], most.Nodes[0].Id, most.Nodes[255].Id
	l.Weight, l.Up = 2, true
	applyIs(t, with(most, most.Links[1:]...), join(l.A, l.B, 2), with(most, append([]api.Link{l}, most.Links[1:]...)...), api.OK)
	refuses(t, most, join(last, last-1, 1), api.ErrFull)
	refuses(t, most, join(last-1, last, 0.5), api.ErrLow)
	refuses(t, most, join(first, first+1, 1), api.ErrTwice)
	refuses(t, most, join(last, last, 1), api.ErrLink)
	refuses(t, most, join(last, 1, 1), api.ErrNode)
	applyIs(t, with(most, most.Links[1:]...), of(api.ChangeCrash, last), with(most, most.Links[1:]...), api.OK)
}

// Gr2: a link's other weight.
func TestApplyWeight(t *testing.T) {
	g := small()
	for i, l := range g.Links {
		for _, w := range []float64{1, 1.25, 7, 1 << 20, l.Weight} {
			want := with(g, slices.Clone(g.Links)...)
			want.Links[i].Weight = w
			applyIs(t, g, weigh(l.A, l.B, w), want, api.OK)
			applyIs(t, g, weigh(l.B, l.A, w), want, api.OK)
		}
		for _, w := range notWeights() {
			refuses(t, g, weigh(l.A, l.B, w), weightError(w))
			refuses(t, g, weigh(l.B, l.A, w), weightError(w))
		}
	}
	for _, c := range [][2]int{{1, 3}, {3, 1}, {1, 5}, {3, 9}, {1, 1}, {9, 9}, {1, 4}, {4, 1}, {0, 1}, {-1, 1}, {0, 0}, {math.MaxInt, 1}, {1, math.MinInt}} {
		for _, w := range []float64{1, 0, nan, 1.1} {
			refuses(t, g, weigh(c[0], c[1], w), api.ErrNone)
		}
	}
}

// Gr2: a link goes down and comes up; what is so already stays so.
func TestApplyCutRaise(t *testing.T) {
	g := small()
	for _, kind := range linkKinds() {
		for i, l := range g.Links {
			want := with(g, slices.Clone(g.Links)...)
			want.Links[i].Up = kind == api.ChangeRaise
			applyIs(t, g, of(kind, l.A, l.B), want, api.OK)
			applyIs(t, g, of(kind, l.B, l.A), want, api.OK)
			applyIs(t, want, of(kind, l.A, l.B), want, api.OK)
		}
		for _, c := range [][2]int{{1, 3}, {3, 1}, {1, 1}, {4, 1}, {1, 0}, {0, 1}, {0, 0}, {-1, -2}, {math.MaxInt, math.MinInt}, {1, 10}, {9, 10}} {
			refuses(t, g, of(kind, c[0], c[1]), api.ErrNone)
		}
		refuses(t, api.Graph{}, of(kind, 1, 2), api.ErrNone)
	}
}

// Gr2: a router becomes a landmark, or none, and goes down and comes up; what is so already stays so.
func TestApplyNodes(t *testing.T) {
	g := small()
	for _, kind := range nodeKinds() {
		for i, n := range g.Nodes {
			switch kind {
			case api.ChangePromote, api.ChangeDemote:
				n.Mark = kind == api.ChangePromote
			default:
				n.Up = kind == api.ChangeStart
			}
			want := api.Graph{Nodes: slices.Clone(g.Nodes), Links: g.Links}
			want.Nodes[i] = n
			applyIs(t, g, of(kind, n.Id), want, api.OK)
			applyIs(t, want, of(kind, n.Id), want, api.OK)
		}
		for _, id := range append(notIds(), 4, 6, 10, api.MaxId) {
			refuses(t, g, of(kind, id), api.ErrNone)
			refuses(t, api.Graph{}, of(kind, id), api.ErrNone)
		}
	}
}

// Gr2: all changes with these parts, of some graphs.
func TestAllChanges(t *testing.T) {
	full := manyLinks(api.MaxLinks)
	for _, g := range []api.Graph{{}, ups(1), nodes(marked(down(2))), with(ups(1, 2), link(1, 2, 1)), with(nodes(up(1), down(2)), cut(link(1, 2, 1.5))), small(), ups(2, 1), with(ups(1, 2), link(1, 2, 1.1)), nodes(full.Nodes[:255]...), nodes(full.Nodes...)} {
		for kind := -1; kind <= 11; kind++ {
			for _, a := range []int{-1, 0, 1, 2, 3, 9, api.MaxId - 255, api.MaxId, api.MaxId + 1} {
				for _, b := range []int{-1, 0, 1, 2, 3, 9, api.MaxId - 255, api.MaxId, api.MaxId + 1} {
					for _, w := range []float64{0, negZero, nan, inf, -1, 0.5, 1, 1.5, 1.1, 1 << 20, 1<<20 + 1} {
						checkChange(t, g, api.Change{Kind: kind, A: a, B: b, Weight: w})
					}
				}
			}
		}
	}
}

// Gr2: changes one behind the other, up to the first that is refused.
func TestPlay(t *testing.T) {
	playIs(t, nil, api.Graph{}, 0, api.OK)
	playIs(t, []api.Change{add(2), add(1), of(api.ChangePromote, 1), join(2, 1, 1.5)}, with(nodes(marked(up(1)), up(2)), link(1, 2, 1.5)), 0, api.OK)
	playIs(t, []api.Change{add(3), join(3, 1, 1), add(1)}, ups(3), 1, api.ErrNode)
	playIs(t, []api.Change{{}}, api.Graph{}, 0, api.ErrArg)
	playIs(t, []api.Change{add(0)}, api.Graph{}, 0, api.ErrNode)
	playIs(t, []api.Change{add(1), add(2), join(1, 2, 1), of(api.ChangeCut, 2, 1), add(2), add(3)}, with(ups(1, 2), cut(link(1, 2, 1))), 4, api.ErrTwice)
	playIs(t, []api.Change{add(1), of(api.ChangeCrash, 1), of(api.ChangeCrash, 2), {}}, nodes(down(1)), 2, api.ErrNone)
	playIs(t, []api.Change{add(1), {Kind: api.ChangeAdd, A: 2, Weight: negZero}}, ups(1), 1, api.ErrArg)
	playIs(t, []api.Change{add(1), add(2), join(1, 2, 1), weigh(2, 1, 1.1)}, with(ups(1, 2), link(1, 2, 1)), 3, api.ErrQuarter)
}

// Gr2: how many changes may be played, and how many routers and links.
func TestPlayMany(t *testing.T) {
	l := []api.Change{add(1)}
	for len(l) < api.MaxSteps {
		l = append(l, of(api.ChangeCrash, 1))
	}
	playIs(t, l, nodes(down(1)), 0, api.OK)
	playIs(t, append(l, of(api.ChangeStart, 1)), api.Graph{}, 0, api.ErrFull)
	l[api.MaxSteps-1] = api.Change{}
	playIs(t, l, nodes(down(1)), api.MaxSteps-1, api.ErrArg)
	playIs(t, make([]api.Change, api.MaxSteps), api.Graph{}, 0, api.ErrArg)
	playIs(t, make([]api.Change, api.MaxSteps+1), api.Graph{}, 0, api.ErrFull)
	playIs(t, make([]api.Change, 1<<20), api.Graph{}, 0, api.ErrFull)

	l = nil
	for id := api.MaxNodes; id >= 1; id-- {
		l = append(l, add(id))
	}
	want := ups()
	for id := range api.MaxNodes {
		want.Nodes = append(want.Nodes, up(id+1))
	}
	playIs(t, l, want, 0, api.OK)
	playIs(t, append(slices.Clone(l), add(257)), want, 256, api.ErrFull)
	for i := range api.MaxLinks {
		l = append(l, join(256-i/64, 1+i%64, 2))
	}
	g, place, e := graph.Play(l)
	if len(g.Links) != api.MaxLinks || place != 0 || e != api.OK {
		t.Fatalf("%d links, %d, %d", len(g.Links), place, e)
	}
	accepted(t, g)
	playIs(t, append(slices.Clone(l), of(api.ChangeCut, 1, 256), join(2, 1, 1)), do(t, g, of(api.ChangeCut, 1, 256)), len(l)+1, api.ErrFull)
}

// Gr3: what is live.
func TestLive(t *testing.T) {
	liveIs(t, api.Graph{}, api.Graph{}, api.OK)
	liveIs(t, small(), with(nodes(marked(up(1)), up(2), up(9)), link(1, 2, 1.5), link(2, 9, 3)), api.OK)
	for i := range 8 {
		g := with(ups(1, 2), link(1, 2, 1))
		g.Nodes[0].Up, g.Nodes[1].Up, g.Links[0].Up = i&1 > 0, i&2 > 0, i&4 > 0
		want, _ := lived(g)
		liveIs(t, g, want, api.OK)
		if (len(want.Links) == 1) != (i == 7) {
			t.Errorf("%s: %s", short(g), short(want))
		}
	}
}

// Gr3: a router's live links rise by the other end; of one that is down there are none.
func TestNeighbours(t *testing.T) {
	g := small()
	neighboursAre(t, g, 1, []api.Link{link(1, 2, 1.5)}, api.OK)
	neighboursAre(t, g, 2, []api.Link{link(1, 2, 1.5), link(2, 9, 3)}, api.OK)
	neighboursAre(t, g, 9, []api.Link{link(2, 9, 3)}, api.OK)
	neighboursAre(t, g, 3, nil, api.OK)
	neighboursAre(t, g, 5, nil, api.OK)
	star := with(ups(1, 2, 3, 4, 5), link(1, 3, 5), link(1, 5, 2), link(2, 3, 4), link(3, 4, 3), link(3, 5, 1))
	neighboursAre(t, star, 3, []api.Link{link(1, 3, 5), link(2, 3, 4), link(3, 4, 3), link(3, 5, 1)}, api.OK)
	neighboursAre(t, star, 5, []api.Link{link(1, 5, 2), link(3, 5, 1)}, api.OK)
	for _, id := range append(notIds(), 4, 6, 10, api.MaxId) {
		neighboursAre(t, g, id, nil, api.ErrNone)
		neighboursAre(t, api.Graph{}, id, nil, api.ErrNone)
	}
	neighboursAre(t, ups(api.MaxId), api.MaxId, nil, api.OK)
}

// Gr4: graphs and their texts.
func TestTexts(t *testing.T) {
	thereAndBack(t, api.Graph{}, "")
	thereAndBack(t, nodes(up(1)), "node 1\n")
	thereAndBack(t, nodes(marked(up(1))), "node 1 mark\n")
	thereAndBack(t, nodes(down(1)), "node 1 down\n")
	thereAndBack(t, nodes(marked(down(1))), "node 1 mark down\n")
	thereAndBack(t, nodes(up(9), up(10), up(api.MaxId)), "node 9\nnode 10\nnode 2147483647\n")
	thereAndBack(t, with(ups(1, 10), link(1, 10, 1)), "node 1\nnode 10\nlink 1 10 1\n")
	thereAndBack(t, with(ups(1, 10), cut(link(1, 10, 2.25))), "node 1\nnode 10\nlink 1 10 2.25 down\n")
	thereAndBack(t, with(ups(1, 10), link(1, 10, 1<<20)), "node 1\nnode 10\nlink 1 10 1048576\n")
	thereAndBack(t, with(ups(1, 10), link(1, 10, 1<<20-0.25)), "node 1\nnode 10\nlink 1 10 1048575.75\n")
	thereAndBack(t, small(), "node 1 mark\nnode 2\nnode 3 down\nnode 5 mark down\nnode 9\nlink 1 2 1.5\nlink 1 9 1 down\nlink 2 3 2\nlink 2 9 3\nlink 3 5 4.25 down\nlink 5 9 1048576\n")
}

// Gr4: the longest text of a graph is no longer than MaxText.
func TestLongestText(t *testing.T) {
	g := manyLinks(api.MaxLinks)
	s := textOf(g)
	if len(s) > api.MaxText {
		t.Fatalf("%d bytes", len(s))
	}
	thereAndBack(t, g, s)
	noText(t, s+"link 1 2 1\n")
	noText(t, textOf(manyLinks(api.MaxLinks+1)))
	thereAndBack(t, manyNodes(api.MaxNodes), textOf(manyNodes(api.MaxNodes)))
	noText(t, textOf(manyNodes(api.MaxNodes+1)))
	noText(t, textOf(manyNodes(5000)))
}

// Gr4: texts of no graph.
func TestTextsOfNone(t *testing.T) {
	nodes := "node 1\nnode 2\nnode 3\n"
	for _, s := range []string{
		"\n", "\n\n", " ", " \n", "x", "x\n", "node", "node\n", "node \n", "link\n", "link \n", "node 1", "node 1\r\n", "node 1\n\n", "\nnode 1\n", "node 1\nnode 2", "node 1 \n", " node 1\n", "node  1\n", "node\t1\n", "Node 1\n", "nodes 1\n", "node1\n", "1\n", "node 1\x00\n", "node 1\n\x00", "# node\n", "node 1 # one\n",
		"node 0\n", "node -1\n", "node +1\n", "node 01\n", "node 00\n", "node 1.0\n", "node 1e0\n", "node 0x1\n", "node 1_0\n", "node n1\n", "node 2147483648\n", "node 4294967297\n", "node 18446744073709551617\n", "node " + strings.Repeat("9", 1000) + "\n", "node ١\n", "node one\n",
		"node 1 up\n", "node 1 mark up\n", "node 1 down mark\n", "node 1 mark mark\n", "node 1 down down\n", "node 1 mark down down\n", "node 1 mark mark down\n", "node 1  mark\n", "node 1 mark  down\n", "node 1 mark \n", "node 1 down \n", "node 1mark\n", "node 1 Mark\n", "node 1 markdown\n", "node mark\n", "node down\n", "node mark 1\n", "node 1 2\n", "mark 1\n", " mark\n", " down\n", "mark\n", "down\n",
		"node 1\nnode 1\n", "node 1\nnode 1 down\n", "node 2\nnode 1\n", "node 10\nnode 9\n",
		"link 1 2 1\n", "node 1\nlink 1 2 1\n", "node 1\nlink 1 2 1\nnode 2\n", "link 1 2 1\nnode 1\nnode 2\n", nodes + "link 1 2 1\nnode 4\n",
		nodes + "link 1 2\n", nodes + "link 1\n", nodes + "link 1 2 \n", nodes + "link  1 2 1\n", nodes + "link 1  2 1\n", nodes + "link 1 2  1\n", nodes + "link 1 2 1 \n", nodes + "link 1 2 1 1\n", nodes + "link 1 2 1", nodes + "link 1 2 1\n\n", nodes + "link 1 2 1 up\n", nodes + "link 1 2 1 mark\n", nodes + "link 1 2 1 mark down\n", nodes + "link 1 2 1 down down\n", nodes + "link 1 2 1  down\n", nodes + "link 1 2 1 down \n", nodes + "link 1 2 down\n", nodes + "link 1 2 down 1\n", nodes + "Link 1 2 1\n", nodes + "link\t1 2 1\n",
		nodes + "link 2 1 1\n", nodes + "link 1 1 1\n", nodes + "link 1 4 1\n", nodes + "link 0 1 1\n", nodes + "link -1 1 1\n", nodes + "link 01 2 1\n", nodes + "link 1 02 1\n", nodes + "link +1 2 1\n", nodes + "link 1 +2 1\n", nodes + "link n1 n2 1\n", nodes + "link x 2 1\n", nodes + "link 1 x 1\n", nodes + "link 1 18446744073709551618 1\n", nodes + "link 18446744073709551617 2 1\n",
		nodes + "link 1 3 1\nlink 1 2 1\n", nodes + "link 2 3 1\nlink 1 2 1\n", nodes + "link 1 2 1\nlink 1 2 1\n", nodes + "link 1 2 1\nlink 1 2 2 down\n",
		nodes + "link 1 2 0\n", nodes + "link 1 2 0.5\n", nodes + "link 1 2 .5\n", nodes + "link 1 2 1.\n", nodes + "link 1 2 1.0\n", nodes + "link 1 2 1.50\n", nodes + "link 1 2 01\n", nodes + "link 1 2 +1\n", nodes + "link 1 2 -1\n", nodes + "link 1 2 -0\n", nodes + "link 1 2 1e1\n", nodes + "link 1 2 1.1\n", nodes + "link 1 2 1,5\n", nodes + "link 1 2 0x2\n", nodes + "link 1 2 1_0\n", nodes + "link 1 2 inf\n", nodes + "link 1 2 +Inf\n", nodes + "link 1 2 nan\n", nodes + "link 1 2 NaN\n", nodes + "link 1 2 1048576.25\n", nodes + "link 1 2 1048577\n", nodes + "link 1 2 x\n", nodes + "link 1 2 1e400\n",
	} {
		noText(t, s)
		checkText(t, s)
	}
}

// Gr4: ErrLong goes ahead of ErrText, from the first byte too many on.
func TestTooLong(t *testing.T) {
	for _, start := range []string{"", "\n", "node 1\n", "x", textOf(small()), textOf(manyLinks(api.MaxLinks))} {
		for _, rest := range []string{"\n", "0", "a", " ", "node 1\n", "link 1 2 1\n"} {
			most := (start + strings.Repeat(rest, api.MaxText))[:api.MaxText]
			noText(t, most)
			parseIs(t, most+"\n", api.Graph{}, api.ErrLong)
			parseIs(t, most+most, api.Graph{}, api.ErrLong)
		}
	}
	noText(t, "node "+strings.Repeat("1", api.MaxText-6)+"\n")
	parseIs(t, "node "+strings.Repeat("1", api.MaxText-5)+"\n", api.Graph{}, api.ErrLong)
	noText(t, "node 1\nnode 2\nlink 1 2 "+strings.Repeat("1", api.MaxText-24)+"\n")
}

// Gr4: all short texts of some pieces.
func TestShortTexts(t *testing.T) {
	var grow func(s string, most int, pieces []string)
	grow = func(s string, most int, pieces []string) {
		checkText(t, s)
		if most == 0 {
			return
		}
		for _, piece := range pieces {
			grow(s+piece, most-1, pieces)
		}
	}
	grow("", 6, []string{"node ", "1", "2", " mark", " down", "\n", "0"})
	grow("", 4, []string{"node 1\n", "node 2\n", "node 2 mark\n", "link 1 2 1\n", "link 2 1 1\n", "node 3 down\n", "link 1 3 1.5\n", "link 2 3 1.5 down\n", "\n", "link 1 2 1"})
	grow("node 1\nnode 2\nnode 12\n", 6, []string{"link ", "1", "2", " ", ".5", " down", "\n"})
}

// Gr1, Gr2, Gr3, Gr4: many graphs, such as nearly may be, their changes, and texts that are nearly theirs.
func TestAgainstModel(t *testing.T) {
	r := rand.New(rand.NewPCG(7, 1))
	ids := []int{1, 2, 3, 4, 5, 10, 99, api.MaxId}
	for range 4000 {
		g := someGraph(r, ids...)
		check(t, g)
		wrong := changedGraph(r, g)
		check(t, wrong)
		check(t, changedGraph(r, wrong))
		for range 4 {
			checkChange(t, g, someChange(r, ids...))
		}
		checkChange(t, wrong, someChange(r, ids...))
		checkText(t, changedText(r, textOf(g)))
		checkText(t, changedText(r, changedText(r, textOf(g))))
	}
}

// Gr2, Gr5: scripts of many changes, up to the first one that is refused; what comes of them may be.
func TestPlayAgainstModel(t *testing.T) {
	r := rand.New(rand.NewPCG(7, 2))
	ids := []int{1, 2, 3, 4, 5, api.MaxId}
	longest := 0
	for range 3000 {
		var l []api.Change
		m := modelOf(api.Graph{})
		for range r.IntN(60) {
			c := someChange(r, ids...)
			if _, e := m.change(c); e == api.OK || r.IntN(60) == 0 { // else most would end at once
				l = append(l, c)
			}
		}
		want, place, e := played(l)
		playIs(t, l, want, place, e)
		check(t, want)
		if e == api.OK {
			longest = max(longest, len(l))
			if got := do(t, api.Graph{}, l...); !same(got, want) {
				t.Fatalf("%+v one by one: %s, not %s", l, short(got), short(want))
			}
		}
	}
	if longest < 20 {
		t.Errorf("no script of more than %d changes was played", longest)
	}
}

// Gr5: Apply of a graph that may be leaves one that may be, and tells nothing else of one that is refused.
func TestStaysAGraph(t *testing.T) {
	r := rand.New(rand.NewPCG(7, 3))
	ids := []int{1, 2, 3, 4, 5, 6, 7, 8, 9, 300, api.MaxId}
	g := api.Graph{}
	for range 20000 {
		next, e := graph.Apply(g, someChange(r, ids...))
		if e != api.OK {
			continue
		}
		accepted(t, next)
		if g = next; r.IntN(300) == 0 {
			g = someGraph(r, ids...)
		}
	}
}

// Gr5: what undoes one another.
func TestUndo(t *testing.T) {
	r := rand.New(rand.NewPCG(7, 4))
	for range 500 {
		g := someGraph(r, 1, 2, 3, 4, 5)
		for _, l := range g.Links {
			there, back := of(api.ChangeCut, l.A, l.B), of(api.ChangeRaise, l.B, l.A)
			if !l.Up {
				there, back = back, there
			}
			if got := do(t, g, there, back); !same(got, g) || same(do(t, g, there), g) {
				t.Fatalf("%s behind %+v and %+v: %s", short(g), there, back, short(got))
			}
		}
		for _, n := range g.Nodes {
			there, back := of(api.ChangeCrash, n.Id), of(api.ChangeStart, n.Id)
			if !n.Up {
				there, back = back, there
			}
			mark, unmark := of(api.ChangePromote, n.Id), of(api.ChangeDemote, n.Id)
			if n.Mark {
				mark, unmark = unmark, mark
			}
			if got := do(t, g, there, mark, back, unmark); !same(got, g) || same(do(t, g, there), g) || same(do(t, g, mark), g) {
				t.Fatalf("%s behind changes of %d and back: %s", short(g), n.Id, short(got))
			}
		}
	}
}

// Gr5: changes of two links, or of two routers' roles, in either order.
func TestEitherOrder(t *testing.T) {
	r := rand.New(rand.NewPCG(7, 5))
	for range 2000 {
		g := someGraph(r, 1, 2, 3, 4, 5, 6)
		if len(g.Nodes) < 2 || len(g.Links) < 2 {
			continue
		}
		var pairs [][2]api.Change
		one, other := pick(r, g.Links...), pick(r, g.Links...)
		if one.A != other.A || one.B != other.B {
			some := func(l api.Link) api.Change {
				return pick(r, of(api.ChangeCut, l.A, l.B), of(api.ChangeRaise, l.B, l.A), weigh(l.A, l.B, someWeight(r)))
			}
			pairs = append(pairs, [2]api.Change{some(one), some(other)})
		}
		if a, b := pick(r, g.Nodes...), pick(r, g.Nodes...); a.Id != b.Id {
			pairs = append(pairs, [2]api.Change{of(pick(r, nodeKinds()...), a.Id), of(pick(r, nodeKinds()...), b.Id)})
		}
		for _, p := range pairs {
			if this, that := do(t, g, p[0], p[1]), do(t, g, p[1], p[0]); !same(this, that) {
				t.Fatalf("%s behind %+v: %s, and turned round %s", short(g), p, short(this), short(that))
			}
		}
	}
}

// R3: nil and the empty list are the same.
func TestEmptyLists(t *testing.T) {
	for _, g := range []api.Graph{{}, {Nodes: []api.Node{}, Links: []api.Link{}}, {Nodes: make([]api.Node, 0, 5), Links: make([]api.Link, 0, 5)}} {
		check(t, g)
		applyIs(t, g, add(3), ups(3), api.OK)
		refuses(t, g, of(api.ChangeCrash, 3), api.ErrNone)
	}
	playIs(t, []api.Change{}, api.Graph{}, 0, api.OK)
	playIs(t, make([]api.Change, 0, 5), api.Graph{}, 0, api.OK)
}

// spoil overwrites a graph's lists and the room behind them.
func spoil(g api.Graph) {
	nodes, links := g.Nodes[:cap(g.Nodes)], g.Links[:cap(g.Links)]
	for i := range nodes {
		nodes[i] = api.Node{Id: 77, Up: true, Mark: true}
	}
	for i := range links {
		links[i] = link(77, 78, 79)
	}
}

// roomy is a graph with room behind its lists, and all that is there.
func roomy(g api.Graph) (api.Graph, api.Graph) {
	all := api.Graph{Nodes: append(slices.Clone(g.Nodes), up(100), down(101)), Links: append(slices.Clone(g.Links), link(100, 101, 1), link(102, 103, 2))}
	return api.Graph{Nodes: all.Nodes[:len(g.Nodes)], Links: all.Links[:len(g.Links)]}, all
}

// someAnswers is a graph of each call that tells one.
func someAnswers(g api.Graph) []api.Graph {
	var l []api.Graph
	for _, c := range []api.Change{add(7), add(10), join(1, 3, 1), join(5, 2, 1), weigh(2, 1, 9), of(api.ChangeCut, 1, 2), of(api.ChangeRaise, 1, 2), of(api.ChangePromote, 9), of(api.ChangeCrash, 9), of(api.ChangeStart, 9)} {
		got, _ := graph.Apply(g, c)
		l = append(l, got)
	}
	live, _ := graph.Live(g)
	links, _ := graph.Neighbours(g, 2)
	return append(l, live, api.Graph{Links: links})
}

// R3: what is handed in, and the room behind it, is not changed and not kept; answers are new.
func TestArgumentsAndAnswers(t *testing.T) {
	for _, g := range []api.Graph{small(), with(ups(1, 2, 3, 5, 9), link(1, 2, 1)), ups(1, 2, 3, 5, 9), {}} {
		given, all := roomy(g)
		before := api.Graph{Nodes: slices.Clone(all.Nodes), Links: slices.Clone(all.Links)}
		graph.Check(given)
		graph.Print(given)
		want := someAnswers(g)
		got := someAnswers(given)
		for i := range got {
			if !same(got[i], want[i]) {
				t.Errorf("of %s with room behind: %s, not %s", short(g), short(got[i]), short(want[i]))
			}
			spoil(got[i])
			for k := i + 1; k < len(got); k++ {
				if !same(got[k], want[k]) {
					t.Errorf("answer %d hangs on answer %d", k, i)
				}
			}
		}
		if !same(all, before) {
			t.Errorf("what was given is %s now, was %s", short(all), short(before))
		}
		got = someAnswers(given)
		spoil(all)
		for i := range got {
			if !same(got[i], want[i]) {
				t.Errorf("answer %d hangs on what was given", i)
			}
		}
	}
}

// R3: Play's and Parse's answers are new each time, and Play's changes are left as they are.
func TestPlayedAndParsedAreNew(t *testing.T) {
	l := []api.Change{add(2), add(1), join(2, 1, 1), of(api.ChangeCrash, 2), of(api.ChangeCrash, 9), add(5)}
	for n := range len(l) + 1 {
		before := slices.Clone(l)
		want, place, e := played(l[:n])
		one, _, _ := graph.Play(l[:n])
		other, _, _ := graph.Play(l[:n])
		spoil(one)
		if !same(other, want) || !slices.Equal(l, before) {
			t.Errorf("behind a changed answer: %s of %s", short(other), short(l))
		}
		playIs(t, l[:n], want, place, e)
	}
	s := textOf(small())
	one, _ := graph.Parse(s)
	other, _ := graph.Parse(s)
	spoil(one)
	if !same(other, small()) {
		t.Errorf("behind a changed answer: %s", short(other))
	}
	parseIs(t, s, small(), api.OK)
}

// R1, R4: whatever is asked, a call ends, and tells the same again.
func TestAnyArguments(t *testing.T) {
	r := rand.New(rand.NewPCG(7, 6))
	for range 3000 {
		g := someGraph(r, 1, 2, 3, 4, 5)
		for range r.IntN(6) {
			g = changedGraph(r, g)
		}
		s := textOf(g)
		for range r.IntN(6) {
			s = changedText(r, s)
		}
		c := someChange(r, 1, 2, 3, 4, 5)
		ended := guard.Run(func() {
			for range 2 {
				check(t, g)
				checkText(t, s)
				checkChange(t, g, c)
			}
		})
		if ended.Kind != api.CaughtNone {
			t.Fatalf("%s, %+v, %q: panics: %v", short(g), c, s, ended)
		}
	}
}
