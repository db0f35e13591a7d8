package landdv_test

import (
	"fmt"
	"math/rand/v2"
	"slices"
	"testing"

	"beacon/api"
	layer9 "beacon/ball"
	"beacon/graph"
	"beacon/landdv"
)

func textOf(v any) string { return fmt.Sprintf("%v", v) }

// network is a graph under a limit, and the marks of each router that is up, as it stands among those.
type network struct {
	live       api.Graph
	max        float64
	neighbours [][]link
	wantMarks  [][]api.Entry
	wantHomes  []api.Home
}

// link is who is at its other end, and where that one stands.
type link struct {
	at     int
	weight float64
}

func networkOf(t *testing.T, g api.Graph, max float64) network {
	t.Helper()
	live, e := graph.Live(g)
	if e != api.OK {
		t.Fatalf("Live(%v): %d", g, e)
	}
	n := network{live: live, max: max}
	tables, e := layer9.Tables(g, max)
	if e != api.OK {
		t.Fatalf("Tables(%v, %v): %d", g, max, e)
	}
	n.wantHomes, _ = layer9.Homes(g, max)
	for i, node := range live.Nodes {
		n.wantMarks = append(n.wantMarks, onlyMarks(tables[i]))
		n.neighbours = append(n.neighbours, linksOf(live, node.Id))
	}
	return n
}

func onlyMarks(l []api.Entry) []api.Entry {
	return slices.DeleteFunc(l, func(e api.Entry) bool { return e.Kind != api.EntryMark })
}

// linksOf is by the other end's number, rising.
func linksOf(live api.Graph, id int) []link {
	var l []link
	neighbours, _ := graph.Neighbours(live, id)
	for _, x := range neighbours {
		other := x.A + x.B - id
		at := slices.IndexFunc(live.Nodes, func(n api.Node) bool { return n.Id == other })
		l = append(l, link{at, x.Weight})
	}
	return l
}

// round: all hear what all neighbours tell now, at once.
func (n network) round(t *testing.T, known [][]api.Entry) [][]api.Entry {
	t.Helper()
	told := make([][]api.News, len(known))
	for i, node := range n.live.Nodes {
		news, e := landdv.Tell(node.Id, node.Mark, known[i])
		if e != api.OK {
			t.Fatalf("Tell(%d, %v, %v): %d", node.Id, node.Mark, known[i], e)
		}
		told[i] = news
	}
	after := make([][]api.Entry, len(known))
	for i, node := range n.live.Nodes {
		var l []api.Heard
		for _, x := range n.neighbours[i] {
			l = append(l, heard(n.live.Nodes[x.at].Id, x.weight, told[x.at]...))
		}
		marks, e := landdv.Marks(node.Id, l, n.max)
		if e != api.OK {
			t.Fatalf("Marks(%d, %v, %v): %d", node.Id, l, n.max, e)
		}
		after[i] = marks
	}
	return after
}

func sameKnown(a, b [][]api.Entry) bool { return slices.EqualFunc(a, b, sameEntries) }

// isRight: each one's marks and home are as layer 9 has them.
func (n network) isRight(t *testing.T, known [][]api.Entry) {
	t.Helper()
	for i, node := range n.live.Nodes {
		if !sameEntries(known[i], n.wantMarks[i]) {
			t.Fatalf("%v under %v: %d knows %v, not %v", n.live, n.max, node.Id, known[i], n.wantMarks[i])
		}
		homes(t, node.Id, node.Mark, known[i], n.wantHomes[i], api.OK)
	}
}

// rounds is how many the chapter lets it take.
func (n network) rounds() int { return int(n.max*4) + 2 }

// comesRight: it does in that many rounds, and stays so.
func (n network) comesRight(t *testing.T, known [][]api.Entry) {
	t.Helper()
	for range n.rounds() {
		known = n.round(t, known)
	}
	n.isRight(t, known)
	for range 3 {
		known = n.round(t, known)
		n.isRight(t, known)
	}
}

// comesToRest goes on until nothing changes; that must come within the rounds.
func (n network) comesToRest(t *testing.T, known [][]api.Entry) {
	t.Helper()
	for range n.rounds() {
		after := n.round(t, known)
		if sameKnown(after, known) {
			n.isRight(t, after)
			return
		}
		known = after
	}
	n.isRight(t, known)
}

// anyKnown is marks that may be of each, of routers that are there and of such as are not; too near, too far, and by whom it likes.
func (n network) anyKnown(r *rand.Rand) [][]api.Entry {
	ids := []int{77, 78}
	for _, node := range n.live.Nodes {
		ids = append(ids, node.Id)
	}
	slices.Sort(ids)
	ids = slices.Compact(ids)
	known := make([][]api.Entry, len(n.live.Nodes))
	for i, node := range n.live.Nodes {
		for _, dest := range ids {
			switch {
			case dest == node.Id || r.IntN(3) == 0:
			case r.IntN(6) == 0:
				known[i] = append(known[i], farMark(dest))
			default:
				dist := min(far, pick(r, 0.25, 0.5, 1, 1.75, 3, n.max-0.25, n.max, 2*n.max+3, far))
				known[i] = append(known[i], entry(dest, dist, pick(r, ids...)))
			}
		}
	}
	return known
}

func (n network) nothing() [][]api.Entry { return make([][]api.Entry, len(n.live.Nodes)) }

// someGraph is a graph that may be, of some of these nodes and some of the links between them; its weights are few, so that ways are often as long as others, and landmarks as near.
func someGraph(r *rand.Rand, ids ...int) api.Graph {
	var g api.Graph
	share, downs, marks := r.IntN(5), pick(r, 3, 5, 20, 1000), pick(r, 1, 2, 3, 4)
	for _, id := range ids {
		if r.IntN(8) > 0 {
			g.Nodes = append(g.Nodes, api.Node{Id: id, Up: r.IntN(downs) > 0, Mark: r.IntN(marks) == 0})
		}
	}
	weights := pick(r, []float64{1}, []float64{1, 2, 3}, []float64{1, 1.25, 1.5, 1.75, 2.5}, []float64{1, 5, 20})
	for i, a := range g.Nodes {
		for _, b := range g.Nodes[i+1:] {
			if r.IntN(5) >= share {
				g.Links = append(g.Links, api.Link{A: a.Id, B: b.Id, Weight: pick(r, weights...), Up: r.IntN(downs) > 0})
			}
		}
	}
	return g
}

// La3: what layer 9 has is a fixed point.
func TestRightIsFixed(t *testing.T) {
	r := rand.New(rand.NewPCG(15, 5))
	for range 4000 {
		g := someGraph(r, 1, 2, 3, 5, 8, 50, 60, api.MaxId)
		n := networkOf(t, g, pick(r, 1, 1.25, 2, 2.75, 3, 4.5, 6, 10, 30, 1<<20, api.MaxLimit))
		n.isRight(t, n.round(t, n.wantMarks))
	}
}

// states is all marks of one that may be, with these destinations, these distances, and this next.
func states(dests []int, dists []float64, next int) [][]api.Entry {
	all := [][]api.Entry{nil}
	for _, dest := range dests {
		var longer [][]api.Entry
		for _, l := range all {
			longer = append(longer, l, append(slices.Clone(l), farMark(dest)))
			for _, d := range dists {
				longer = append(longer, append(slices.Clone(l), entry(dest, d, next)))
			}
		}
		all = longer
	}
	return all
}

// pairOf is two neighbours, 3 and 5.
func pairOf(weight float64, mark3, mark5 bool) api.Graph {
	return api.Graph{
		Nodes: []api.Node{{Id: 3, Up: true, Mark: mark3}, {Id: 5, Up: true, Mark: mark5}},
		Links: []api.Link{{A: 3, B: 5, Weight: weight, Up: true}},
	}
}

// La3, La4: two neighbours, from all that they may have known of one another and of one that is not there. No state but the right one is fixed.
func TestAllStatesOfTwo(t *testing.T) {
	for _, max := range []float64{1, 1.25, 2, 2.25} {
		var dists []float64
		for d := 0.25; d <= max; d += 0.25 {
			dists = append(dists, d)
		}
		for way := range 8 {
			n := networkOf(t, pairOf(1+float64(way>>2)/4, way&1 > 0, way&2 > 0), max)
			for _, of3 := range states([]int{4, 5}, dists, 5) {
				for _, of5 := range states([]int{3, 4}, dists, 3) {
					known := [][]api.Entry{of3, of5}
					if sameKnown(n.round(t, known), known) {
						n.isRight(t, known)
					}
					n.comesToRest(t, known)
				}
			}
		}
	}
}

// La4: all networks of three routers, from nothing and from wrong marks.
func TestAllNetworksOfThree(t *testing.T) {
	r := rand.New(rand.NewPCG(15, 6))
	weights := []float64{0, 1, 1.5, 2}
	for way := range 4 * 4 * 4 * 8 {
		g := api.Graph{Nodes: []api.Node{{Id: 2, Up: true, Mark: way&1 > 0}, {Id: 4, Up: true, Mark: way&2 > 0}, {Id: 6, Up: true, Mark: way&4 > 0}}}
		for i, l := range []api.Link{{A: 2, B: 4, Up: true}, {A: 2, B: 6, Up: true}, {A: 4, B: 6, Up: true}} {
			if l.Weight = weights[way>>(3+2*i)%4]; l.Weight > 0 {
				g.Links = append(g.Links, l)
			}
		}
		for _, max := range []float64{1, 1.25, 2, 2.5, 3, 4, 5} {
			n := networkOf(t, g, max)
			n.comesRight(t, n.nothing())
			n.comesRight(t, n.anyKnown(r))
		}
	}
}

// La3, La4: larger networks, links and routers of which are down, from any marks.
func TestRounds(t *testing.T) {
	r := rand.New(rand.NewPCG(15, 7))
	for range 600 {
		g := someGraph(r, 1, 2, 3, 5, 8, 9, 50, 60, api.MaxId)
		n := networkOf(t, g, pick(r, 1, 1.75, 2, 3, 4.5, 6, 10))
		n.comesRight(t, n.nothing())
		for range 3 {
			n.comesRight(t, n.anyKnown(r))
		}
	}
}

// La4: behind each change the marks come right from those that were right ahead of it: what is gone rises till it is too far.
func TestChanges(t *testing.T) {
	r := rand.New(rand.NewPCG(15, 8))
	for range 60 {
		g := someGraph(r, 1, 2, 3, 5, 8, 9, 50)
		max := pick(r, 2, 4.5, 10, 40)
		byId := map[int][]api.Entry{}
		for range 12 {
			g = changed(t, r, g)
			n := networkOf(t, g, max)
			known := n.nothing()
			for i, node := range n.live.Nodes {
				known[i] = byId[node.Id]
			}
			n.comesToRest(t, known)
			for i, node := range n.live.Nodes {
				byId[node.Id] = n.wantMarks[i]
			}
		}
	}
}

// changed is a graph behind one change of one of its nodes or links.
func changed(t *testing.T, r *rand.Rand, g api.Graph) api.Graph {
	t.Helper()
	var c api.Change
	switch {
	case len(g.Nodes) == 0:
		return g
	case len(g.Links) > 0 && r.IntN(2) == 0:
		l := pick(r, g.Links...)
		c = api.Change{Kind: pick(r, api.ChangeCut, api.ChangeCut, api.ChangeRaise, api.ChangeWeight), A: l.A, B: l.B}
		if c.Kind == api.ChangeWeight {
			c.Weight = pick(r, 1, 1.25, 2, 7)
		}
	default:
		c = api.Change{Kind: pick(r, api.ChangePromote, api.ChangeDemote, api.ChangeCrash, api.ChangeStart), A: pick(r, g.Nodes...).Id}
	}
	after, e := graph.Apply(g, c)
	if e != api.OK {
		t.Fatalf("Apply(%v, %v): %d", g, c, e)
	}
	return after
}

// La4: a landmark that is gone, on two heavy links: the least rise is their weight; and a long path, whose end is heard by all.
func TestFarNetworks(t *testing.T) {
	r := rand.New(rand.NewPCG(15, 9))
	heavy := api.Graph{
		Nodes: []api.Node{{Id: 1, Up: true}, {Id: 2, Up: true}, {Id: 3, Mark: true}},
		Links: []api.Link{{A: 1, B: 2, Weight: api.MaxWeight, Up: true}, {A: 2, B: 3, Weight: 1, Up: true}},
	}
	n := networkOf(t, heavy, api.MaxLimit)
	n.comesToRest(t, [][]api.Entry{{entry(3, api.MaxWeight+1, 2)}, {entry(3, 1, 3)}})
	n.comesToRest(t, n.anyKnown(r))

	var path api.Graph
	for id := 1; id <= 80; id++ {
		path.Nodes = append(path.Nodes, api.Node{Id: id, Up: true, Mark: id == 1 || id == 36})
		if id > 1 {
			path.Links = append(path.Links, api.Link{A: id - 1, B: id, Weight: 1, Up: true})
		}
	}
	for _, max := range []float64{20, 40, 79, 79.25, 100} {
		n := networkOf(t, path, max)
		n.comesToRest(t, n.nothing())
		n.comesToRest(t, n.anyKnown(r))
	}
}
