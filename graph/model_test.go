package graph_test

import (
	"fmt"
	"maps"
	"math"
	"math/big"
	"math/rand/v2"
	"regexp"
	"slices"
	"strconv"
	"strings"

	"beacon/api"
)

// What the chapter says, once more and in another way: by sets and by patterns.

// weightError is what layer 1 refuses of a weight.
func weightError(w float64) api.Errno {
	switch bits := math.Float64bits(w); {
	case w != w:
		return api.ErrNaN
	case bits<<1 == 0x7ff0000000000000<<1:
		return api.ErrInf
	case bits>>63 == 1:
		return api.ErrSign
	}
	quarters := new(big.Rat).Mul(new(big.Rat).SetFloat64(w), big.NewRat(4, 1))
	switch {
	case quarters.Cmp(big.NewRat(4, 1)) < 0:
		return api.ErrLow
	case quarters.Cmp(big.NewRat(4*1048576, 1)) > 0:
		return api.ErrHigh
	case !quarters.IsInt():
		return api.ErrQuarter
	}
	return api.OK
}

// model is a graph as two sets.
type model struct {
	nodes map[int]api.Node
	links map[[2]int]api.Link
}

func modelOf(g api.Graph) model {
	m := model{map[int]api.Node{}, map[[2]int]api.Link{}}
	for _, n := range g.Nodes {
		m.nodes[n.Id] = n
	}
	for _, l := range g.Links {
		m.links[[2]int{l.A, l.B}] = l
	}
	return m
}

// graph is the one that has just these nodes and links.
func (m model) graph() api.Graph {
	var g api.Graph
	for _, id := range slices.Sorted(maps.Keys(m.nodes)) {
		g.Nodes = append(g.Nodes, m.nodes[id])
	}
	pairs := slices.SortedFunc(maps.Keys(m.links), func(a, b [2]int) int { return slices.Compare(a[:], b[:]) })
	for _, pair := range pairs {
		g.Links = append(g.Links, m.links[pair])
	}
	return g
}

// linkError is why a link may not stand behind others.
func (m model) linkError(ahead []api.Link, l api.Link) api.Errno {
	_, a := m.nodes[l.A]
	_, b := m.nodes[l.B]
	if !a || !b || l.A >= l.B {
		return api.ErrLink
	}
	for _, other := range ahead {
		if other.A > l.A || other.A == l.A && other.B >= l.B {
			return api.ErrLink
		}
	}
	return weightError(l.Weight)
}

// checkGraph is what Check ought to tell.
func checkGraph(g api.Graph) api.Errno {
	if len(g.Nodes) > 256 || len(g.Links) > 4096 {
		return api.ErrFull
	}
	m := modelOf(g)
	for i, id := range slices.Sorted(maps.Keys(m.nodes)) {
		if id < 1 || id > 2147483647 || id != g.Nodes[i].Id {
			return api.ErrNode
		}
	}
	if len(m.nodes) != len(g.Nodes) {
		return api.ErrNode
	}
	for i, l := range g.Links {
		if e := m.linkError(g.Links[:i], l); e != api.OK {
			return e
		}
	}
	return api.OK
}

// partsMayBe is whether a change has no part that is not one of its kind's.
func partsMayBe(c api.Change) bool {
	has := map[int]string{1: "A", 2: "ABW", 3: "ABW", 4: "AB", 5: "AB", 6: "A", 7: "A", 8: "A", 9: "A"}[c.Kind]
	return has != "" &&
		(c.B == 0 || strings.Contains(has, "B")) &&
		(math.Float64bits(c.Weight) == 0 || strings.Contains(has, "W"))
}

// firstError is the first of some errors that holds.
func firstError(l ...api.Errno) api.Errno {
	for _, e := range l {
		if e != api.OK {
			return e
		}
	}
	return api.OK
}

func errorIf(ok bool, e api.Errno) api.Errno {
	if ok {
		return e
	}
	return api.OK
}

// changeError is why a change of a graph that may be is refused.
func (m model) changeError(c api.Change) api.Errno {
	if !partsMayBe(c) {
		return api.ErrArg
	}
	_, a := m.nodes[c.A]
	_, b := m.nodes[c.B]
	_, link := m.links[[2]int{min(c.A, c.B), max(c.A, c.B)}]
	switch c.Kind {
	case 1:
		return firstError(errorIf(c.A < 1 || c.A > 2147483647, api.ErrNode), errorIf(a, api.ErrTwice), errorIf(len(m.nodes) == 256, api.ErrFull))
	case 2:
		return firstError(errorIf(!a || !b, api.ErrNode), errorIf(c.A == c.B, api.ErrLink), errorIf(link, api.ErrTwice), weightError(c.Weight), errorIf(len(m.links) == 4096, api.ErrFull))
	case 3:
		return firstError(errorIf(!link, api.ErrNone), weightError(c.Weight))
	case 4, 5:
		return errorIf(!link, api.ErrNone)
	}
	return errorIf(!a, api.ErrNone)
}

// change is what Apply ought to tell of a graph that may be.
func (m model) change(c api.Change) (api.Graph, api.Errno) {
	if e := m.changeError(c); e != api.OK {
		return api.Graph{}, e
	}
	n := m.nodes[c.A]
	pair := [2]int{min(c.A, c.B), max(c.A, c.B)}
	l := m.links[pair]
	switch c.Kind {
	case 1:
		n = api.Node{Id: c.A, Up: true}
	case 2:
		l = api.Link{A: pair[0], B: pair[1], Weight: c.Weight, Up: true}
	case 3:
		l.Weight = c.Weight
	case 4, 5:
		l.Up = c.Kind == 5
	case 6, 7:
		n.Mark = c.Kind == 6
	case 8, 9:
		n.Up = c.Kind == 9
	}
	if c.Kind >= 2 && c.Kind <= 5 {
		m.links[pair] = l
	} else {
		m.nodes[c.A] = n
	}
	return m.graph(), api.OK
}

// applied is what Apply ought to tell.
func applied(g api.Graph, c api.Change) (api.Graph, api.Errno) {
	if e := checkGraph(g); e != api.OK {
		return api.Graph{}, e
	}
	return modelOf(g).change(c)
}

// played is what Play ought to tell.
func played(l []api.Change) (api.Graph, int, api.Errno) {
	if len(l) > 65536 {
		return api.Graph{}, 0, api.ErrFull
	}
	m := modelOf(api.Graph{})
	for i, c := range l {
		if _, e := m.change(c); e != api.OK {
			return m.graph(), i, e
		}
	}
	return m.graph(), 0, api.OK
}

// lived is what Live ought to tell: what is down is taken away.
func lived(g api.Graph) (api.Graph, api.Errno) {
	if e := checkGraph(g); e != api.OK {
		return api.Graph{}, e
	}
	m := modelOf(g)
	maps.DeleteFunc(m.nodes, func(_ int, n api.Node) bool { return !n.Up })
	maps.DeleteFunc(m.links, func(pair [2]int, l api.Link) bool {
		return !l.Up || m.nodes[pair[0]].Id == 0 || m.nodes[pair[1]].Id == 0
	})
	return m.graph(), api.OK
}

// neighbours is what Neighbours ought to tell.
func neighbours(g api.Graph, id int) ([]api.Link, api.Errno) {
	live, e := lived(g)
	if e != api.OK {
		return nil, e
	}
	if _, ok := modelOf(g).nodes[id]; !ok {
		return nil, api.ErrNone
	}
	m := modelOf(live)
	var links []api.Link
	for _, n := range live.Nodes {
		if l, ok := m.links[[2]int{min(id, n.Id), max(id, n.Id)}]; ok {
			links = append(links, l)
		}
	}
	return links, api.OK
}

// printed is what Print ought to tell; no graph's text is too long.
func printed(g api.Graph) (string, api.Errno) {
	if e := checkGraph(g); e != api.OK {
		return "", e
	}
	return textOf(g), api.OK
}

// textOf is a graph's text; it may be one that may not be.
func textOf(g api.Graph) string {
	s := ""
	for _, n := range g.Nodes {
		s += fmt.Sprint("node ", n.Id, map[bool]string{true: " mark"}[n.Mark], map[bool]string{false: " down"}[n.Up], "\n")
	}
	for _, l := range g.Links {
		s += "link " + strconv.Itoa(l.A) + " " + strconv.Itoa(l.B) + " " + strconv.FormatFloat(l.Weight, 'f', -1, 64) + map[bool]string{false: " down"}[l.Up] + "\n"
	}
	return s
}

var (
	wholeText  = regexp.MustCompile(`^(?:node [^\n]*\n)*(?:link [^\n]*\n)*\z`)
	nodeLine   = regexp.MustCompile(`^node ([1-9][0-9]{0,9})( mark)?( down)?\z`)
	linkLine   = regexp.MustCompile(`^link ([1-9][0-9]{0,9}) ([1-9][0-9]{0,9}) ([1-9][0-9]{0,6}(?:\.25|\.5|\.75)?)( down)?\z`)
	noneParsed = api.Graph{}
)

// parsed is what Parse ought to tell.
func parsed(s string) (api.Graph, api.Errno) {
	if len(s) > 262144 {
		return noneParsed, api.ErrLong
	}
	if !wholeText.MatchString(s) {
		return noneParsed, api.ErrText
	}
	var g api.Graph
	lines := strings.Split(s, "\n")
	for _, line := range lines[:len(lines)-1] {
		n, l := nodeLine.FindStringSubmatch(line), linkLine.FindStringSubmatch(line)
		switch {
		case n != nil:
			g.Nodes = append(g.Nodes, api.Node{Id: number(n[1]), Mark: n[2] != "", Up: n[3] == ""})
		case l != nil:
			g.Links = append(g.Links, api.Link{A: number(l[1]), B: number(l[2]), Weight: float(l[3]), Up: l[4] == ""})
		default:
			return noneParsed, api.ErrText
		}
	}
	if checkGraph(g) != api.OK {
		return noneParsed, api.ErrText
	}
	return g, api.OK
}

func number(s string) int {
	n, err := strconv.Atoi(s)
	if err != nil {
		panic(err)
	}
	return n
}

func float(s string) float64 {
	f, err := strconv.ParseFloat(s, 64)
	if err != nil {
		panic(err)
	}
	return f
}

// sameLinks is whether links are the same to the bit.
func sameLinks(a, b []api.Link) bool {
	return slices.EqualFunc(a, b, func(a, b api.Link) bool {
		return a.A == b.A && a.B == b.B && a.Up == b.Up && math.Float64bits(a.Weight) == math.Float64bits(b.Weight)
	})
}

// same is whether graphs are the same to the bit.
func same(a, b api.Graph) bool { return slices.Equal(a.Nodes, b.Nodes) && sameLinks(a.Links, b.Links) }

func pick[T any](r *rand.Rand, l ...T) T { return l[r.IntN(len(l))] }

func someWeight(r *rand.Rand) float64 {
	return pick(r, 1, 1.25, 1.5, 1.75, 2, 10, 1<<20, 1<<20-0.25, 1+float64(r.IntN(1<<22-4))/4)
}

func wrongWeight(r *rand.Rand) float64 { return pick(r, notWeights()...) }

// someGraph is a graph that may be, of some of these nodes and some of the links between them.
func someGraph(r *rand.Rand, ids ...int) api.Graph {
	m := modelOf(api.Graph{})
	share := r.IntN(4)
	for _, id := range ids {
		if r.IntN(4) >= share {
			m.nodes[id] = api.Node{Id: id, Up: r.IntN(3) > 0, Mark: r.IntN(3) == 0}
		}
	}
	share = r.IntN(4)
	for a := range m.nodes {
		for b := range m.nodes {
			m.links[[2]int{a, b}] = api.Link{A: a, B: b, Weight: 1}
		}
	}
	g := m.graph() // in order, so that the draws are the same each time
	g.Links = slices.DeleteFunc(g.Links, func(l api.Link) bool { return l.A >= l.B || r.IntN(4) < share })
	for i := range g.Links {
		g.Links[i].Weight, g.Links[i].Up = someWeight(r), r.IntN(3) > 0
	}
	return g
}

// someChange is a change that may be, or nearly.
func someChange(r *rand.Rand, ids ...int) api.Change {
	c := api.Change{Kind: 1 + r.IntN(9), A: pick(r, ids...)}
	if c.Kind >= 2 && c.Kind <= 5 || r.IntN(40) == 0 {
		c.B = pick(r, ids...)
	}
	if c.Kind == 2 || c.Kind == 3 || r.IntN(40) == 0 {
		c.Weight = someWeight(r)
	}
	switch r.IntN(60) {
	case 0:
		c.Kind = pick(r, 0, -1, 10, 11, 1<<32+1, math.MaxInt, math.MinInt)
	case 1:
		c.Weight = wrongWeight(r)
	case 2:
		*pick(r, &c.A, &c.B) = pick(r, 0, -1, 99, math.MaxInt, math.MinInt)
	}
	return c
}

// changedGraph is a graph of which a part is another one: it may not be, mostly.
func changedGraph(r *rand.Rand, g api.Graph) api.Graph {
	g = api.Graph{Nodes: slices.Clone(g.Nodes), Links: slices.Clone(g.Links)}
	id := pick(r, 0, -1, 1, 2, 3, 4, 5, 99, api.MaxId, api.MaxId+1, math.MaxInt, math.MinInt)
	if len(g.Links) == 0 || r.IntN(3) == 0 {
		if len(g.Nodes) == 0 {
			return api.Graph{Nodes: []api.Node{{Id: id}}}
		}
		i, k := r.IntN(len(g.Nodes)), r.IntN(len(g.Nodes))
		switch r.IntN(4) {
		case 0:
			g.Nodes[i].Id = id
		case 1:
			g.Nodes[i], g.Nodes[k] = g.Nodes[k], g.Nodes[i]
		case 2:
			g.Nodes = slices.Delete(g.Nodes, i, i+1)
		default:
			g.Nodes = slices.Insert(g.Nodes, i, g.Nodes[k])
		}
		return g
	}
	i, k := r.IntN(len(g.Links)), r.IntN(len(g.Links))
	switch l := &g.Links[i]; r.IntN(7) {
	case 0:
		l.A = id
	case 1:
		l.B = id
	case 2:
		l.A, l.B = l.B, l.A
	case 3:
		l.Weight = wrongWeight(r)
	case 4:
		g.Links[i], g.Links[k] = g.Links[k], g.Links[i]
	case 5:
		g.Links = slices.Insert(g.Links, i, g.Links[k])
	default:
		g.Links = slices.Delete(g.Links, i, i+1)
	}
	return g
}

// changedText is a text of which a little is other, gone or new.
func changedText(r *rand.Rand, s string) string {
	lines := strings.SplitAfter(s, "\n")
	i, k := r.IntN(len(lines)), r.IntN(len(lines))
	at := r.IntN(len(s) + 1)
	switch r.IntN(6) {
	case 0:
		lines[i], lines[k] = lines[k], lines[i]
		return strings.Join(lines, "")
	case 1:
		return strings.Join(slices.Insert(lines, i, lines[k]), "")
	case 2:
		return strings.Join(slices.Delete(lines, i, i+1), "")
	case 3:
		return s[:at] + s[min(at+1, len(s)):]
	case 4:
		return s[:at] + pick(r, " ", "\n", "0", "1", "2", ".5", ".0", "e1", "+", "-", " mark", " down", "node ", "link ", "\r", "\t", "\x00", "inf") + s[at:]
	}
	return strings.Replace(s, pick(r, " ", "node", "link", "mark", "down", "1", "2", "3", "4", "5"), pick(r, "", " ", "node", "link", "mark", "down", "1", "2", "0", "x"), 1)
}
