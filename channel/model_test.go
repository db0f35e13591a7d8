package channel_test

import (
	"math"
	"math/big"
	"math/rand/v2"
	"strings"

	"beacon/api"
)

// What the chapter says, once more and in another way: each has the tick at which it may arrive, and a key by which it stands.

// item is a datagram in flight.
type item struct {
	from, to int
	bytes    string
	due      int
}

// model is datagrams by rising keys, the key behind them, and the ticks that passed.
type model struct {
	items map[int]item
	next  int
	now   int
}

func (m *model) put(g api.Gram) api.Errno {
	switch {
	case !mayFly(g):
		return api.ErrArg
	case len(m.items) == api.MaxFlight:
		return api.ErrFull
	}
	m.items[m.next] = item{g.From, g.To, g.Bytes, m.now + g.Wait}
	m.next++
	return api.OK
}

// mayFly is what one must be, word by word.
func mayFly(g api.Gram) bool {
	for _, id := range []int{g.From, g.To} {
		if id < 1 || big.NewInt(int64(id)).BitLen() > 31 {
			return false
		}
	}
	return g.From != g.To && len(g.Bytes) <= 65536 && 0 <= g.Wait && g.Wait <= 65536
}

// keys is the keys, rising.
func (m *model) keys() []int {
	var l []int
	for key := range m.next {
		if _, ok := m.items[key]; ok {
			l = append(l, key)
		}
	}
	return l
}

func (m *model) gram(key int) api.Gram {
	x := m.items[key]
	return api.Gram{From: x.from, To: x.to, Bytes: x.bytes, Wait: max(x.due-m.now, 0)}
}

func (m *model) all() []api.Gram {
	var l []api.Gram
	for _, key := range m.keys() {
		l = append(l, m.gram(key))
	}
	return l
}

func (m *model) ready() []int {
	var l []int
	for i, g := range m.all() {
		if g.Wait == 0 {
			l = append(l, i)
		}
	}
	return l
}

// key is the key of one by its place, if there is that place.
func (m *model) key(i int) (int, bool) {
	for place, key := range m.keys() {
		if place == i {
			return key, true
		}
	}
	return 0, false
}

func (m *model) take(i int) (api.Gram, api.Errno) {
	key, ok := m.key(i)
	if !ok {
		return api.Gram{}, api.ErrNone
	}
	g := m.gram(key)
	if g.Wait > 0 {
		return api.Gram{}, api.ErrArg
	}
	delete(m.items, key)
	return g, api.OK
}

func (m *model) do(x api.Fate) (api.Gram, api.Errno) {
	i, hasI := m.key(x.I)
	k, hasK := m.key(x.K)
	switch x.Kind {
	case 1:
		return m.take(x.I)
	case 6:
		m.now++
		return api.Gram{}, api.OK
	case 7:
		return api.Gram{}, m.cut(x.I, x.K)
	}
	switch {
	case x.Kind < 1 || x.Kind > 7:
		return api.Gram{}, api.ErrArg
	case !hasI, x.Kind == 5 && !hasK:
		return api.Gram{}, api.ErrNone
	case x.Kind == 2:
		delete(m.items, i)
	case x.Kind == 3:
		return api.Gram{}, m.put(m.gram(i))
	case x.Kind == 4:
		return api.Gram{}, m.delay(i, x.K)
	case x.Kind == 5:
		m.items[i], m.items[k] = m.items[k], m.items[i]
	}
	return api.Gram{}, api.OK
}

func (m *model) delay(key, more int) api.Errno {
	wait := big.NewInt(int64(m.gram(key).Wait))
	wait.Add(wait, big.NewInt(int64(more)))
	if more < 0 || wait.Cmp(big.NewInt(65536)) > 0 {
		return api.ErrArg
	}
	x := m.items[key]
	x.due = m.now + int(wait.Int64())
	m.items[key] = x
	return api.OK
}

func (m *model) cut(a, b int) api.Errno {
	if !mayFly(api.Gram{From: a, To: b}) {
		return api.ErrArg
	}
	for key, x := range m.items {
		if x.from == a && x.to == b || x.from == b && x.to == a {
			delete(m.items, key)
		}
	}
	return api.OK
}

func pick[T any](r *rand.Rand, l ...T) T { return l[r.IntN(len(l))] }

// someId is mostly a number of few, so that there is often more than one between two.
func someId(r *rand.Rand) int {
	if r.IntN(20) > 0 {
		return pick(r, 1, 2, 3, api.MaxId)
	}
	return pick(r, 0, -1, math.MinInt, api.MaxId+1, 1<<32+1, math.MaxInt)
}

// someGram is mostly one that may be; its bytes begin with a name.
func someGram(r *rand.Rand, name string) api.Gram {
	g := api.Gram{From: someId(r), To: someId(r), Bytes: name, Wait: pick(r, 0, 0, 0, 1, 2, 3, api.MaxSteps)}
	switch r.IntN(40) {
	case 0:
		g.Wait = pick(r, -1, math.MinInt, api.MaxSteps+1, math.MaxInt)
	case 1:
		g.Bytes += strings.Repeat("x", pick(r, api.MaxGram, api.MaxGram+1)-len(name))
	}
	return g
}

// someFate is what may become of a flight of n, or what may not.
func someFate(r *rand.Rand, n int) api.Fate {
	x := api.Fate{Kind: 1 + r.IntN(7), I: r.IntN(n + 1), K: r.IntN(n + 1)}
	switch {
	case r.IntN(30) == 0:
		x = api.Fate{Kind: pick(r, 0, -1, 8, math.MinInt, math.MaxInt), I: x.I, K: x.K}
	case r.IntN(20) == 0:
		x.I = pick(r, -1, n, math.MinInt, math.MaxInt, 1<<32)
	case x.Kind == api.FateDelay:
		x.K = pick(r, 0, 1, 2, 3, 5, api.MaxSteps-1, api.MaxSteps, api.MaxSteps+1, -1, math.MinInt, math.MaxInt)
	case x.Kind == api.FateSwap && r.IntN(10) == 0:
		x.K = pick(r, -1, n, math.MinInt, math.MaxInt)
	case x.Kind == api.FateCut:
		x.I, x.K = someId(r), someId(r)
	}
	return x
}
