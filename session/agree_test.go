package session_test

import (
	"fmt"
	"maps"
	"math/rand/v2"
	"slices"
	"testing"

	"beacon/api"
	"beacon/session"
)

// Se5, Se6: two ends, of which each may say what its Hello tells at any time; whatever either ever could have said may come to the other one, at any time and as often as one likes.

// pair is two ends as they are, and what each could say until now, in order, each once.
type pair struct {
	ends [2]api.Session
	said [2][]said
}

func newPair(t *testing.T, a, b uint64) *pair {
	t.Helper()
	p := &pair{ends: [2]api.Session{begins(t, a), begins(t, b)}}
	p.speak()
	return p
}

// speak keeps what the ends would say now.
func (p *pair) speak() {
	for i, s := range p.ends {
		nonce, echo := session.Hello(s)
		if x := (said{nonce, echo}); !slices.Contains(p.said[i], x) {
			p.said[i] = append(slices.Clip(p.said[i]), x)
		}
	}
}

func (p *pair) key() string { return fmt.Sprint(p.ends, p.said) }

// move is what befalls an end: what the other one said comes, as a greeting or as news, or something else.
type move struct {
	end  int
	what string
	said said
	life int
}

// moves is all that may befall a pair now.
func (p *pair) moves() []move {
	var l []move
	for end := range p.ends {
		for _, x := range p.said[1-end] {
			l = append(l, move{end: end, what: "hear", said: x}, move{end: end, what: "accept", said: x})
		}
		l = append(l, move{end: end, what: "tick", life: 2}, move{end: end, what: "down"})
	}
	return l
}

// after is the pair behind a move; what Se5 says of that move is held against it.
func (p *pair) after(t *testing.T, m move) *pair {
	t.Helper()
	next := *p
	was, s := p.ends[m.end], &next.ends[m.end]
	accepted := false
	switch m.what {
	case "hear":
		*s, _, _ = session.Hear(was, m.said.nonce, m.said.echo)
	case "accept":
		*s, accepted, _ = session.Accept(was, m.said.nonce, m.said.echo)
	case "tick":
		*s, _ = session.Tick(was, m.life)
	case "down":
		*s = session.Down(was)
	}
	switch {
	case accepted && m.said != (said{s.Peer, s.Mine}):
		t.Fatalf("%+v: %+v accepted of another session: %+v", p.ends, m, *s)
	case s.Mine < was.Mine, s.Peer < was.Peer && s.Peer != 0:
		t.Fatalf("%+v: behind %+v a nonce fell: %+v", p.ends, m, *s)
	case s.Mine == was.Mine && s.Peer < was.Peer && s.Mine != most:
		t.Fatalf("%+v: behind %+v the neighbour is forgotten, with the same nonce: %+v", p.ends, m, *s)
	case s.Up && !slices.Contains(p.said[1-m.end], said{s.Peer, s.Mine}):
		t.Fatalf("%+v: behind %+v up, but not heard in %d by %d: %+v", p.ends, m, s.Mine, s.Peer, p.said)
	case s.Mine < 1, s.Silent < 0, s.Peer == 0 && s.Up:
		t.Fatalf("%+v: behind %+v one that may not be: %+v", p.ends, m, *s)
	}
	next.speak()
	return &next
}

// greets: three greetings, from either end on, bring both up with one another.
func (p *pair) greets(t *testing.T) {
	t.Helper()
	for first := range p.ends {
		ends := p.ends
		for k := range 3 {
			from, to := (first+k)%2, (first+k+1)%2
			nonce, echo := session.Hello(ends[from])
			ends[to], _, _ = session.Hear(ends[to], nonce, echo)
		}
		a, b := ends[0], ends[1]
		if !a.Up || !b.Up || a.Peer != b.Mine || b.Peer != a.Mine {
			t.Fatalf("%+v: behind three greetings, the first of end %d: %+v", p.ends, first, ends)
		}
		if a.Mine != p.ends[0].Mine || b.Mine != p.ends[1].Mine {
			t.Fatalf("%+v: greetings changed the nonces: %+v", p.ends, ends)
		}
	}
}

// Se5, Se6: behind all ways of few moves, each state once.
func TestAgreementAllWays(t *testing.T) {
	for _, begin := range [][2]uint64{{5, 9}, {7, 7}, {most - 1, 1}} {
		layer := []*pair{newPair(t, begin[0], begin[1])}
		seen := map[string]bool{layer[0].key(): true}
		for range 8 {
			next := map[string]*pair{}
			for _, p := range layer {
				p.greets(t)
				for _, m := range p.moves() {
					q := p.after(t, m)
					if key := q.key(); !seen[key] {
						seen[key] = true
						next[key] = q
					}
				}
			}
			layer = slices.Collect(maps.Values(next))
		}
		for _, p := range layer {
			p.greets(t)
		}
	}
}

// Se5, Se6: long ways; what comes is now the newest, now anything.
func TestAgreementLongWays(t *testing.T) {
	r := rand.New(rand.NewPCG(12, 5))
	bothUp := 0
	for range 1500 {
		p := newPair(t, pick[uint64](r, 1, 5, 1<<32+1, most-3), pick[uint64](r, 1, 5, 2<<32+1, most-3))
		for range 80 {
			end := r.IntN(2)
			other := p.said[1-end]
			nonce, echo := session.Hello(p.ends[1-end])
			x := pick(r, said{nonce, echo}, other[r.IntN(len(other))], other[len(other)-1])
			what := pick(r, "hear", "hear", "hear", "hear", "accept", "accept", "tick", "tick", "tick", "down")
			p = p.after(t, move{end: end, what: what, said: x, life: 1 + r.IntN(4)})
			p.greets(t)
			if p.ends[0].Up && p.ends[1].Up {
				bothUp++
			}
		}
	}
	if bothUp < 1000 {
		t.Fatalf("both were up only %d times", bothUp)
	}
}

// Se5: an elder life's news, and those from before a silence, are known as such.
func TestElderLives(t *testing.T) {
	a, b := begins(t, 1<<32+1), begins(t, 1<<32+1)
	b = hears(t, b, a.Mine, a.Peer, api.Session{Mine: b.Mine, Peer: a.Mine}, true, false)
	a = hears(t, a, b.Mine, b.Peer, up(a.Mine, b.Mine), true, true)
	b = hears(t, b, a.Mine, a.Peer, up(b.Mine, a.Mine), false, true)
	elder := a

	a = begins(t, 2<<32+1) // a crashed and came again
	accepts(t, b, elder.Mine, elder.Peer, b, true, false)
	b = hears(t, b, a.Mine, a.Peer, api.Session{Mine: b.Mine, Peer: a.Mine}, true, false)
	accepts(t, b, elder.Mine, elder.Peer, b, false, false)
	hears(t, b, elder.Mine, elder.Peer, b, false, false)

	a = hears(t, a, b.Mine, b.Peer, up(a.Mine, b.Mine), true, true)
	b = accepts(t, b, a.Mine, a.Peer, up(b.Mine, a.Mine), true, true)
	before := a
	b = ticks(t, b, 1, api.Session{Mine: b.Mine + 1}, true)
	accepts(t, b, before.Mine, before.Peer, b, false, false)
	b = hears(t, b, before.Mine, before.Peer, api.Session{Mine: b.Mine, Peer: before.Mine}, true, false)
	accepts(t, b, before.Mine, before.Peer, b, false, false) // it has not heard the new nonce
}
