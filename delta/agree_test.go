package delta_test

import (
	"fmt"
	"math/rand/v2"
	"slices"
	"testing"

	"beacon/api"
	"beacon/delta"
)

// advert is what one end said: its number and its news.
type advert struct {
	seq  uint64
	news []api.News
}

// pair is two ends, what the first one advertises now, and all that was ever said between them: any of it may come at any time, as often as it likes, or never.
type pair struct {
	out     api.Out
	now     []api.News
	in      api.In
	heard   []api.News
	adverts []advert
	acks    []uint64
}

// offer: the first end advertises that now.
func (p pair) offer(t *testing.T, now []api.News) pair {
	t.Helper()
	after, news, ok, e := delta.Offer(p.out, now)
	if e != api.OK {
		t.Fatalf("Offer(%v, %v): %d", p.out, now, e)
	}
	if ok {
		p.adverts = append(slices.Clone(p.adverts), advert{after.Seq, news})
	}
	p.out, p.now = after, now
	return p
}

// take: an advert comes to the other end.
func (p pair) take(t *testing.T, a advert) pair {
	t.Helper()
	after, fresh, ack := delta.Take(p.in, a.seq)
	p.in = after
	if fresh {
		l, e := delta.Merge(p.heard, a.news)
		if e != api.OK {
			t.Fatalf("Merge(%v, %v): %d", p.heard, a.news, e)
		}
		p.heard = l
	}
	if ack && !slices.Contains(p.acks, a.seq) {
		p.acks = append(slices.Clone(p.acks), a.seq)
	}
	return p
}

// receipt: one comes back.
func (p pair) receipt(seq uint64) pair {
	p.out, _ = delta.Acked(p.out, seq)
	return p
}

// agrees: the other end has what is acknowledged, or, while something flies, that with what flies; if it settled, what is advertised.
func (p pair) agrees(t *testing.T) {
	t.Helper()
	checkedOut(t, p.out)
	has := sameNews(p.heard, p.out.Acked)
	if p.out.Flying && !has {
		l, _ := modelMerge(p.out.Acked, p.out.Sent)
		has = sameNews(p.heard, l)
	}
	if !has {
		t.Fatalf("it has %v: %+v", p.heard, p)
	}
	if delta.Settled(p.out, p.now) && !sameNews(p.heard, p.now) {
		t.Fatalf("settled, and it has %v: %+v", p.heard, p)
	}
}

func checkedOut(t *testing.T, o api.Out) {
	t.Helper()
	if delta.Check(o) != api.OK {
		t.Fatalf("it may not be: %+v", o)
	}
}

// settles: if what flies comes again and again, all is told in the end.
func (p pair) settles(t *testing.T) {
	t.Helper()
	for range 2 + (len(p.now)+len(p.out.Acked)+len(p.out.Sent))/api.MaxNews*2 {
		if p.out.Flying {
			p = p.take(t, advert{p.out.Seq, p.out.Sent}).receipt(p.out.Seq)
			p.agrees(t)
		}
		p = p.offer(t, p.now)
	}
	if !delta.Settled(p.out, p.now) || !sameNews(p.heard, p.now) {
		t.Fatalf("it does not settle: %+v", p)
	}
}

// moves is all that may come next.
func (p pair) moves(t *testing.T, lists [][]api.News) []pair {
	var l []pair
	for _, now := range lists {
		l = append(l, p.offer(t, now))
	}
	for _, a := range p.adverts {
		l = append(l, p.take(t, a))
	}
	for _, seq := range p.acks {
		l = append(l, p.receipt(seq))
	}
	return l
}

func (p pair) key() string { return fmt.Sprintf("%v", p) }

// De6: all states that two ends can come to with few adverts and three lists.
func TestAgreementInAllStates(t *testing.T) {
	const mostAdverts = 7
	lists := [][]api.News{nil, {mark(7, 1), ball(7, 1, 2, 9)}, {mark(7, 2), mark(8, 1)}}
	seen := map[string]struct{}{}
	queue := []pair{{}}
	for len(queue) > 0 {
		p := queue[0]
		queue = queue[1:]
		if _, was := seen[p.key()]; was || len(p.adverts) > mostAdverts {
			continue
		}
		seen[p.key()] = struct{}{}
		p.agrees(t)
		p.settles(t)
		queue = append(queue, p.moves(t, lists)...)
	}
	if len(seen) < 1000 {
		t.Fatalf("%d states alone", len(seen))
	}
}

// De6: long ways of larger lists; what was said comes late, twice, turned round or not at all; it is told again behind some ticks.
func TestAgreementOnLongWays(t *testing.T) {
	r := rand.New(rand.NewPCG(14, 6))
	for range 150 {
		p := pair{}
		for range 300 {
			switch x := r.IntN(10); {
			case x < 2:
				p = p.offer(t, someList(r))
			case x < 3:
				p = p.offer(t, p.now)
			case x < 4:
				p.out, _ = delta.Tick(p.out, 2)
			case x < 7 && len(p.adverts) > 0:
				p = p.take(t, late(r, p.adverts))
			case x >= 7 && len(p.acks) > 0:
				p = p.receipt(late(r, p.acks))
			}
			p.agrees(t)
		}
		p.settles(t)
	}
}

// late is mostly one of the last ones.
func late[T any](r *rand.Rand, l []T) T {
	if r.IntN(4) == 0 {
		return pick(r, l...)
	}
	return l[len(l)-1]
}

// De6: lists that take several adverts, and change meanwhile.
func TestAgreementOnManyNews(t *testing.T) {
	r := rand.New(rand.NewPCG(14, 7))
	for range 5 {
		p := pair{}
		for range 20 {
			if r.IntN(3) == 0 {
				p = p.offer(t, append(marks(r.IntN(1200), 1+r.IntN(600), pick(r, 1.0, 2)), many(r.IntN(600), 1)...))
			} else {
				p = p.offer(t, p.now)
			}
			if len(p.adverts) > 0 && r.IntN(4) > 0 {
				p = p.take(t, late(r, p.adverts))
			}
			if len(p.acks) > 0 && r.IntN(4) > 0 {
				p = p.receipt(late(r, p.acks))
			}
			p.agrees(t)
		}
		p.settles(t)
	}
}
