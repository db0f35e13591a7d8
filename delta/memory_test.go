package delta_test

import (
	"math/rand/v2"
	"slices"
	"testing"

	"beacon/api"
	"beacon/delta"
)

// room is a list with room behind its end, and all of that as it is now.
type room struct{ list, all, kept []api.News }

func roomy(l []api.News) room {
	all := append(slices.Clone(l), mark(77, 7), ball(78, 1, 2, 3), mark(79, 9))
	return room{all[:len(l)], all, slices.Clone(all)}
}

func (x room) stays(t *testing.T, what string) {
	t.Helper()
	if !sameNews(x.all, x.kept) {
		t.Fatalf("%s: an argument, or the room behind it: %v, not %v", what, x.all, x.kept)
	}
}

// spoil writes over a list and its spare room.
func spoil(l []api.News) {
	l = l[:cap(l)]
	for i := range l {
		l[i] = mark(66, 66)
	}
}

func copyOut(o api.Out) api.Out {
	o.Acked, o.Sent = slices.Clone(o.Acked), slices.Clone(o.Sent)
	return o
}

// told is all lists that a call tells.
type told struct {
	what  string
	lists [][]api.News
}

// calls is all calls that tell lists, of those arguments.
func calls(o api.Out, a, b []api.News) []func() told {
	return []func() told{
		func() told { l, _ := delta.Diff(a, o.Acked); return told{"Diff", [][]api.News{l}} },
		func() told { l, _ := delta.Diff(o.Acked, a); return told{"Diff", [][]api.News{l}} },
		func() told { l, _ := delta.Merge(a, b); return told{"Merge", [][]api.News{l}} },
		func() told { l, _ := delta.Merge(a, nil); return told{"Merge", [][]api.News{l}} },
		func() told { l, _ := delta.Merge(nil, a); return told{"Merge", [][]api.News{l}} },
		func() told { x, l, _, _ := delta.Offer(o, a); return told{"Offer", [][]api.News{x.Acked, x.Sent, l}} },
		func() told { x, l, _, _ := delta.Offer(o, b); return told{"Offer", [][]api.News{x.Acked, x.Sent, l}} },
		func() told { x, _ := delta.Acked(o, o.Seq); return told{"Acked", [][]api.News{x.Acked, x.Sent}} },
		func() told { x, _ := delta.Acked(o, o.Seq+1); return told{"Acked", [][]api.News{x.Acked, x.Sent}} },
		func() told { x, _ := delta.Tick(o, 1); return told{"Tick", [][]api.News{x.Acked, x.Sent}} },
		func() told { x, _ := delta.Tick(o, 9); return told{"Tick", [][]api.News{x.Acked, x.Sent}} },
	}
}

// R3, R4: what is handed in stays, with the room behind it; an answer shares nothing with it, nor with another answer, nor one of its lists with another one.
func TestMemory(t *testing.T) {
	r := rand.New(rand.NewPCG(14, 3))
	for range 3000 {
		o := anyOut(r)
		acked, sent, a, b := roomy(o.Acked), roomy(o.Sent), roomy(mostly(r, someList(r))), roomy(mostly(r, someNews(r)))
		o.Acked, o.Sent = acked.list, sent.list
		for _, call := range calls(o, a.list, b.list) {
			first, again := call(), call()
			want := make([][]api.News, len(first.lists))
			for i, l := range first.lists {
				want[i] = slices.Clone(l)
			}
			for i := range first.lists {
				spoil(first.lists[i])
				for k := i + 1; k < len(want); k++ {
					if !sameNews(first.lists[k], want[k]) {
						t.Fatalf("%s: two lists of one answer share", first.what)
					}
				}
			}
			for i, l := range again.lists {
				if !sameNews(l, want[i]) {
					t.Fatalf("%s: two answers share, or differ", first.what)
				}
			}
			delta.Settled(o, a.list)
			delta.Check(o)
			for _, x := range []room{acked, sent, a, b} {
				x.stays(t, first.what)
			}
		}
	}
}

// R3: what was handed in may be written over behind the call.
func TestNothingIsKept(t *testing.T) {
	r := rand.New(rand.NewPCG(14, 4))
	for range 3000 {
		o, now := anyOut(r), mostly(r, someList(r))
		for i := range calls(o, now, now) {
			spoiled, spoiledNow := copyOut(o), slices.Clone(now)
			want := calls(o, now, now)[i]()
			got := calls(spoiled, spoiledNow, spoiledNow)[i]()
			spoil(spoiled.Acked)
			spoil(spoiled.Sent)
			spoil(spoiledNow)
			for k := range got.lists {
				if !sameNews(got.lists[k], want.lists[k]) {
					t.Fatalf("%s: an argument is kept", got.what)
				}
			}
		}
	}
}
