package cache

import (
	"cmp"
	"math"
	"slices"

	"beacon/api"
	"beacon/message"
)

// mayBeTold tells whether news may be, in that order. An advert is asked of as many as it holds; the last of them is asked again with those that follow, so that the order holds over the seam.
func mayBeTold(news []api.News) bool {
	for len(news) > api.MaxNews {
		if !mayBeAdvert(news[:api.MaxNews]) {
			return false
		}
		news = news[api.MaxNews-1:]
	}
	return mayBeAdvert(news)
}

func mayBeAdvert(news []api.News) bool {
	return message.Check(api.Message{Kind: api.MessageAdvert, Nonce: 1, Echo: 1, Seq: 1, News: news}) == api.OK
}

// merge is a list behind news that may be told, in new memory, and of how many destinations it has something else.
func merge(list, news []api.News) (merged []api.News, changed int) {
	var none api.News // no destination's: it stands for what is not there
	for _, now := range news {
		i, has := place(list, now.Kind, now.Dest)
		merged = append(merged, list[:i]...)
		list = list[i:]
		old := none
		if has {
			old, list = list[0], list[1:]
		}
		if isGone(now) {
			now = none
		} else {
			merged = append(merged, now)
		}
		if now != old {
			changed++
		}
	}
	return append(merged, list...), changed
}

func isGone(n api.News) bool { return math.IsInf(n.Dist, 1) }

// place is where in a list News of a destination stands or would stand, and whether it does.
func place(list []api.News, kind, dest int) (int, bool) {
	return slices.BinarySearchFunc(list, api.News{Kind: kind, Dest: dest}, byDest)
}

func byDest(a, b api.News) int {
	return cmp.Or(cmp.Compare(a.Kind, b.Kind), cmp.Compare(a.Dest, b.Dest))
}
