package delta

import (
	"cmp"
	"iter"
	"math"
	"slices"

	"beacon/api"
	"beacon/message"
)

// isList tells whether news are such as are advertised: of none that is gone.
func isList(l []api.News) bool { return areNews(l) && !slices.ContainsFunc(l, isGone) }

// areNews tells whether news may be told, in that order. Each is asked of by itself: an advert holds no more than MaxNews, and there may be more.
func areNews(l []api.News) bool {
	for i := range l {
		if !mayBe(l[i:i+1]) || i > 0 && byDest(l[i-1], l[i]) >= 0 {
			return false
		}
	}
	return true
}

// mayBe asks the layer of messages, by an advert that has nothing else wrong.
func mayBe(l []api.News) bool {
	return message.Check(api.Message{Kind: api.MessageAdvert, Nonce: 1, Echo: 1, Seq: 1, News: l}) == api.OK
}

func isGone(n api.News) bool { return math.IsInf(n.Dist, 1) }

// isNone tells whether it is no destination's: so stands what is not there.
func isNone(n api.News) bool { return n.Dest == 0 }

func byDest(a, b api.News) int {
	return cmp.Or(cmp.Compare(a.Kind, b.Kind), cmp.Compare(a.Dest, b.Dest))
}

func areSame(a, b []api.News) bool { return slices.EqualFunc(a, b, isSame) }

// isSame goes by the floats' bits: what is held against a list need not be one.
func isSame(a, b api.News) bool {
	return a.Dest == b.Dest && a.Kind == b.Kind && a.Home == b.Home &&
		haveSameBits(a.Dist, b.Dist) && haveSameBits(a.Radius, b.Radius)
}

func haveSameBits(a, b float64) bool { return math.Float64bits(a) == math.Float64bits(b) }

// diff is the news that make one list of another one, as many as most at most.
func diff(from, to []api.News, most int) []api.News {
	var l []api.News
	for old, now := range sideBySide(from, to) {
		if len(l) == most {
			break
		}
		switch {
		case isNone(now):
			l = append(l, goneOf(old))
		case !isSame(old, now):
			l = append(l, now)
		}
	}
	return l
}

func goneOf(n api.News) api.News {
	return api.News{Dest: n.Dest, Kind: n.Kind, Dist: math.Inf(1)}
}

// merge is a list behind news.
func merge(list, news []api.News) []api.News {
	var l []api.News
	for old, told := range sideBySide(list, news) {
		switch {
		case isNone(told):
			l = append(l, old)
		case !isGone(told):
			l = append(l, told)
		}
	}
	return l
}

// sideBySide yields of each destination that one of two has, in order, what each of them has of it. Both must be in order.
func sideBySide(a, b []api.News) iter.Seq2[api.News, api.News] {
	return func(yield func(ofA, ofB api.News) bool) {
		for i, k := 0, 0; i < len(a) || k < len(b); {
			var ofA, ofB api.News
			order := firstOf(a[i:], b[k:])
			if order <= 0 {
				ofA = a[i]
				i++
			}
			if order >= 0 {
				ofB = b[k]
				k++
			}
			if !yield(ofA, ofB) {
				return
			}
		}
	}
}

// firstOf is below 0 if the first destination of two is a's, above 0 if it is b's; 0: both have it. One of them must have one.
func firstOf(a, b []api.News) int {
	switch {
	case len(b) == 0:
		return -1
	case len(a) == 0:
		return 1
	}
	return byDest(a[0], b[0])
}
