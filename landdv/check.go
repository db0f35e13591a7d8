package landdv

import (
	"beacon/api"
	"beacon/delta"
	"beacon/message"
	"beacon/metric"
)

// isNumber stands here too, since this layer does not call the one that tells of numbers.
func isNumber(id int) bool { return id >= 1 && id <= api.MaxId }

// mayBeHeard tells whether a router may have heard something of its neighbours.
func mayBeHeard(self int, heard []api.Heard) bool {
	for i, h := range heard {
		if !mayBeNeighbour(h) || h.From == self || i > 0 && heard[i-1].From >= h.From {
			return false
		}
	}
	return true
}

func mayBeNeighbour(h api.Heard) bool {
	return isNumber(h.From) && metric.Weight(h.Weight) == api.OK && isList(h.News)
}

// isList asks the layer that has lists, by an Out that has nothing else wrong.
func isList(l []api.News) bool { return delta.Check(api.Out{Acked: l}) == api.OK }

// checkMarks tells why a router may not have such marks.
func checkMarks(self int, marks []api.Entry) api.Errno {
	if !isNumber(self) {
		return api.ErrId
	}
	for i, m := range marks {
		if !mayBeMark(m) || m.Dest == self || i > 0 && marks[i-1].Dest >= m.Dest {
			return api.ErrArg
		}
	}
	return api.OK
}

// mayBeMark leaves to the news what both have: number, distance, and neither radius nor home. Only oneself is at +0.
func mayBeMark(m api.Entry) bool {
	return m.Kind == api.EntryMark && m.Dist > 0 && mayBeNews(newsOf(m)) && hasItsNext(m)
}

// hasItsNext: there is a first hop just where one gets there.
func hasItsNext(m api.Entry) bool {
	if isTooFar(m.Dist) {
		return m.Next == 0
	}
	return isNumber(m.Next)
}

// mayBeNews asks the layer of messages, by an advert that has nothing else wrong.
func mayBeNews(n api.News) bool {
	return message.Check(api.Message{Kind: api.MessageAdvert, Nonce: 1, Echo: 1, Seq: 1, News: []api.News{n}}) == api.OK
}

// newsOf is an entry as it is told.
func newsOf(e api.Entry) api.News {
	return api.News{Dest: e.Dest, Kind: e.Kind, Dist: e.Dist, Radius: e.Radius, Home: e.Home}
}
