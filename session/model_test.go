package session_test

import (
	"math"
	"slices"

	"beacon/api"
)

// What the chapter says of a session, once more and in another way: all that was taken since it began, from which the rest is told.

// said is what somebody said of nonces: its own one, and the one that it has heard.
type said struct{ nonce, echo uint64 }

// history is a session's nonce, what it took since that is its nonce, and the ticks behind the last of these.
type history struct {
	mine  uint64
	taken []said
	ticks uint64
}

// historyOf is one behind which a session that may be is as it is.
func historyOf(s api.Session) *history {
	h := &history{mine: s.Mine, ticks: uint64(s.Silent)}
	if s.Up {
		h.taken = []said{{s.Peer, s.Mine}}
	} else if s.Peer > 0 {
		h.taken = []said{{s.Peer, 0}}
	}
	return h
}

// peer is the greatest nonce that was taken.
func (h *history) peer() uint64 {
	greatest := uint64(0)
	for _, x := range h.taken {
		greatest = max(greatest, x.nonce)
	}
	return greatest
}

// isUp tells whether the peer said that it has heard mine.
func (h *history) isUp() bool { return slices.Contains(h.taken, said{h.peer(), h.mine}) }

func (h *history) session() api.Session {
	return api.Session{Mine: h.mine, Peer: h.peer(), Up: h.isUp(), Silent: int(min(h.ticks, math.MaxInt))}
}

// take tells whether what was said is of another peer, and whether the session came up by it.
func (h *history) take(x said) (fresh, up bool) {
	peer, wasUp := h.peer(), h.isUp()
	h.taken, h.ticks = append(h.taken, x), 0
	fresh = h.peer() != peer
	return fresh, h.isUp() && (fresh || !wasUp)
}

func (h *history) hear(x said) (fresh, up bool) {
	if x.nonce == 0 || x.nonce < h.peer() {
		return false, false
	}
	return h.take(x)
}

func (h *history) accept(x said) (ok, up bool) {
	if x.nonce == 0 || x != (said{h.peer(), h.mine}) {
		return false, false
	}
	_, up = h.take(x)
	return true, up
}

func (h *history) tick(life int) bool {
	if len(h.taken) == 0 {
		return false
	}
	h.ticks++
	if int(min(h.ticks, math.MaxInt)) < life {
		return false
	}
	h.down()
	return true
}

func (h *history) down() {
	next := h.mine + 1
	*h = history{mine: max(next, h.mine)} // behind the greatest one there is none
}
