package session_test

import (
	"fmt"
	"math"
	"math/rand/v2"
	"testing"

	"beacon/api"
	"beacon/metric"
	"beacon/session"
)

const most = math.MaxUint64

// nonces is 0, and such as may be one.
func nonces() []uint64 {
	return []uint64{0, 1, 2, 5, 9, 10, 1<<31 + 1, 1<<32 - 1, 1 << 32, 1<<32 + 1, 1<<63 - 1, 1 << 63, 1<<63 + 1, most - 1, most}
}

// someSessions is such as may be.
func someSessions() []api.Session {
	var l []api.Session
	for _, mine := range nonces()[1:] {
		for _, peer := range nonces() {
			for _, silent := range []int{0, 1, 2, 5, math.MaxInt - 1, math.MaxInt} {
				l = append(l, api.Session{Mine: mine, Peer: peer, Silent: silent})
				if peer > 0 {
					l = append(l, api.Session{Mine: mine, Peer: peer, Up: true, Silent: silent})
				}
			}
		}
	}
	return l
}

// up is one of whose ends each has heard the other one.
func up(mine, peer uint64) api.Session { return api.Session{Mine: mine, Peer: peer, Up: true} }

// hears: what Hear tells.
func hears(t *testing.T, s api.Session, nonce, echo uint64, after api.Session, fresh, up bool) api.Session {
	t.Helper()
	gotAfter, gotFresh, gotUp := session.Hear(s, nonce, echo)
	if gotAfter != after || gotFresh != fresh || gotUp != up {
		t.Fatalf("Hear(%+v, %d, %d): %+v, %v, %v, not %+v, %v, %v", s, nonce, echo, gotAfter, gotFresh, gotUp, after, fresh, up)
	}
	return after
}

// accepts: what Accept tells.
func accepts(t *testing.T, s api.Session, nonce, echo uint64, after api.Session, ok, up bool) api.Session {
	t.Helper()
	gotAfter, gotOk, gotUp := session.Accept(s, nonce, echo)
	if gotAfter != after || gotOk != ok || gotUp != up {
		t.Fatalf("Accept(%+v, %d, %d): %+v, %v, %v, not %+v, %v, %v", s, nonce, echo, gotAfter, gotOk, gotUp, after, ok, up)
	}
	return after
}

// ticks: what Tick tells.
func ticks(t *testing.T, s api.Session, life int, after api.Session, down bool) api.Session {
	t.Helper()
	if gotAfter, gotDown := session.Tick(s, life); gotAfter != after || gotDown != down {
		t.Fatalf("Tick(%+v, %d): %+v, %v, not %+v, %v", s, life, gotAfter, gotDown, after, down)
	}
	return after
}

// says: what Hello tells.
func says(t *testing.T, s api.Session, nonce, echo uint64) {
	t.Helper()
	if gotNonce, gotEcho := session.Hello(s); gotNonce != nonce || gotEcho != echo {
		t.Fatalf("Hello(%+v): %d, %d, not %d, %d", s, gotNonce, gotEcho, nonce, echo)
	}
}

// begins: New tells a session without a neighbour.
func begins(t *testing.T, mine uint64) api.Session {
	t.Helper()
	s, e := session.New(mine)
	if s != (api.Session{Mine: mine}) || e != api.OK {
		t.Fatalf("New(%d): %+v, %d", mine, s, e)
	}
	return s
}

// The chapter's examples.
func TestExamples(t *testing.T) {
	s := begins(t, 5)
	s = hears(t, s, 9, 0, api.Session{Mine: 5, Peer: 9}, true, false)
	says(t, s, 5, 9)
	s = hears(t, s, 9, 5, up(5, 9), false, true)
	hears(t, s, 8, 5, s, false, false)

	s = hears(t, s, 10, 0, api.Session{Mine: 5, Peer: 10}, true, false)
	accepts(t, s, 9, 5, s, false, false)

	ticks(t, up(5, 9), 1, api.Session{Mine: 6}, true)
}

// Se1: the usual settings, all of them, and that they may be.
func TestUsual(t *testing.T) {
	want := api.Config{MaxDist: 256, MaxTTL: 256, MaxEntries: 256, HelloLife: 6, Resend: 3, DirLife: 40, Refresh: 8}
	if got := session.Usual(); got != want {
		t.Fatalf("Usual: %+v, not %+v", got, want)
	}
	if e := session.Check(session.Usual()); e != api.OK {
		t.Fatalf("Check of Usual: %d", e)
	}
}

// setting is a part of settings that is a whole number, and what it may be at least and at most.
type setting struct {
	name        string
	of          func(c *api.Config) *int
	least, most int
}

func settings() []setting {
	return []setting{
		{"MaxTTL", func(c *api.Config) *int { return &c.MaxTTL }, 1, 65536},
		{"MaxEntries", func(c *api.Config) *int { return &c.MaxEntries }, 0, 65536},
		{"HelloLife", func(c *api.Config) *int { return &c.HelloLife }, 1, 1 << 20},
		{"Resend", func(c *api.Config) *int { return &c.Resend }, 1, 1 << 20},
		{"DirLife", func(c *api.Config) *int { return &c.DirLife }, 1, 1 << 20},
		{"Refresh", func(c *api.Config) *int { return &c.Refresh }, 1, 1 << 20},
	}
}

func checks(t *testing.T, c api.Config, want api.Errno) {
	t.Helper()
	if e := session.Check(c); e != want {
		t.Errorf("Check(%+v): %d, not %d", c, e, want)
	}
}

// Se1: each whole number by itself, up to what it may be and beyond.
func TestCheckWhole(t *testing.T) {
	for _, x := range settings() {
		c := session.Usual()
		for _, n := range []int{x.least, x.least + 1, 77, x.most - 1, x.most} {
			*x.of(&c) = n
			checks(t, c, api.OK)
		}
		for _, n := range []int{x.least - 1, -1, -2, math.MinInt, x.most + 1, 1 << 21, 1 << 32, 1<<32 + 1, math.MaxInt} {
			*x.of(&c) = n
			checks(t, c, api.ErrLimit)
		}
	}
}

// Se1: the greatest distance, as layer 1 has it.
func TestCheckDistance(t *testing.T) {
	c := session.Usual()
	for _, d := range []float64{1, 1.25, 1.5, 255.75, 256, 1 << 20, 1<<30 - 0.25, 1 << 30} {
		c.MaxDist = d
		checks(t, c, api.OK)
	}
	wrong := []float64{
		math.NaN(), math.Float64frombits(0x7FF8000000000000), math.Float64frombits(0xFFF0000000000001), math.Inf(1), math.Inf(-1),
		0, math.Copysign(0, -1), -1, -256, 0.75, math.Nextafter(1, 0), math.Nextafter(1, 2), 1.1, 256.125, math.SmallestNonzeroFloat64,
		math.Nextafter(1<<30, 0), math.Nextafter(1<<30, 1<<31), 1<<30 + 0.25, 1 << 31, math.MaxFloat64,
	}
	for _, d := range wrong {
		c.MaxDist = d
		checks(t, c, api.ErrLimit)
	}
	r := rand.New(rand.NewPCG(12, 1))
	for range 10000 {
		c.MaxDist = pick(r, math.Float64frombits(r.Uint64()), math.Ldexp(float64(r.IntN(1<<20)), r.IntN(20)-6))
		want := api.OK
		if metric.Limit(c.MaxDist) != api.OK {
			want = api.ErrLimit
		}
		checks(t, c, want)
	}
}

// Se1: all at once at their least and at their most; and all but one, so that none is asked of another one's range.
func TestCheckTogether(t *testing.T) {
	least, greatest := api.Config{MaxDist: 1}, api.Config{MaxDist: 1 << 30}
	for _, x := range settings() {
		*x.of(&least), *x.of(&greatest) = x.least, x.most
	}
	checks(t, least, api.OK)
	checks(t, greatest, api.OK)
	checks(t, api.Config{}, api.ErrLimit)
	for _, x := range settings() {
		low, high := least, greatest
		*x.of(&low) = x.least - 1
		*x.of(&high) = x.most + 1
		checks(t, low, api.ErrLimit)
		checks(t, high, api.ErrLimit)
		low.MaxDist, high.MaxDist = math.NaN(), math.NaN()
		checks(t, low, api.ErrLimit)
		checks(t, high, api.ErrLimit)
	}
	least.MaxDist, greatest.MaxDist = 0.75, 1<<30+1
	checks(t, least, api.ErrLimit)
	checks(t, greatest, api.ErrLimit)
}

// Se1.
func TestNew(t *testing.T) {
	for _, mine := range nonces()[1:] {
		begins(t, mine)
	}
	if s, e := session.New(0); s != (api.Session{}) || e != api.ErrArg {
		t.Errorf("New(0): %+v, %d, not the zero one, ErrArg", s, e)
	}
}

// Se2: Hello says the nonces of all that may be.
func TestHello(t *testing.T) {
	for _, s := range someSessions() {
		says(t, s, s.Mine, s.Peer)
	}
}

// Se2.
func TestHear(t *testing.T) {
	begun := api.Session{Mine: 5}
	for _, echo := range []uint64{0, 1, 4, 6, 9, most} {
		hears(t, begun, 9, echo, api.Session{Mine: 5, Peer: 9}, true, false)
	}
	hears(t, begun, 9, 5, up(5, 9), true, true) // it has heard Mine already
	hears(t, begun, 5, 5, up(5, 5), true, true) // both may have the same nonce
	hears(t, begun, most, 0, api.Session{Mine: 5, Peer: most}, true, false)
	hears(t, begun, 0, 0, begun, false, false)
	hears(t, begun, 0, 5, begun, false, false)
	hears(t, api.Session{Mine: 5, Silent: 3}, 0, 5, api.Session{Mine: 5, Silent: 3}, false, false)

	silent := api.Session{Mine: 5, Peer: 9, Silent: 3}
	hears(t, silent, 9, 0, api.Session{Mine: 5, Peer: 9}, false, false)
	hears(t, silent, 9, 4, api.Session{Mine: 5, Peer: 9}, false, false)
	hears(t, silent, 9, 9, api.Session{Mine: 5, Peer: 9}, false, false)
	hears(t, silent, 9, 5, up(5, 9), false, true)
	hears(t, silent, 10, 4, api.Session{Mine: 5, Peer: 10}, true, false)
	hears(t, silent, 10, 5, up(5, 10), true, true)

	silent.Up = true
	hears(t, silent, 9, 5, up(5, 9), false, false)
	hears(t, silent, 9, 0, up(5, 9), false, false) // an elder echo takes nothing back
	hears(t, silent, 9, 6, up(5, 9), false, false)
	hears(t, silent, 10, 0, api.Session{Mine: 5, Peer: 10}, true, false)
	hears(t, silent, 10, 4, api.Session{Mine: 5, Peer: 10}, true, false)
	hears(t, silent, 10, 5, up(5, 10), true, true)
	for _, elder := range []uint64{0, 1, 5, 8} {
		hears(t, silent, elder, 5, silent, false, false)
		hears(t, silent, elder, 0, silent, false, false)
	}
}

// Se3.
func TestAccept(t *testing.T) {
	begun := api.Session{Mine: 5, Silent: 2}
	for _, nonce := range []uint64{0, 5, 9, most} {
		for _, echo := range []uint64{0, 5, 9} {
			accepts(t, begun, nonce, echo, begun, false, false) // none is heard yet
		}
	}
	silent := api.Session{Mine: 5, Peer: 9, Silent: 3}
	accepts(t, silent, 9, 5, up(5, 9), true, true)
	silent.Up = true
	accepts(t, silent, 9, 5, up(5, 9), true, false)
	for _, was := range []bool{false, true} {
		silent.Up = was
		for _, nonce := range []uint64{0, 1, 5, 8, 10, most} {
			accepts(t, silent, nonce, 5, silent, false, false)
			accepts(t, silent, nonce, 9, silent, false, false)
		}
		for _, echo := range []uint64{0, 1, 4, 6, 9, most} {
			accepts(t, silent, 9, echo, silent, false, false)
		}
	}
}

// Se4.
func TestTick(t *testing.T) {
	for _, silent := range []int{0, 3, math.MaxInt} {
		for _, life := range []int{math.MinInt, -1, 0, 1, 4, math.MaxInt} {
			s := api.Session{Mine: 5, Silent: silent}
			ticks(t, s, life, s, false) // who was never heard is not silent
		}
	}
	for _, s := range []api.Session{{Mine: 5, Peer: 9, Silent: 3}, {Mine: 5, Peer: 9, Up: true, Silent: 3}} {
		after := s
		after.Silent = 4
		for _, life := range []int{5, 6, 1 << 20, math.MaxInt} {
			ticks(t, s, life, after, false)
		}
		for _, life := range []int{4, 3, 1, 0, -1, math.MinInt} {
			ticks(t, s, life, api.Session{Mine: 6}, true)
		}
		s.Silent, after.Silent = math.MaxInt-2, math.MaxInt-1
		ticks(t, s, math.MaxInt, after, false)
		ticks(t, after, math.MaxInt, api.Session{Mine: 6}, true)
		after.Silent = math.MaxInt // one more would be the least int
		ticks(t, after, math.MaxInt, api.Session{Mine: 6}, true)
		ticks(t, after, 7, api.Session{Mine: 6}, true)
	}
	ticks(t, up(most-1, 9), 1, api.Session{Mine: most}, true)
	ticks(t, up(most, 9), 1, api.Session{Mine: most}, true)
}

// Se4: as many ticks as a life has, from what was heard last.
func TestTicks(t *testing.T) {
	for _, life := range []int{1, 2, 3, 6, 40} {
		s := up(5, 9)
		for silent := 1; silent < life; silent++ {
			s = ticks(t, s, life, api.Session{Mine: 5, Peer: 9, Up: true, Silent: silent}, false)
		}
		s = hears(t, s, 9, 0, up(5, 9), false, false)
		for silent := 1; silent < life; silent++ {
			s = ticks(t, s, life, api.Session{Mine: 5, Peer: 9, Up: true, Silent: silent}, false)
		}
		s = accepts(t, s, 9, 5, up(5, 9), true, false)
		for silent := 1; silent < life; silent++ {
			s = ticks(t, s, life, api.Session{Mine: 5, Peer: 9, Up: true, Silent: silent}, false)
		}
		s = ticks(t, s, life, api.Session{Mine: 6}, true)
		ticks(t, s, life, s, false)
	}
}

// Se4.
func TestDown(t *testing.T) {
	for _, s := range someSessions() {
		want := api.Session{Mine: s.Mine}
		if s.Mine < most {
			want.Mine++
		}
		if got := session.Down(s); got != want {
			t.Fatalf("Down(%+v): %+v, not %+v", s, got, want)
		}
	}
}

// Se2 to Se4: all sessions that may be, with nonces and echoes of all kinds, held against the history.
func TestAgainstHistory(t *testing.T) {
	for _, s := range someSessions() {
		for _, nonce := range append(nonces(), s.Peer-1, s.Peer+1) {
			for _, echo := range []uint64{0, 1, s.Mine - 1, s.Mine, s.Mine + 1, s.Peer, most} {
				h := historyOf(s)
				fresh, up := h.hear(said{nonce, echo})
				hears(t, s, nonce, echo, h.session(), fresh, up)
				h = historyOf(s)
				ok, up := h.accept(said{nonce, echo})
				accepts(t, s, nonce, echo, h.session(), ok, up)
			}
		}
		for _, life := range []int{math.MinInt, -1, 0, 1, 2, 3, 5, 6, 7, math.MaxInt - 1, math.MaxInt} {
			h := historyOf(s)
			down := h.tick(life)
			ticks(t, s, life, h.session(), down)
		}
	}
}

// Se2 to Se4: long ways of sessions, with each step's answer held against the history.
func TestLongAgainstHistory(t *testing.T) {
	r := rand.New(rand.NewPCG(12, 2))
	for range 3000 {
		s := begins(t, pick[uint64](r, 1, 5, 1<<32+1, most-2))
		h := &history{mine: s.Mine}
		for range 60 {
			near := s.Peer + uint64(r.IntN(3)) - 1
			nonce := pick(r, s.Peer, s.Peer, near, 1+uint64(r.IntN(4)), nonces()[r.IntN(len(nonces()))])
			echo := pick(r, s.Mine, s.Mine, s.Mine-1, s.Peer, 0, r.Uint64())
			switch r.IntN(8) {
			case 0, 1, 2:
				fresh, up := h.hear(said{nonce, echo})
				s = hears(t, s, nonce, echo, h.session(), fresh, up)
			case 3, 4:
				ok, up := h.accept(said{nonce, echo})
				s = accepts(t, s, nonce, echo, h.session(), ok, up)
			case 5, 6:
				life := pick(r, 1, 2, 3, 4, 4, 4)
				down := h.tick(life)
				s = ticks(t, s, life, h.session(), down)
			default:
				h.down()
				if got := session.Down(s); got != h.session() {
					t.Fatalf("Down(%+v): %+v, not %+v", s, got, h.session())
				}
				s = h.session()
			}
			says(t, s, h.mine, h.peer())
		}
	}
}

// R1: of sessions that may not be, too, all calls end.
func TestOthersEnd(t *testing.T) {
	others := []api.Session{
		{}, {Peer: 9}, {Peer: 9, Up: true}, {Up: true}, {Mine: 5, Up: true}, {Mine: most, Up: true, Silent: math.MinInt},
		{Mine: 5, Peer: 9, Silent: -1}, {Mine: 5, Peer: 9, Up: true, Silent: math.MinInt}, {Peer: most, Silent: math.MaxInt},
	}
	for _, s := range others {
		for _, nonce := range nonces() {
			for _, echo := range nonces() {
				session.Hear(s, nonce, echo)
				session.Accept(s, nonce, echo)
			}
		}
		for _, life := range []int{math.MinInt, -1, 0, 1, math.MaxInt} {
			session.Tick(s, life)
		}
		session.Down(s)
		session.Hello(s)
	}
}

// R4: the same calls tell the same, whatever was called between.
func TestSameAgain(t *testing.T) {
	tell := func(s api.Session) string {
		after, fresh, up := session.Hear(s, 9, 5)
		accepted, ok, came := session.Accept(s, 9, 5)
		ticked, down := session.Tick(s, 4)
		begun, e := session.New(s.Mine)
		return fmt.Sprint(after, fresh, up, accepted, ok, came, ticked, down, session.Down(s), begun, e, session.Usual(), session.Check(session.Usual()))
	}
	l := someSessions()
	first := make([]string, len(l))
	for i, s := range l {
		first[i] = tell(s)
	}
	for i := len(l) - 1; i >= 0; i-- {
		if again := tell(l[i]); again != first[i] {
			t.Fatalf("%+v: first %s, then %s", l[i], first[i], again)
		}
	}
}

func pick[T any](r *rand.Rand, l ...T) T { return l[r.IntN(len(l))] }
