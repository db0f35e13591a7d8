package message_test

import (
	"encoding/binary"
	"math"
	"math/rand/v2"
	"regexp"
	"slices"
	"strings"

	"beacon/api"
)

// What the chapter says, once more and in another way.

var nameForm = regexp.MustCompile(`^[a-z](?:[a-z0-9-]{0,30}[a-z0-9])?\z`)

func within(n, least, most int) bool { return least <= n && n <= most }

// distance is whether a float is +0, quarters below 2^30, or +Inf.
func distance(f float64) bool {
	switch bits := math.Float64bits(f); {
	case bits == 0, bits == 0x7ff0000000000000:
		return true
	case bits > 0x7ff0000000000000: // NaNs, and all whose sign is set
		return false
	}
	return f < 1073741824 && f == math.Floor(f*4)/4
}

func newsMayBe(n api.News) bool {
	if !within(n.Dest, 1, 2147483647) || !within(n.Kind, 1, 2) || !distance(n.Dist) {
		return false
	}
	bare := n.Kind == 1 || n.Dist > 1e300
	switch {
	case bare:
		return math.Float64bits(n.Radius) == 0 && n.Home == 0
	case n.Radius > 1e300:
		return n.Home == 0
	}
	return distance(n.Radius) && within(n.Home, 1, 2147483647)
}

// rule is what a packet of a kind and a code has.
type rule struct{ name, address, body bool }

var rules = map[[2]int]rule{
	{1, 0}: {body: true},
	{2, 0}: {name: true, address: true},
	{3, 0}: {name: true},
	{4, 0}: {name: true, address: true},
	{4, 1}: {name: true},
}

func packetMayBe(p api.Packet) bool {
	has, ok := rules[[2]int{p.Kind, p.Code}]
	least, most, body := 0, 0, 0
	if has.address {
		least, most = 1, 2147483647
	}
	if has.body {
		body = 1024
	}
	return ok && within(p.From, 1, 2147483647) && within(p.To, 1, 2147483647) &&
		within(p.Back, 0, 2147483647) && within(p.Home, 0, 2147483647) && within(p.Hops, 0, 65536) &&
		within(p.Id, least, most) && within(p.At, 0, most) && within(len(p.Body), 0, body) &&
		(has.name && nameForm.MatchString(p.Name) || !has.name && p.Name == "")
}

// mayBe takes away what a message of its kind may have: nothing must be left.
func mayBe(m api.Message) bool {
	left := m
	left.Kind = 0
	switch m.Kind {
	case 1:
		left.Nonce, left.Echo = 0, 0
	case 2:
		left.Nonce, left.Echo, left.Seq, left.News = 0, 0, 0, nil
	case 3:
		left.Nonce, left.Echo, left.Seq = 0, 0, 0
	case 4:
		left.Packet = api.Packet{}
	default:
		return false
	}
	if !same(left, api.Message{}) {
		return false
	}
	if m.Kind <= 3 && m.Nonce == 0 || (m.Kind == 2 || m.Kind == 3) && (m.Echo == 0 || m.Seq == 0) {
		return false
	}
	if m.Kind == 4 {
		return packetMayBe(m.Packet)
	}
	seen := map[[2]int]int{}
	for _, n := range m.News {
		seen[[2]int{n.Kind, n.Dest}]++
	}
	return len(m.News) <= 512 && len(seen) == len(m.News) &&
		slices.IsSortedFunc(m.News, func(a, b api.News) int { return (a.Kind<<32 + a.Dest) - (b.Kind<<32 + b.Dest) }) &&
		!slices.ContainsFunc(m.News, func(n api.News) bool { return !newsMayBe(n) })
}

// writer lays bytes one behind the other.
type writer []byte

func (w *writer) numbers(l ...uint64) {
	for _, n := range l {
		*w = binary.AppendUvarint(*w, n)
	}
}

func (w *writer) float(f float64) { *w = binary.BigEndian.AppendUint64(*w, math.Float64bits(f)) }

func (w *writer) text(s string) {
	w.numbers(uint64(len(s)))
	*w = append(*w, s...)
}

// bytesOf is a message's bytes; it may be one that may not be, if it is of a kind.
func bytesOf(m api.Message) string {
	var w writer
	w.numbers(uint64(m.Kind))
	switch m.Kind {
	case 1:
		w.numbers(m.Nonce, m.Echo)
	case 2, 3:
		w.numbers(m.Nonce, m.Echo, m.Seq)
	case 4:
		p := m.Packet
		for _, n := range []int{p.Kind, p.From, p.Back, p.To, p.Home, p.Hops} {
			w.numbers(uint64(n))
		}
		w.numbers(p.Serial)
		for _, n := range []int{p.Code, p.Id, p.At} {
			w.numbers(uint64(n))
		}
		w.text(p.Name)
		w.text(p.Body)
	}
	if m.Kind == 2 {
		w.numbers(uint64(len(m.News)))
		for _, n := range m.News {
			w.numbers(uint64(n.Dest), uint64(n.Kind))
			w.float(n.Dist)
			w.float(n.Radius)
			w.numbers(uint64(n.Home))
		}
	}
	return string(w)
}

// reader reads what bytes might say, without asking whether it is well said; what is not there is nothing.
type reader string

func (r *reader) number() uint64 {
	n, size := binary.Uvarint([]byte((*r)[:min(len(*r), 10)]))
	*r = (*r)[max(size, 0):]
	return n
}

func (r *reader) int() int { return int(r.number()) }

func (r *reader) take(n uint64) string {
	n = min(n, uint64(len(*r)))
	s := (*r)[:n]
	*r = (*r)[n:]
	return string(s)
}

func (r *reader) float() float64 {
	s := r.take(8)
	return math.Float64frombits(binary.BigEndian.Uint64([]byte(s + "00000000")))
}

func (r *reader) text() string { return r.take(r.number()) }

// messageOf is the only message that some bytes may be those of.
func messageOf(s string) api.Message {
	r := reader(s)
	m := api.Message{Kind: r.int()}
	switch m.Kind {
	case 1:
		m.Nonce, m.Echo = r.number(), r.number()
	case 2, 3:
		m.Nonce, m.Echo, m.Seq = r.number(), r.number(), r.number()
	case 4:
		p := &m.Packet
		for _, n := range []*int{&p.Kind, &p.From, &p.Back, &p.To, &p.Home, &p.Hops} {
			*n = r.int()
		}
		p.Serial, p.Code, p.Id, p.At = r.number(), r.int(), r.int(), r.int()
		p.Name, p.Body = r.text(), r.text()
	}
	if m.Kind == 2 {
		for range r.number() {
			if r == "" {
				break
			}
			m.News = append(m.News, api.News{Dest: r.int(), Kind: r.int(), Dist: r.float(), Radius: r.float(), Home: r.int()})
		}
	}
	return m
}

// decode is what Decode ought to tell: a message has just one text of bytes.
func decode(s string) (api.Message, api.Errno) {
	if len(s) > 65536 {
		return api.Message{}, api.ErrLong
	}
	m := messageOf(s)
	if !mayBe(m) || bytesOf(m) != s {
		return api.Message{}, api.ErrMessage
	}
	return m, api.OK
}

// same is whether messages are the same to the bit.
func same(a, b api.Message) bool {
	return a.Kind == b.Kind && a.Nonce == b.Nonce && a.Echo == b.Echo && a.Seq == b.Seq && a.Packet == b.Packet &&
		slices.EqualFunc(a.News, b.News, func(a, b api.News) bool {
			return a.Dest == b.Dest && a.Kind == b.Kind && a.Home == b.Home &&
				math.Float64bits(a.Dist) == math.Float64bits(b.Dist) && math.Float64bits(a.Radius) == math.Float64bits(b.Radius)
		})
}

func pick[T any](r *rand.Rand, l ...T) T { return l[r.IntN(len(l))] }

func someId(r *rand.Rand) int {
	return pick(r, 1, 2, 127, 128, 16383, 16384, 2147483646, 2147483647, 1+r.IntN(300), 1+r.IntN(2147483647))
}

func someIdOrNone(r *rand.Rand) int { return pick(r, 0, 0, someId(r)) }

func someCount(r *rand.Rand) uint64 {
	return max(1, pick(r, 1, 2, 127, 128, 1<<31, 1<<63, math.MaxUint64, r.Uint64()>>r.IntN(64)))
}

func someDistance(r *rand.Rand) float64 {
	return pick(r, 0, 0.25, 1, 1.75, 1<<30-0.25, math.Inf(1), float64(r.IntN(1<<32))/4, float64(r.IntN(100))/4)
}

func someNews(r *rand.Rand) api.News {
	n := api.News{Dest: someId(r), Kind: 1 + r.IntN(2), Dist: someDistance(r)}
	if n.Kind == 2 && !math.IsInf(n.Dist, 1) {
		n.Radius, n.Home = someDistance(r), someId(r)
	}
	if math.IsInf(n.Radius, 1) {
		n.Home = 0
	}
	return n
}

func someNewsList(r *rand.Rand, most int) []api.News {
	var l []api.News
	for range r.IntN(most + 1) {
		l = append(l, someNews(r))
	}
	slices.SortFunc(l, func(a, b api.News) int { return (a.Kind<<32 + a.Dest) - (b.Kind<<32 + b.Dest) })
	return slices.CompactFunc(l, func(a, b api.News) bool { return a.Kind == b.Kind && a.Dest == b.Dest })
}

func someText(r *rand.Rand, most int) string {
	b := make([]byte, r.IntN(most+1))
	for i := range b {
		b[i] = byte(r.Uint32())
	}
	return string(b)
}

func somePacket(r *rand.Rand) api.Packet {
	p := api.Packet{From: someId(r), Back: someIdOrNone(r), To: someId(r), Home: someIdOrNone(r), Serial: pick(r, 0, someCount(r))}
	p.Hops = pick(r, 0, 1, 127, 128, 65535, 65536, r.IntN(65537))
	k := pick(r, [2]int{1, 0}, [2]int{2, 0}, [2]int{3, 0}, [2]int{4, 0}, [2]int{4, 1})
	p.Kind, p.Code = k[0], k[1]
	if rules[k].name {
		p.Name = pick(r, "a", "cc", "n-1", "z9", "a--b", strings.Repeat("x", 32), "a"+strings.Repeat("0", r.IntN(32)))
	}
	if rules[k].address {
		p.Id, p.At = someId(r), someIdOrNone(r)
	}
	if rules[k].body {
		p.Body = someText(r, pick(r, 0, 4, 200, 1024))
	}
	return p
}

// someMessage is a message that may be, edges among them.
func someMessage(r *rand.Rand) api.Message {
	switch m := (api.Message{Kind: 1 + r.IntN(4), Nonce: someCount(r), Echo: someCount(r), Seq: someCount(r)}); m.Kind {
	case 1:
		m.Seq, m.Echo = 0, pick(r, 0, m.Echo)
		return m
	case 2:
		m.News = someNewsList(r, pick(r, 0, 1, 3, 10))
		return m
	case 3:
		return m
	}
	return api.Message{Kind: 4, Packet: somePacket(r)}
}
