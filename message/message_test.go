package message_test

import (
	"encoding/hex"
	"fmt"
	"math"
	"math/rand/v2"
	"slices"
	"strings"
	"testing"

	"beacon/api"
	"beacon/guard"
	"beacon/message"
)

var (
	inf      = math.Inf(1)
	negInf   = math.Inf(-1)
	negZero  = math.Copysign(0, -1)
	nan      = math.NaN()
	negNaN   = math.Float64frombits(0xfff8000000000000)
	otherNaN = math.Float64frombits(0x7ff0000000000001)
	tiny     = math.SmallestNonzeroFloat64
)

// far is the greatest distance that is not too far.
const far = api.MaxLimit - 0.25

// Bytes of floats.
const (
	zeroHex = "0000000000000000"
	oneHex  = "3ff0000000000000"
	infHex  = "7ff0000000000000"
)

// Messages, by what they have.

func hello(nonce, echo uint64) api.Message {
	return api.Message{Kind: api.MessageHello, Nonce: nonce, Echo: echo}
}

func ack(nonce, echo, seq uint64) api.Message {
	return api.Message{Kind: api.MessageAck, Nonce: nonce, Echo: echo, Seq: seq}
}

func advert(news ...api.News) api.Message {
	return api.Message{Kind: api.MessageAdvert, Nonce: 1, Echo: 1, Seq: 1, News: news}
}

func packet(p api.Packet) api.Message {
	return api.Message{Kind: api.MessagePacket, Packet: p}
}

func mark(dest int, dist float64) api.News {
	return api.News{Dest: dest, Kind: api.EntryMark, Dist: dist}
}

func ball(dest int, dist, radius float64, home int) api.News {
	return api.News{Dest: dest, Kind: api.EntryBall, Dist: dist, Radius: radius, Home: home}
}

// rightPackets is a packet of each kind and code.
func rightPackets() []api.Packet {
	return []api.Packet{
		{Kind: api.PacketData, From: 1, Back: 2, To: 3, Home: 4, Hops: 5, Serial: 6, Body: "hi"},
		{Kind: api.PacketPut, From: 1, Back: 2, To: 3, Home: 4, Hops: 5, Serial: 6, Name: "cc", Id: 7, At: 8},
		{Kind: api.PacketAsk, From: 1, Back: 2, To: 3, Home: 4, Hops: 5, Serial: 6, Name: "cc"},
		{Kind: api.PacketAnswer, From: 1, Back: 2, To: 3, Home: 4, Hops: 5, Serial: 6, Name: "cc", Id: 7, At: 8},
		{Kind: api.PacketAnswer, From: 1, Back: 2, To: 3, Home: 4, Hops: 5, Serial: 6, Name: "cc", Code: 1},
	}
}

// rightMessages is some of each kind.
func rightMessages() []api.Message {
	l := []api.Message{hello(5, 0), hello(5, 7), ack(5, 7, 3), advert(), advert(mark(2, 1)), advert(mark(2, 1), ball(3, 1, 2, 2), ball(4, inf, 0, 0))}
	for _, p := range rightPackets() {
		l = append(l, packet(p))
	}
	return l
}

// Calls, with what holds of each answer.

// short is the beginning of a value's text.
func short(v any) string {
	s := fmt.Sprintf("%#v", v) // it escapes the bytes of texts
	return s[:min(len(s), 500)]
}

func decodeIs(t *testing.T, s string, want api.Message, wantError api.Errno) {
	t.Helper()
	if m, e := message.Decode(s); !same(m, want) || e != wantError {
		t.Fatalf("Decode(%.60x): %s, %d, not %s, %d", s, short(m), e, short(want), wantError)
	}
	if k := message.Kind(s); k != want.Kind {
		t.Fatalf("Kind(%.60x): %d, not %d", s, k, want.Kind)
	}
}

func encodeIs(t *testing.T, m api.Message, want string, wantError api.Errno) {
	t.Helper()
	if e := message.Check(m); e != wantError {
		t.Fatalf("Check(%s): %d, not %d", short(m), e, wantError)
	}
	if s, e := message.Encode(m); s != want || e != wantError {
		t.Fatalf("Encode(%s): %.60x, %d, not %.60x, %d", short(m), s, e, want, wantError)
	}
}

// thereAndBack: the message may be and has these bytes, and the bytes are this message.
func thereAndBack(t *testing.T, m api.Message, want string) {
	t.Helper()
	encodeIs(t, m, want, api.OK)
	decodeIs(t, want, m, api.OK)
	if len(want) > api.MaxGram {
		t.Fatalf("%s has %d bytes", short(m), len(want))
	}
}

// mayNotBe: the message has no bytes, and the bytes that it would have, if it were of a kind, are none's.
func mayNotBe(t *testing.T, m api.Message) {
	t.Helper()
	encodeIs(t, m, "", api.ErrMessage)
	if m.Kind < 1 || m.Kind > 4 {
		return
	}
	s, want := bytesOf(m), api.ErrMessage
	if len(s) > api.MaxGram {
		want = api.ErrLong
	}
	if same(messageOf(s), m) {
		decodeIs(t, s, api.Message{}, want)
	}
}

func noMessage(t *testing.T, s string) {
	t.Helper()
	decodeIs(t, s, api.Message{}, api.ErrMessage)
}

// check holds all that is promised of a message against the model.
func check(t *testing.T, m api.Message) {
	t.Helper()
	if mayBe(m) {
		thereAndBack(t, m, bytesOf(m))
	} else {
		mayNotBe(t, m)
	}
}

// checkBytes holds all that is promised of any bytes against the model.
func checkBytes(t *testing.T, s string) {
	t.Helper()
	m, e := decode(s)
	decodeIs(t, s, m, e)
	if e == api.OK {
		encodeIs(t, m, s, api.OK)
	}
}

func fromHex(s string) string {
	b, err := hex.DecodeString(strings.ReplaceAll(s, " ", ""))
	if err != nil {
		panic(err)
	}
	return string(b)
}

// hexOf is a text's bytes as hex, its length ahead.
func hexOf(s string) string {
	return hex.EncodeToString([]byte{byte(len(s))}) + hex.EncodeToString([]byte(s))
}

// Ms1, Ms2, Ms3: messages and their bytes.
func TestBytes(t *testing.T) {
	most := "ffffffffffffffffff01" // of a number of 64 bits
	lastId := "ffffffff07"
	name := "a" + strings.Repeat("-", 30) + "9"
	body := strings.Repeat("\xff\x00", api.MaxBody/2)
	for _, c := range []struct {
		m    api.Message
		want string
	}{
		{hello(5, 0), "01 05 00"}, {hello(1, 1), "01 01 01"}, {hello(128, 300), "01 8001 ac02"}, {hello(math.MaxUint64, math.MaxUint64), "01" + most + most}, {hello(1, math.MaxUint64), "01 01" + most},
		{ack(5, 7, 3), "03 05 07 03"}, {ack(1, 1, 1), "03 01 01 01"}, {ack(math.MaxUint64, 1, 1), "03" + most + "01 01"}, {ack(1, math.MaxUint64, 1), "03 01" + most + "01"}, {ack(1, 1, math.MaxUint64), "03 01 01" + most},
		{advert(), "02 01 01 01 00"}, {api.Message{Kind: api.MessageAdvert, Nonce: 5, Echo: 7, Seq: 300}, "02 05 07 ac02 00"}, {api.Message{Kind: api.MessageAdvert, Nonce: math.MaxUint64, Echo: math.MaxUint64, Seq: math.MaxUint64, News: []api.News{}}, "02" + most + most + most + "00"},
		{advert(mark(7, 1)), "02 01 01 01 01 07 01" + oneHex + zeroHex + "00"}, {advert(mark(api.MaxId, 0)), "02 01 01 01 01" + lastId + "01" + zeroHex + zeroHex + "00"}, {advert(mark(1, inf)), "02 01 01 01 01 01 01" + infHex + zeroHex + "00"}, {advert(mark(1, far)), "02 01 01 01 01 01 01 41cfffffffe00000" + zeroHex + "00"},
		{advert(ball(300, 0.25, 1, 2)), "02 01 01 01 01 ac02 02 3fd0000000000000" + oneHex + "02"}, {advert(ball(3, 0, 0, api.MaxId)), "02 01 01 01 01 03 02" + zeroHex + zeroHex + lastId}, {advert(ball(3, 1, inf, 0)), "02 01 01 01 01 03 02" + oneHex + infHex + "00"}, {advert(ball(3, inf, 0, 0)), "02 01 01 01 01 03 02" + infHex + zeroHex + "00"},
		{advert(mark(9, 1), ball(3, 1, 1, 9)), "02 01 01 01 02 09 01" + oneHex + zeroHex + "00 03 02" + oneHex + oneHex + "09"},
		{packet(api.Packet{Kind: api.PacketData, From: 1, To: 2}), "04 01 01 00 02 00 00 00 00 00 00 00 00"},
		{packet(api.Packet{Kind: api.PacketData, From: 1, Back: 2, To: 3, Home: 4, Hops: 5, Serial: 6, Body: "hi"}), "04 01 01 02 03 04 05 06 00 00 00 00 02 6869"},
		{packet(api.Packet{Kind: api.PacketData, From: api.MaxId, Back: api.MaxId, To: api.MaxId, Home: api.MaxId, Hops: api.MaxHops, Serial: math.MaxUint64, Body: body}), "04 01" + lastId + lastId + lastId + lastId + "808004" + most + "00 00 00 00 8008" + strings.Repeat("ff00", api.MaxBody/2)},
		{packet(api.Packet{Kind: api.PacketPut, From: 1, To: 2, Hops: 3, Name: "cc", Id: 4}), "04 02 01 00 02 00 03 00 00 04 00 02 6363 00"},
		{packet(api.Packet{Kind: api.PacketPut, From: 1, Back: 2, To: 3, Home: 4, Hops: 5, Serial: 6, Name: "cc", Id: 7, At: 8}), "04 02 01 02 03 04 05 06 00 07 08 02 6363 00"},
		{packet(api.Packet{Kind: api.PacketPut, From: 1, To: 1, Name: name, Id: api.MaxId, At: api.MaxId}), "04 02 01 00 01 00 00 00 00" + lastId + lastId + hexOf(name) + "00"},
		{packet(api.Packet{Kind: api.PacketAsk, From: 1, Back: 2, To: 3, Home: 4, Hops: 5, Serial: 6, Name: "z"}), "04 03 01 02 03 04 05 06 00 00 00 01 7a 00"},
		{packet(api.Packet{Kind: api.PacketAnswer, From: 1, Back: 2, To: 3, Home: 4, Hops: 5, Serial: 6, Name: "cc", Id: 7, At: 8}), "04 04 01 02 03 04 05 06 00 07 08 02 6363 00"},
		{packet(api.Packet{Kind: api.PacketAnswer, From: 1, To: 3, Name: "cc", Id: 7}), "04 04 01 00 03 00 00 00 00 07 00 02 6363 00"},
		{packet(api.Packet{Kind: api.PacketAnswer, From: 1, Back: 2, To: 3, Home: 4, Hops: 5, Serial: 6, Code: 1, Name: "cc"}), "04 04 01 02 03 04 05 06 01 00 00 02 6363 00"},
	} {
		thereAndBack(t, c.m, fromHex(c.want))
		check(t, c.m)
	}
	for _, m := range rightMessages() {
		thereAndBack(t, m, bytesOf(m))
	}
}

// Ms1: only four kinds are some.
func TestKindsThatAreNone(t *testing.T) {
	for _, kind := range []int{0, -1, -2, -3, -4, 5, 6, 255, 256, 257, 260, 1<<32 + 1, 1<<32 + 4, math.MaxInt, math.MinInt, math.MinInt + 1} {
		for _, m := range append(rightMessages(), api.Message{}) {
			m.Kind = kind
			mayNotBe(t, m)
		}
	}
}

// Ms1: the numbers of messages.
func TestNonces(t *testing.T) {
	for _, m := range []api.Message{hello(0, 0), hello(0, 1), ack(0, 1, 1), ack(1, 0, 1), ack(1, 1, 0), ack(0, 0, 0)} {
		mayNotBe(t, m)
	}
	for _, news := range [][]api.News{nil, {mark(1, 1)}} {
		for _, n := range [][3]uint64{{0, 1, 1}, {1, 0, 1}, {1, 1, 0}, {0, 0, 0}} {
			mayNotBe(t, api.Message{Kind: api.MessageAdvert, Nonce: n[0], Echo: n[1], Seq: n[2], News: news})
		}
	}
}

// Ms1: a message has no part of another kind's.
func TestPartsThatItHasNot(t *testing.T) {
	news := []api.News{mark(1, 1)}
	with := func(m api.Message, change func(m *api.Message)) api.Message {
		change(&m)
		return m
	}
	seq := func(m *api.Message) { m.Seq = 1 }
	addNews := func(m *api.Message) { m.News = news }
	wrongNews := func(m *api.Message) { m.News = []api.News{{}} }
	mayNotBe(t, with(hello(5, 0), seq))
	mayNotBe(t, with(hello(5, 7), func(m *api.Message) { m.Seq = math.MaxUint64 }))
	for _, m := range []api.Message{hello(5, 0), ack(5, 7, 3), packet(rightPackets()[0])} {
		mayNotBe(t, with(m, addNews))
		mayNotBe(t, with(m, wrongNews))
	}
	for _, p := range rightPackets() {
		mayNotBe(t, with(packet(p), seq))
		mayNotBe(t, with(packet(p), func(m *api.Message) { m.Nonce = 1 }))
		mayNotBe(t, with(packet(p), func(m *api.Message) { m.Echo = 1 }))
		mayNotBe(t, with(packet(p), func(m *api.Message) { m.Nonce, m.Echo, m.Seq = 1, 1, 1 }))
	}
	packets := append(rightPackets(), api.Packet{Kind: 1}, api.Packet{From: 1}, api.Packet{Back: 1}, api.Packet{To: 1}, api.Packet{Home: 1}, api.Packet{Hops: 1}, api.Packet{Serial: 1}, api.Packet{Code: 1}, api.Packet{Name: "a"}, api.Packet{Id: 1}, api.Packet{At: -1}, api.Packet{Body: "\x00"})
	for _, m := range []api.Message{hello(5, 0), hello(5, 7), advert(), advert(news...), ack(5, 7, 3)} {
		for _, p := range packets {
			mayNotBe(t, with(m, func(m *api.Message) { m.Packet = p }))
		}
	}
}

// notDistances is floats that are no distance.
func notDistances() []float64 {
	return []float64{negZero, nan, negNaN, otherNaN, negInf, -0.25, -1, -tiny, tiny, 0.1, 0.3, 0.125, 0.375, 1.1, math.Nextafter(0.25, 0), math.Nextafter(0.25, 1), math.Nextafter(1, 2), api.MaxLimit, api.MaxLimit + 0.25, api.MaxLimit - 0.125, math.Nextafter(api.MaxLimit, 0), 1 << 31, 1 << 62, 1e300, math.MaxFloat64, -math.MaxFloat64}
}

// rightNews: an advert of these news may be.
func rightNews(t *testing.T, l ...api.News) {
	t.Helper()
	thereAndBack(t, advert(l...), bytesOf(advert(l...)))
}

// Ms1: news that may be.
func TestNews(t *testing.T) {
	for _, dist := range []float64{0, 0.25, 0.5, 0.75, 1, 1.25, 1 << 20, 1<<20 + 0.25, 1 << 29, far, far - 0.25} {
		rightNews(t, mark(1, dist))
		for _, radius := range []float64{0, 0.25, 1, dist, far} {
			rightNews(t, ball(3, dist, radius, 1))
			for _, home := range []int{0, -1, math.MinInt, api.MaxId + 1, math.MaxInt, 1<<32 + 1} {
				mayNotBe(t, advert(ball(3, dist, radius, home)))
			}
		}
		for _, home := range []int{1, 2, api.MaxId} {
			rightNews(t, ball(3, dist, 2, home))
			mayNotBe(t, advert(ball(3, dist, inf, home)))
		}
		mayNotBe(t, advert(ball(3, dist, inf, -1)))
		mayNotBe(t, advert(ball(3, dist, inf, api.MaxId+1)))
		rightNews(t, ball(3, dist, inf, 0))
		for _, radius := range notDistances() {
			mayNotBe(t, advert(ball(3, dist, radius, 1)))
			mayNotBe(t, advert(ball(3, dist, radius, 0)))
		}
	}
	for _, d := range notDistances() {
		mayNotBe(t, advert(mark(1, d)))
		mayNotBe(t, advert(ball(1, d, 1, 2)))
		mayNotBe(t, advert(ball(1, d, inf, 0)))
		mayNotBe(t, advert(ball(1, d, 0, 0)))
	}
}

// Ms1: where there is nothing to say of a home, nothing is said.
func TestNewsWithoutHome(t *testing.T) {
	for _, n := range []api.News{mark(1, 0), mark(1, 1), mark(1, far), mark(1, inf), ball(1, inf, 0, 0)} {
		rightNews(t, n)
		for _, radius := range append(notDistances(), 0.25, 1, far, inf) {
			wrong := n
			wrong.Radius = radius
			mayNotBe(t, advert(wrong))
			wrong.Home = 2
			mayNotBe(t, advert(wrong))
		}
		for _, home := range []int{1, 2, -1, api.MaxId, api.MaxId + 1, math.MaxInt, math.MinInt} {
			wrong := n
			wrong.Home = home
			mayNotBe(t, advert(wrong))
		}
	}
}

// Ms1: what news may be of.
func TestNewsOfNone(t *testing.T) {
	for _, n := range []api.News{mark(1, 1), mark(1, inf), ball(1, 1, 2, 3), ball(1, 1, inf, 0), ball(1, inf, 0, 0)} {
		for _, dest := range []int{0, -1, math.MinInt, api.MaxId + 1, 1 << 32, 1<<32 + 1, math.MaxInt} {
			wrong := n
			wrong.Dest = dest
			mayNotBe(t, advert(wrong))
		}
		for _, kind := range []int{0, -1, api.EntryFlock, 4, 255, 1<<32 + 1, 1<<32 + 2, math.MaxInt, math.MinInt} {
			wrong := n
			wrong.Kind = kind
			mayNotBe(t, advert(wrong))
		}
	}
}

// manyNews is so many, rising.
func manyNews(marks, balls int) []api.News {
	var l []api.News
	for i := range marks {
		l = append(l, mark(api.MaxId-marks+1+i, far))
	}
	for i := range balls {
		l = append(l, ball(api.MaxId-balls+1+i, far, far, api.MaxId))
	}
	return l
}

// Ms1: news rise by kind, then by destination, each once.
func TestNewsRise(t *testing.T) {
	a, b, c, d := mark(1, 1), mark(3, 0), ball(1, 1, 1, 3), ball(3, inf, 0, 0)
	for _, l := range [][]api.News{{a, b}, {a, c}, {a, d}, {b, c}, {b, d}, {c, d}, {a, b, c}, {a, c, d}, {a, b, c, d}, {mark(api.MaxId, 1), ball(1, 1, inf, 0)}} {
		rightNews(t, l...)
		back := slices.Clone(l)
		slices.Reverse(back)
		mayNotBe(t, advert(back...))
		mayNotBe(t, advert(append(slices.Clone(l), l[len(l)-1])...))
		mayNotBe(t, advert(append([]api.News{l[0]}, l...)...))
		for i := range l {
			wrong := slices.Clone(l)
			wrong[i].Dist = 0.3
			mayNotBe(t, advert(wrong...))
		}
	}
	for _, l := range [][]api.News{{a, mark(1, 2)}, {c, ball(1, 2, 2, 4)}, {c, ball(1, inf, 0, 0)}, {a, b, mark(2, 1)}, {a, c, b}, {a, c, d, mark(4, 1)}, {c, a, d}, {a, b, a}} {
		mayNotBe(t, advert(l...))
	}
}

// Ms1, Ms3: how many news may be; the longest messages are no longer than MaxGram.
func TestManyNews(t *testing.T) {
	for _, marks := range []int{0, 1, 256, 511, 512} {
		m := advert(manyNews(marks, api.MaxNews-marks)...)
		m.Nonce, m.Echo, m.Seq = math.MaxUint64, math.MaxUint64, math.MaxUint64
		thereAndBack(t, m, bytesOf(m))
		m.News = manyNews(marks, api.MaxNews+1-marks)
		mayNotBe(t, m)
		m.News = manyNews(marks+1, api.MaxNews-marks)
		mayNotBe(t, m)
		m.News = manyNews(2000, marks)
		mayNotBe(t, m)
	}
	mayNotBe(t, advert(make([]api.News, 1<<20)...))
}

// rightWith: the packet may be, if it is changed.
func rightWith(t *testing.T, p api.Packet, change func(p *api.Packet)) {
	t.Helper()
	change(&p)
	thereAndBack(t, packet(p), bytesOf(packet(p)))
}

// wrongWith: the packet may not be, if it is changed.
func wrongWith(t *testing.T, p api.Packet, change func(p *api.Packet)) {
	t.Helper()
	change(&p)
	mayNotBe(t, packet(p))
}

// Ms1: whom a packet names, and how often it may be forwarded.
func TestPacketsEnds(t *testing.T) {
	wrong := []int{-1, -2, math.MinInt, api.MaxId + 1, 1 << 32, 1<<32 + 1, math.MaxInt}
	for _, p := range rightPackets() {
		for _, id := range []int{1, 2, 128, api.MaxId} {
			rightWith(t, p, func(p *api.Packet) { p.From, p.To = id, id })
			rightWith(t, p, func(p *api.Packet) { p.Back, p.Home = id, 0 })
			rightWith(t, p, func(p *api.Packet) { p.Back, p.Home = 0, id })
		}
		for _, id := range wrong {
			wrongWith(t, p, func(p *api.Packet) { p.From = id })
			wrongWith(t, p, func(p *api.Packet) { p.To = id })
			wrongWith(t, p, func(p *api.Packet) { p.Back = id })
			wrongWith(t, p, func(p *api.Packet) { p.Home = id })
		}
		wrongWith(t, p, func(p *api.Packet) { p.From = 0 })
		wrongWith(t, p, func(p *api.Packet) { p.To = 0 })
		for _, hops := range []int{0, 1, 65535, 65536} {
			rightWith(t, p, func(p *api.Packet) { p.Hops = hops })
		}
		for _, hops := range []int{-1, 65537, 65536 + 128, 1 << 32, math.MaxInt, math.MinInt} {
			wrongWith(t, p, func(p *api.Packet) { p.Hops = hops })
		}
		for _, serial := range []uint64{0, 1, 1 << 63, math.MaxUint64} {
			rightWith(t, p, func(p *api.Packet) { p.Serial = serial })
		}
		for _, kind := range []int{0, -1, 5, 6, 257, 1<<32 + 1, math.MaxInt, math.MinInt} {
			wrongWith(t, p, func(p *api.Packet) { p.Kind = kind })
		}
	}
	mayNotBe(t, packet(api.Packet{}))
}

// Ms1: the texts of packets.
func TestPacketsTexts(t *testing.T) {
	data := rightPackets()[0]
	for _, n := range []int{0, 1, 127, 128, 1023, 1024} {
		rightWith(t, data, func(p *api.Packet) { p.Body = strings.Repeat("\x80", n) })
	}
	for _, n := range []int{1025, 1026, 2048, 65530, 1 << 20} {
		wrongWith(t, data, func(p *api.Packet) { p.Body = strings.Repeat("x", n) })
	}
	for _, p := range rightPackets()[1:] {
		for _, body := range []string{"x", "\x00", strings.Repeat("x", 1024), strings.Repeat("x", 1025)} {
			wrongWith(t, p, func(p *api.Packet) { p.Body = body })
		}
		for _, name := range []string{"a", "z", "a0", "a-0", "a--z", strings.Repeat("z", 31), strings.Repeat("z", 32)} {
			rightWith(t, p, func(p *api.Packet) { p.Name = name })
			wrongWith(t, data, func(p *api.Packet) { p.Name = name })
		}
		for _, name := range []string{"", "A", "0", "-", "0a", "-a", "a-", "a b", "a_b", "a\x00", "\xff", "ä", strings.Repeat("z", 33), strings.Repeat("z", 1<<20)} {
			wrongWith(t, p, func(p *api.Packet) { p.Name = name })
		}
	}
}

// Ms1: the codes and addresses of packets.
func TestPacketsAddresses(t *testing.T) {
	for _, p := range rightPackets() {
		for _, code := range []int{-1, 2, 3, 256, 1 << 32, 1<<32 + 1, math.MaxInt, math.MinInt} {
			wrongWith(t, p, func(p *api.Packet) { p.Code = code })
		}
		wrongWith(t, p, func(p *api.Packet) { p.Code = 1 - p.Code })
		for _, id := range []int{-1, math.MinInt, api.MaxId + 1, 1 << 32, 1<<32 + 1, math.MaxInt} {
			wrongWith(t, p, func(p *api.Packet) { p.Id = id })
			wrongWith(t, p, func(p *api.Packet) { p.At = id })
		}
		if p.Id == 0 {
			for _, id := range []int{1, 7, api.MaxId} {
				wrongWith(t, p, func(p *api.Packet) { p.Id = id })
				wrongWith(t, p, func(p *api.Packet) { p.At = id })
				wrongWith(t, p, func(p *api.Packet) { p.Id, p.At = id, id })
			}
			continue
		}
		wrongWith(t, p, func(p *api.Packet) { p.Id = 0 })
		wrongWith(t, p, func(p *api.Packet) { p.Id, p.At = 0, 0 })
		for _, id := range []int{1, 128, api.MaxId} {
			for _, at := range []int{0, 1, id, api.MaxId} {
				rightWith(t, p, func(p *api.Packet) { p.Id, p.At = id, at })
			}
		}
	}
}

// Ms2: bytes of no message.
func TestBytesOfNone(t *testing.T) {
	long := "ffffffffffffffffff01"
	head := "02 01 01 01"
	for _, s := range []string{
		"", "00", "00 00", "00 05 00", "05", "05 01 01", "05 01 01 01", "06", "7f", "80", "8001", "81 00", "81 00 05 00", "81 80 00", long, long + "05 00", "81 80 80 80 10 05 00", "80 02", "81 02 05 00",
		"01", "01 05", "01 00 00", "01 00 05", "01 05 00 00", "01 05 00 01", "01 05 80", "01 05 80 00", "01 85 00 00", "01 80 01", "01 05" + "ffffffffffffffffff02", "01 05" + "80808080808080808080",
		"02", "02 01", "02 01 01", head, head + "01", head + "00 00", head + "80", head + "80 00", head + "01 07 01" + oneHex + zeroHex, head + "01 07 01" + oneHex + zeroHex + "00 00", head + "01 07 01" + oneHex + zeroHex + "80 00", head + "02 07 01" + oneHex + zeroHex + "00", head + "00 07 01" + oneHex + zeroHex + "00", head + long, head + long + "07 01" + oneHex + zeroHex + "00",
		"02 00 01 01 00", "02 01 00 01 00", "02 01 01 00 00",
		head + "01" + "8780808010" + "01" + oneHex + zeroHex + "00", head + "01" + long + "01" + oneHex + zeroHex + "00", head + "01 07 8180808010" + oneHex + zeroHex + "00", head + "01 07" + long + oneHex + zeroHex + "00", head + "01 07 01" + oneHex + zeroHex + long, head + "01 07 01" + oneHex + zeroHex + "8080808010", head + "01 07 02" + oneHex + oneHex + "8180808010", head + "01 07 02" + oneHex + oneHex + long, head + "01 07 02" + oneHex + infHex + "8080808010", head + "01 8080808008 01" + oneHex + zeroHex + "00", head + "01 87808080808080808001 01" + oneHex + zeroHex + "00",
		head + "01 07 01 8000000000000000" + zeroHex + "00", head + "01 07 01 7ff8000000000000" + zeroHex + "00", head + "01 07 01 fff0000000000000" + zeroHex + "00", head + "01 07 01" + oneHex + "8000000000000000 00", head + "01 07 01 41d0000000000000" + zeroHex + "00", head + "01 07 03" + oneHex + oneHex + "01",
		"03", "03 05 07", "03 05 07 03 00", "03 00 07 03", "03 05 00 03", "03 05 07 00", "03 05 07 80", "03 05 07 83 00",
		"04", "04 01", "04 01 01 00 02 00 00 00 00 00 00 00", "04 01 01 00 02 00 00 00 00 00 00 00 00 00", "04 01 01 00 02 00 00 00 00 00 00 00 01", "04 01 01 00 02 00 00 00 00 00 00 00 02 78", "04 01 01 00 02 00 00 00 00 00 00 01 61 00", "04 01 01 00 02 00 00 00 00 00 00 00 80 00", "04 01 01 00 02 00 00 80 00 00 00 00 00 00",
		"04 00 01 00 02 00 00 00 00 00 00 00 00", "04 05 01 00 02 00 00 00 00 00 00 00 00", "04 8180808010 01 00 02 00 00 00 00 00 00 00 00", "04" + long + "01 00 02 00 00 00 00 00 00 00 00",
		"04 01 8180808010 00 02 00 00 00 00 00 00 00 00", "04 01" + long + "00 02 00 00 00 00 00 00 00 00", "04 01 01 8080808010 02 00 00 00 00 00 00 00 00", "04 01 01" + long + "02 00 00 00 00 00 00 00 00", "04 01 01 00 8280808010 00 00 00 00 00 00 00 00", "04 01 01 00" + long + "00 00 00 00 00 00 00 00", "04 01 01 00 02 8080808010 00 00 00 00 00 00 00", "04 01 01 00 02" + long + "00 00 00 00 00 00 00",
		"04 01 01 00 02 00 818004 00 00 00 00 00 00", "04 01 01 00 02 00 8080808010 00 00 00 00 00 00", "04 01 01 00 02 00" + long + "00 00 00 00 00 00", "04 01 01 00 02 00 00 00 8080808010 00 00 00 00", "04 01 01 00 02 00 00 00" + long + "00 00 00 00", "04 01 01 00 02 00 00 00 00 8080808010 00 00 00", "04 01 01 00 02 00 00 00 00" + long + "00 00 00", "04 01 01 00 02 00 00 00 00 00 8080808010 00 00", "04 01 01 00 02 00 00 00 00 00" + long + "00 00",
	} {
		noMessage(t, fromHex(s))
		checkBytes(t, fromHex(s))
	}
}

// Ms2: a beginning of a message's bytes is none, nor is one with bytes behind it.
func TestBeginnings(t *testing.T) {
	for _, m := range rightMessages() {
		s := bytesOf(m)
		for i := range s {
			noMessage(t, s[:i])
		}
		for _, more := range []string{"\x00", "\x01", "\x80", s} {
			noMessage(t, s+more)
			noMessage(t, more[:1]+s)
		}
	}
}

// Ms2: ErrLong goes ahead of ErrMessage, from the first byte too many on.
func TestTooManyBytes(t *testing.T) {
	for _, start := range []string{"", "\x01\x05\x00", "\x05", "\x80", "\x03\x05\x07\x03", bytesOf(advert(manyNews(256, 256)...))} {
		most := start + strings.Repeat("\x00", api.MaxGram-len(start))
		noMessage(t, most)
		for _, more := range []int{1, 2, 1 << 20} {
			decodeIs(t, most+strings.Repeat("\x00", more), api.Message{}, api.ErrLong)
		}
	}
}

// Ms2: an advert whose news are too many, and a packet whose body is too long, though they fit into MaxGram.
func TestTooMuchThatFits(t *testing.T) {
	for _, n := range []int{513, 2000} {
		s := bytesOf(advert(manyNews(n, 0)...))
		if len(s) > api.MaxGram {
			t.Fatalf("%d bytes", len(s))
		}
		noMessage(t, s)
	}
	noMessage(t, bytesOf(packet(api.Packet{Kind: api.PacketData, From: 1, To: 2, Body: strings.Repeat("x", 60000)})))
	noMessage(t, bytesOf(packet(api.Packet{Kind: api.PacketAsk, From: 1, To: 2, Name: strings.Repeat("x", 60000)})))
}

// Ms2: all short texts of bytes at the edges.
func TestShortBytes(t *testing.T) {
	var grow func(s string, most int, letters string)
	grow = func(s string, most int, letters string) {
		checkBytes(t, s)
		for i := range len(letters) {
			if len(s) < most {
				grow(s+letters[i:i+1], most, letters)
			}
		}
	}
	grow("", 5, "\x00\x01\x02\x03\x04\x05\x7f\x80\xff")
	grow("\x02\x01\x01\x01", 8, "\x00\x01\x02\x80")
	grow("\x04", 7, "\x00\x01\x02\x80")
	for a := range 256 {
		for b := range 256 {
			checkBytes(t, string([]byte{byte(a), byte(b), 1}))
			checkBytes(t, string([]byte{3, byte(a), byte(b), 1}))
		}
	}
}

// changedBytes is bytes of which a few are other ones, gone or new.
func changedBytes(r *rand.Rand, s string) string {
	b := []byte(s)
	for range 1 + r.IntN(3) {
		i := r.IntN(len(b) + 1)
		other := pick(r, 0, 1, 2, 3, 4, 127, 128, 255, byte(r.Uint32()))
		switch {
		case i == len(b) || r.IntN(5) == 0:
			b = slices.Insert(b, i, other)
		case r.IntN(5) == 0:
			b = slices.Delete(b, i, i+1)
		case r.IntN(9) == 0:
			b = b[:i]
		default:
			b[i] = other
		}
	}
	return string(b)
}

// changedNews is news of which a part is another one.
func changedNews(r *rand.Rand, n api.News) api.News {
	other := pick(r, 0, 1, 2, 3, -1, api.MaxId, api.MaxId+1, math.MaxInt, math.MinInt, 1<<32+1)
	f := pick(r, notDistances()[r.IntN(len(notDistances()))], 0, 0.25, 1, inf, far)
	switch r.IntN(5) {
	case 0:
		n.Dest = other
	case 1:
		n.Kind = other
	case 2:
		n.Dist = f
	case 3:
		n.Radius = f
	default:
		n.Home = other
	}
	return n
}

// changedPacket is a packet of which a part is another one.
func changedPacket(r *rand.Rand, p api.Packet) api.Packet {
	other := pick(r, 0, 1, 2, 3, 4, 5, -1, api.MaxHops, api.MaxHops+1, api.MaxId, api.MaxId+1, math.MaxInt, math.MinInt, 1<<32+1)
	if r.IntN(4) == 0 {
		text := pick(r, "", "a", "Z", "a-", strings.Repeat("a", 32), strings.Repeat("a", 33), someText(r, 1100))
		if r.IntN(2) == 0 {
			p.Name = text
		} else {
			p.Body = text
		}
		return p
	}
	*pick(r, &p.Kind, &p.From, &p.Back, &p.To, &p.Home, &p.Hops, &p.Code, &p.Id, &p.At) = other
	return p
}

// changed is a message of which a part is another one.
func changed(r *rand.Rand, m api.Message) api.Message {
	m.News = slices.Clone(m.News)
	switch r.IntN(8) {
	case 0:
		m.Kind = pick(r, -1, 0, 1, 2, 3, 4, 5)
	case 1:
		*pick(r, &m.Nonce, &m.Echo, &m.Seq) = pick[uint64](r, 0, 1, math.MaxUint64)
	case 2:
		m.News = append(m.News, someNews(r))
	case 3:
		if len(m.News) > 1 {
			i := 1 + r.IntN(len(m.News)-1)
			m.News[i-1], m.News[i] = m.News[i], m.News[i-1]
		}
	case 4, 5:
		if len(m.News) > 0 {
			i := r.IntN(len(m.News))
			m.News[i] = changedNews(r, m.News[i])
		}
	default:
		if m.Kind == api.MessagePacket || r.IntN(4) == 0 {
			m.Packet = changedPacket(r, m.Packet)
		}
	}
	return m
}

// Ms1, Ms2, Ms3: many messages, such as nearly may be, and bytes that are nearly theirs.
func TestAgainstModel(t *testing.T) {
	r := rand.New(rand.NewPCG(6, 1))
	for range 40000 {
		m := someMessage(r)
		s := bytesOf(m)
		thereAndBack(t, m, s)
		check(t, changed(r, m))
		check(t, changed(r, changed(r, m)))
		checkBytes(t, changedBytes(r, s))
		if other := changed(r, m); other.Kind >= 1 && other.Kind <= 4 {
			checkBytes(t, bytesOf(other))
		}
	}
}

// Ms3: unlike messages have unlike bytes, and none's are the beginning of others'.
func TestUnlike(t *testing.T) {
	r := rand.New(rand.NewPCG(6, 2))
	of := map[string]api.Message{}
	var all []string
	for range 20000 {
		m := someMessage(r)
		if r.IntN(2) == 0 {
			m = changed(r, m)
		}
		s, e := message.Encode(m)
		if e != api.OK {
			continue
		}
		if other, ok := of[s]; ok && !same(m, other) {
			t.Fatalf("%s and %s have the bytes %.60x", short(m), short(other), s)
		} else if !ok {
			of[s] = m
			all = append(all, s)
		}
	}
	slices.Sort(all)
	for i := 1; i < len(all); i++ {
		if strings.HasPrefix(all[i], all[i-1]) {
			t.Errorf("%.60x begins %.60x", all[i-1], all[i])
		}
	}
}

// R2: +0 and -0 are told apart, since the chapter says so, and nil and the empty list are not.
func TestEmptyNews(t *testing.T) {
	for _, news := range [][]api.News{nil, {}, make([]api.News, 0, 5)} {
		m := hello(5, 0)
		m.News = news
		thereAndBack(t, m, "\x01\x05\x00")
		thereAndBack(t, advert(news...), "\x02\x01\x01\x01\x00")
		m = packet(api.Packet{Kind: api.PacketData, From: 1, To: 2})
		m.News = news
		thereAndBack(t, m, bytesOf(m))
	}
}

// R3: an answer is new memory, its spare room too.
func TestAnswersAreNew(t *testing.T) {
	want := advert(manyNews(3, 4)...)
	s := bytesOf(want)
	one, _ := message.Decode(s)
	other, _ := message.Decode(s)
	room := one.News[:cap(one.News)]
	for i := range room {
		room[i] = mark(99, 99)
	}
	if !same(other, want) {
		t.Errorf("another answer is %s now", short(other))
	}
	decodeIs(t, s, want, api.OK)
}

// R3: what is handed in, and the room behind it, is not changed and not kept.
func TestArgumentsAreNotChanged(t *testing.T) {
	l := append(manyNews(2, 2), mark(1, 0.3), ball(1, 1, 1, 1))
	for n := range l {
		before := slices.Clone(l)
		m := advert(l[:n]...)
		message.Check(m)
		s, e := message.Encode(m)
		kept := strings.Clone(s)
		if !same(advert(l...), advert(before...)) {
			t.Fatalf("Encode changed what it was given: %s", short(l))
		}
		for i := range l {
			l[i] = mark(99, 99)
		}
		if s != kept {
			t.Errorf("what Encode told is %x now, was %x", s, kept)
		}
		l = before
		if e == api.OK {
			decodeIs(t, s, advert(l[:n]...), api.OK)
		}
	}
}

// R1, R2, R4: whatever is asked and wherever, a call ends, and tells the same again.
func TestAnyArguments(t *testing.T) {
	r := rand.New(rand.NewPCG(6, 3))
	for range 20000 {
		m := someMessage(r)
		for range r.IntN(6) {
			m = changed(r, m)
		}
		s := pick(r, "", "\x01", "\x02", "\x03", "\x04") + someText(r, 30)
		c := guard.Run(func() {
			for range 2 {
				check(t, m)
				checkBytes(t, s)
			}
		})
		if c.Kind != api.CaughtNone {
			t.Fatalf("%s, %x: panics: %v", short(m), s, c)
		}
	}
}
