package channel_test

import (
	"fmt"
	"math"
	"math/rand/v2"
	"slices"
	"strconv"
	"strings"
	"testing"

	"beacon/api"
	"beacon/channel"
)

// gram is one from 1 to 2 that may arrive.
func gram(bytes string) api.Gram { return api.Gram{From: 1, To: 2, Bytes: bytes} }

// waiting is one from 1 to 2 that waits.
func waiting(bytes string, wait int) api.Gram {
	return api.Gram{From: 1, To: 2, Bytes: bytes, Wait: wait}
}

func between(from, to int, bytes string) api.Gram {
	return api.Gram{From: from, To: to, Bytes: bytes}
}

// grams is some that may arrive, by their bytes.
func grams(names ...string) []api.Gram {
	var l []api.Gram
	for _, name := range names {
		l = append(l, gram(name))
	}
	return l
}

// many is n of them, each with bytes of its own.
func many(n int) []api.Gram {
	l := make([]api.Gram, n)
	for i := range l {
		l[i] = gram(strconv.Itoa(i))
	}
	return l
}

func loaded(t *testing.T, l []api.Gram) *channel.Flight {
	t.Helper()
	f, e := channel.Load(l)
	if f == nil || e != api.OK {
		t.Fatalf("Load of %d: %v, %d", len(l), f, e)
	}
	return f
}

func short(v any) string {
	s := fmt.Sprintf("%+v", v)
	return s[:min(len(s), 600)]
}

// keeps: a flight tells these, in every way.
func keeps(t *testing.T, f *channel.Flight, want []api.Gram) {
	t.Helper()
	if got := f.All(); !slices.Equal(got, want) {
		t.Fatalf("All: %s, not %s", short(got), short(want))
	}
	if got := f.Len(); got != len(want) {
		t.Fatalf("Len: %d, not %d", got, len(want))
	}
	var places []int
	for i, g := range want {
		if g.Wait == 0 {
			places = append(places, i)
		}
	}
	if got := f.Ready(); !slices.Equal(got, places) {
		t.Fatalf("Ready: %s, not %s", short(got), short(places))
	}
}

// puts: what Put tells, and that a refused one changes nothing.
func puts(t *testing.T, f *channel.Flight, g api.Gram, want api.Errno) {
	t.Helper()
	l := f.All()
	if e := f.Put(g); e != want {
		t.Fatalf("Put(%s): %d, not %d", short(g), e, want)
	}
	if want == api.OK {
		l = append(l, g)
	}
	keeps(t, f, l)
}

// does: a Fate that lets none arrive leaves these.
func does(t *testing.T, f *channel.Flight, x api.Fate, want []api.Gram) {
	t.Helper()
	if g, e := f.Do(x); g != (api.Gram{}) || e != api.OK {
		t.Fatalf("Do(%+v): %s, %d, not nothing, 0", x, short(g), e)
	}
	keeps(t, f, want)
}

// refuses: a Fate tells an error and nothing else, and changes nothing.
func refuses(t *testing.T, f *channel.Flight, x api.Fate, want api.Errno) {
	t.Helper()
	l := f.All()
	if g, e := f.Do(x); g != (api.Gram{}) || e != want {
		t.Fatalf("Do(%+v) of %d: %s, %d, not nothing, %d", x, len(l), short(g), e, want)
	}
	keeps(t, f, l)
}

// takes: the one at a place comes, by Take and by FateTake, and these are left.
func takes(t *testing.T, f *channel.Flight, i int, want api.Gram, left []api.Gram) {
	t.Helper()
	other := loaded(t, f.All())
	if g, e := f.Take(i); g != want || e != api.OK {
		t.Fatalf("Take(%d): %s, %d, not %s, 0", i, short(g), e, short(want))
	}
	keeps(t, f, left)
	if g, e := other.Do(api.Fate{Kind: api.FateTake, I: i, K: -1}); g != want || e != api.OK {
		t.Fatalf("Do(FateTake %d): %s, %d, not %s, 0", i, short(g), e, short(want))
	}
	keeps(t, other, left)
}

// takesNot: none comes, neither by Take nor by FateTake, and nothing is changed.
func takesNot(t *testing.T, f *channel.Flight, i int, want api.Errno) {
	t.Helper()
	l := f.All()
	if g, e := f.Take(i); g != (api.Gram{}) || e != want {
		t.Fatalf("Take(%d) of %d: %s, %d, not nothing, %d", i, len(l), short(g), e, want)
	}
	keeps(t, f, l)
	refuses(t, f, api.Fate{Kind: api.FateTake, I: i}, want)
}

// noPlaces is what is no place of n.
func noPlaces(n int) []int {
	return []int{n, -1, n + 1, 1 << 32, math.MinInt, math.MaxInt}
}

// wrongGrams is what may not be in flight.
func wrongGrams() []api.Gram {
	l := []api.Gram{
		{}, {From: 1}, {To: 1}, between(1, 1, "a"), between(api.MaxId, api.MaxId, ""),
		waiting("a", -1), waiting("a", math.MinInt), waiting("a", api.MaxSteps+1), waiting("a", math.MaxInt),
		gram(strings.Repeat("a", api.MaxGram+1)), gram(strings.Repeat("\x00", 2*api.MaxGram)),
	}
	for _, id := range noNumbers() {
		l = append(l, between(id, 2, "a"), between(1, id, "a"), between(id, id, "a"))
	}
	return l
}

// noNumbers is what is no number of a router.
func noNumbers() []int {
	return []int{0, -1, -2, math.MinInt, api.MaxId + 1, 1<<32 + 1, math.MaxInt}
}

// edgeGrams is what may be in flight just so.
func edgeGrams() []api.Gram {
	return []api.Gram{
		between(1, 2, ""), between(2, 1, "a"), between(1, api.MaxId, "\x00\xff\n"), between(api.MaxId, api.MaxId-1, "é"),
		gram(strings.Repeat("a", api.MaxGram)), waiting("b", 1), waiting(strings.Repeat("\x00", api.MaxGram), api.MaxSteps),
	}
}

// The chapter's examples.
func TestExamples(t *testing.T) {
	a, b, c := gram("a"), gram("b"), gram("c")
	f := channel.New()
	puts(t, f, a, api.OK)
	puts(t, f, b, api.OK)
	puts(t, f, c, api.OK)
	takes(t, f, 1, b, []api.Gram{a, c})
	does(t, f, api.Fate{Kind: api.FateDouble, I: 0}, []api.Gram{a, c, a})
	does(t, f, api.Fate{Kind: api.FateSwap, I: 0, K: 1}, []api.Gram{c, a, a})
	does(t, f, api.Fate{Kind: api.FateDrop, I: 2}, []api.Gram{c, a})
	does(t, f, api.Fate{Kind: api.FateDelay, I: 0, K: 2}, []api.Gram{waiting("c", 2), a})
	does(t, f, api.Fate{Kind: api.FateTick}, []api.Gram{waiting("c", 1), a})
	does(t, f, api.Fate{Kind: api.FateTick}, []api.Gram{c, a})
}

// Ch1: a new flight keeps none.
func TestNew(t *testing.T) {
	f := channel.New()
	keeps(t, f, nil)
	for _, i := range append(noPlaces(0), 1) {
		takesNot(t, f, i, api.ErrNone)
	}
	for _, kind := range []int{api.FateDrop, api.FateDouble, api.FateDelay, api.FateSwap} {
		refuses(t, f, api.Fate{Kind: kind}, api.ErrNone)
	}
	does(t, f, api.Fate{Kind: api.FateTick}, nil)
	does(t, f, api.Fate{Kind: api.FateCut, I: 1, K: 2}, nil)
}

// Ch1: what Load refuses, wherever it stands.
func TestLoad(t *testing.T) {
	keeps(t, loaded(t, nil), nil)
	keeps(t, loaded(t, []api.Gram{}), nil)
	keeps(t, loaded(t, edgeGrams()), edgeGrams())
	twice := append(edgeGrams(), edgeGrams()...)
	keeps(t, loaded(t, twice), twice)
	for _, wrong := range wrongGrams() {
		for place := range 4 {
			l := slices.Insert(grams("a", "b", "c"), place, wrong)
			if f, e := channel.Load(l); f != nil || e != api.ErrArg {
				t.Fatalf("Load(%s): %v, %d, not nil, ErrArg", short(l), f, e)
			}
		}
	}
}

// Ch1: what Put refuses, and that what may be stands behind all others.
func TestPut(t *testing.T) {
	f := channel.New()
	for _, g := range edgeGrams() {
		puts(t, f, g, api.OK)
		puts(t, f, g, api.OK) // the same one may fly twice
	}
	for _, g := range wrongGrams() {
		puts(t, f, g, api.ErrArg)
		puts(t, channel.New(), g, api.ErrArg)
	}
}

// Ch1, Ch2: as many as may be, and no more; what may not be is told ahead of that.
func TestFull(t *testing.T) {
	l := many(api.MaxFlight)
	f := loaded(t, l)
	keeps(t, f, l)
	puts(t, f, gram("more"), api.ErrFull)
	puts(t, f, between(1, 1, "wrong"), api.ErrArg)
	refuses(t, f, api.Fate{Kind: api.FateDouble, I: 7}, api.ErrFull)
	refuses(t, f, api.Fate{Kind: api.FateDouble, I: api.MaxFlight}, api.ErrNone)
	refuses(t, f, api.Fate{Kind: api.FateDouble, I: -1}, api.ErrNone)

	if g, e := f.Take(5); g != l[5] || e != api.OK {
		t.Fatalf("Take(5): %v, %d", g, e)
	}
	left := slices.Delete(slices.Clone(l), 5, 6)
	does(t, f, api.Fate{Kind: api.FateDouble, I: 7}, append(left, left[7]))
	puts(t, f, gram("more"), api.ErrFull)
	does(t, f, api.Fate{Kind: api.FateDrop, I: api.MaxFlight - 1}, left)
	puts(t, f, gram("more"), api.OK)
	puts(t, f, gram("more"), api.ErrFull)

	for _, n := range []int{api.MaxFlight + 1, 2 * api.MaxFlight} {
		l := many(n)
		if f, e := channel.Load(l); f != nil || e != api.ErrFull {
			t.Fatalf("Load of %d: %v, %d, not nil, ErrFull", n, f, e)
		}
		for _, place := range []int{0, api.MaxFlight, n - 1} {
			wrong := slices.Clone(l)
			wrong[place].Wait = -1
			if f, e := channel.Load(wrong); f != nil || e != api.ErrArg {
				t.Fatalf("Load of %d, the %d-th wrong: %v, %d, not nil, ErrArg", n, place, f, e)
			}
		}
	}
}

// Ch1: New's flight is full just then, too.
func TestFullByPut(t *testing.T) {
	f := channel.New()
	for i := range api.MaxFlight {
		if e := f.Put(gram("a")); e != api.OK {
			t.Fatalf("Put of the %d-th: %d", i, e)
		}
	}
	puts(t, f, gram("a"), api.ErrFull)
}

// Ch2: from each place of flights of all small lengths, one comes, the others stay as they stood.
func TestTake(t *testing.T) {
	for n := range 8 {
		for i := range n {
			l := many(n)
			takes(t, loaded(t, l), i, l[i], slices.Delete(slices.Clone(l), i, i+1))
		}
		for _, i := range noPlaces(n) {
			takesNot(t, loaded(t, many(n)), i, api.ErrNone)
		}
	}
	l := []api.Gram{waiting("a", 1), gram("b"), waiting("c", api.MaxSteps)}
	f := loaded(t, l)
	takesNot(t, f, 0, api.ErrArg)
	takesNot(t, f, 2, api.ErrArg)
	takesNot(t, f, 3, api.ErrNone)
	takes(t, f, 1, l[1], []api.Gram{l[0], l[2]})
	takesNot(t, f, 1, api.ErrArg)
}

// Ch2: that one is lost, whether it may arrive or not.
func TestDrop(t *testing.T) {
	for n := range 8 {
		for i := range n {
			l := many(n)
			l[i].Wait = i % 3
			does(t, loaded(t, l), api.Fate{Kind: api.FateDrop, I: i, K: -9}, slices.Delete(slices.Clone(l), i, i+1))
		}
		for _, i := range noPlaces(n) {
			refuses(t, loaded(t, many(n)), api.Fate{Kind: api.FateDrop, I: i}, api.ErrNone)
		}
	}
}

// Ch2: it is there once more, as it is, and what becomes of the one does not become of the other.
func TestDouble(t *testing.T) {
	l := []api.Gram{between(3, 7, "a"), waiting("b", 3), gram("c")}
	for i := range l {
		does(t, loaded(t, l), api.Fate{Kind: api.FateDouble, I: i, K: math.MinInt}, append(slices.Clone(l), l[i]))
	}
	for _, i := range noPlaces(len(l)) {
		refuses(t, loaded(t, l), api.Fate{Kind: api.FateDouble, I: i}, api.ErrNone)
	}
	f := loaded(t, l[1:2])
	does(t, f, api.Fate{Kind: api.FateDouble}, []api.Gram{l[1], l[1]})
	does(t, f, api.Fate{Kind: api.FateDelay, I: 1, K: 4}, []api.Gram{l[1], waiting("b", 7)})
	does(t, f, api.Fate{Kind: api.FateDrop}, []api.Gram{waiting("b", 7)})
}

// Ch2: its wait is more, up to the most; a place that is none is told ahead.
func TestDelay(t *testing.T) {
	l := []api.Gram{gram("a"), waiting("b", 5), waiting("c", api.MaxSteps)}
	for i, g := range l {
		rest := api.MaxSteps - g.Wait
		for _, k := range []int{0, 1, rest / 2, rest - 1, rest} {
			if k < 0 || k > rest {
				continue
			}
			want := slices.Clone(l)
			want[i].Wait += k
			does(t, loaded(t, l), api.Fate{Kind: api.FateDelay, I: i, K: k}, want)
		}
		for _, k := range []int{-1, -5, math.MinInt, rest + 1, math.MaxInt - g.Wait, math.MaxInt, 1 << 32} {
			refuses(t, loaded(t, l), api.Fate{Kind: api.FateDelay, I: i, K: k}, api.ErrArg)
		}
	}
	for _, i := range noPlaces(len(l)) {
		for _, k := range []int{0, 1, -1, math.MaxInt} {
			refuses(t, loaded(t, l), api.Fate{Kind: api.FateDelay, I: i, K: k}, api.ErrNone)
		}
	}
	f := loaded(t, l)
	does(t, f, api.Fate{Kind: api.FateDelay, I: 0, K: 1}, []api.Gram{waiting("a", 1), l[1], l[2]})
	does(t, f, api.Fate{Kind: api.FateDelay, I: 0, K: 2}, []api.Gram{waiting("a", 3), l[1], l[2]})
	takesNot(t, f, 0, api.ErrArg)
}

// Ch2: two change places, waits and all; one with itself, too.
func TestSwap(t *testing.T) {
	l := []api.Gram{between(3, 7, "a"), waiting("b", 3), gram("c"), gram("d")}
	for i := range l {
		for k := range l {
			want := slices.Clone(l)
			want[i], want[k] = l[k], l[i]
			does(t, loaded(t, l), api.Fate{Kind: api.FateSwap, I: i, K: k}, want)
		}
		for _, none := range noPlaces(len(l)) {
			refuses(t, loaded(t, l), api.Fate{Kind: api.FateSwap, I: i, K: none}, api.ErrNone)
			refuses(t, loaded(t, l), api.Fate{Kind: api.FateSwap, I: none, K: i}, api.ErrNone)
			refuses(t, loaded(t, l), api.Fate{Kind: api.FateSwap, I: none, K: none}, api.ErrNone)
		}
	}
}

// Ch2: each wait is one less, down to none.
func TestTick(t *testing.T) {
	waits := []int{0, 1, 2, 3, 0, api.MaxSteps, api.MaxSteps - 1}
	var l []api.Gram
	for _, wait := range waits {
		l = append(l, waiting("a", wait))
	}
	f := loaded(t, l)
	for tick := 1; tick <= 4; tick++ {
		for i, wait := range waits {
			l[i].Wait = max(wait-tick, 0)
		}
		does(t, f, api.Fate{Kind: api.FateTick, I: -1, K: math.MinInt}, l)
	}
	for range api.MaxSteps - 4 {
		f.Do(api.Fate{Kind: api.FateTick})
	}
	for i := range l {
		l[i].Wait = 0
	}
	keeps(t, f, l)
}

// Ch2: all between two are lost, both ways, whether they may arrive or not, and no others.
func TestCut(t *testing.T) {
	l := []api.Gram{
		between(1, 2, "a"), between(2, 1, "b"), between(1, 3, "c"), between(3, 1, "d"), between(2, 3, "e"),
		{From: 1, To: 2, Bytes: "f", Wait: 4}, {From: 2, To: 1, Bytes: "g", Wait: api.MaxSteps}, between(api.MaxId, 1, "h"), between(1, 2, "a"),
	}
	without := func(a, b int) []api.Gram {
		var left []api.Gram
		for _, g := range l {
			if min(g.From, g.To) != min(a, b) || max(g.From, g.To) != max(a, b) {
				left = append(left, g)
			}
		}
		return left
	}
	ids := []int{1, 2, 3, 4, api.MaxId}
	for _, a := range ids {
		for _, b := range ids {
			if a == b {
				refuses(t, loaded(t, l), api.Fate{Kind: api.FateCut, I: a, K: b}, api.ErrArg)
				continue
			}
			does(t, loaded(t, l), api.Fate{Kind: api.FateCut, I: a, K: b}, without(a, b))
		}
		for _, none := range noNumbers() {
			refuses(t, loaded(t, l), api.Fate{Kind: api.FateCut, I: a, K: none}, api.ErrArg)
			refuses(t, loaded(t, l), api.Fate{Kind: api.FateCut, I: none, K: a}, api.ErrArg)
			refuses(t, loaded(t, l), api.Fate{Kind: api.FateCut, I: none, K: none}, api.ErrArg)
		}
	}
	f := loaded(t, l)
	does(t, f, api.Fate{Kind: api.FateCut, I: 2, K: 1}, without(1, 2))
	does(t, f, api.Fate{Kind: api.FateCut, I: 1, K: 2}, without(1, 2)) // none is left, and nothing is refused
	puts(t, f, gram("again"), api.OK)
}

// Ch2: kinds that are none, whatever else the Fate has.
func TestNoKind(t *testing.T) {
	for _, kind := range []int{0, -1, 8, 9, 1 << 32, 1<<32 + 1, math.MinInt, math.MaxInt} {
		for _, x := range []api.Fate{{Kind: kind}, {Kind: kind, I: 1, K: 2}, {Kind: kind, I: -1, K: 99}} {
			refuses(t, loaded(t, grams("a", "b", "c")), x, api.ErrArg)
			refuses(t, channel.New(), x, api.ErrArg)
		}
	}
}

// All that is promised, by steps of all kinds, held against the model.
func TestAgainstModel(t *testing.T) {
	r := rand.New(rand.NewPCG(11, 1))
	for range 1500 {
		f, m := channel.New(), &model{items: map[int]item{}}
		for step := range 60 {
			did, got, want := "", "", ""
			switch r.IntN(5) {
			case 0, 1:
				g := someGram(r, strconv.Itoa(step))
				did, got, want = "Put "+short(g), fmt.Sprint(f.Put(g)), fmt.Sprint(m.put(g))
			case 2:
				i := r.IntN(len(m.items)+2) - 1
				g, e := f.Take(i)
				wantGram, wantError := m.take(i)
				did, got, want = fmt.Sprint("Take ", i), fmt.Sprintf("%+v %d", g, e), fmt.Sprintf("%+v %d", wantGram, wantError)
			default:
				x := someFate(r, len(m.items))
				g, e := f.Do(x)
				wantGram, wantError := m.do(x)
				did, got, want = fmt.Sprintf("Do %+v", x), fmt.Sprintf("%+v %d", g, e), fmt.Sprintf("%+v %d", wantGram, wantError)
			}
			if got != want {
				t.Fatalf("%s: %s, not %s", did, got[:min(len(got), 200)], want[:min(len(want), 200)])
			}
			keeps(t, f, m.all())
			if got, want := f.Ready(), m.ready(); !slices.Equal(got, want) {
				t.Fatalf("%s: Ready %v, not %v", did, got, want)
			}
		}
	}
}

// Ch3: each that arrives was put, and arrives at most once more than it was doubled; those that were neither doubled nor swapped stand as they were put.
func TestNothingElseComes(t *testing.T) {
	r := rand.New(rand.NewPCG(11, 3))
	for range 1000 {
		f := channel.New()
		putAs, copies, turned := map[string]api.Gram{}, map[string]int{}, map[string]bool{}
		for step := range 80 {
			l := f.All()
			x := someFate(r, len(l))
			if g := someGram(r, fmt.Sprintf("%04d", step)); step%2 == 0 && f.Put(g) == api.OK {
				putAs[g.Bytes] = g
				copies[g.Bytes]++
				continue
			}
			g, e := f.Do(x)
			switch {
			case e != api.OK:
			case x.Kind == api.FateTake:
				first := putAs[g.Bytes]
				if copies[g.Bytes]--; copies[g.Bytes] < 0 || g.From != first.From || g.To != first.To || g.Wait != 0 {
					t.Fatalf("%s came, which was put as %s", short(g), short(first))
				}
			case x.Kind == api.FateDouble:
				copies[l[x.I].Bytes]++
				turned[l[x.I].Bytes] = true
			case x.Kind == api.FateSwap:
				turned[l[x.I].Bytes], turned[l[x.K].Bytes] = true, true
			}
			stand := slices.DeleteFunc(f.All(), func(g api.Gram) bool { return turned[g.Bytes] })
			if !slices.IsSortedFunc(stand, func(a, b api.Gram) int { return strings.Compare(a.Bytes, b.Bytes) }) {
				t.Fatalf("behind %+v: %s", x, short(stand))
			}
		}
	}
}

// Ch3, R4: flights know nothing of one another, be they of one list.
func TestFlightsAreAlone(t *testing.T) {
	l := make([]api.Gram, 3, 20)
	copy(l, grams("a", "b", "c"))
	f, other, empty := loaded(t, l), loaded(t, l), channel.New()
	beside := loaded(t, f.All())
	puts(t, f, gram("d"), api.OK)
	puts(t, other, gram("e"), api.OK)
	does(t, f, api.Fate{Kind: api.FateDelay, I: 1, K: 1}, []api.Gram{gram("a"), waiting("b", 1), gram("c"), gram("d")})
	takes(t, other, 0, gram("a"), grams("b", "c", "e"))
	keeps(t, beside, grams("a", "b", "c"))
	keeps(t, empty, nil)
	puts(t, empty, gram("x"), api.OK)
	keeps(t, channel.New(), nil)
}

// R3: what is handed in is not changed, and not kept; nor is the room behind it.
func TestArgumentsStay(t *testing.T) {
	room := []api.Gram{gram("a"), gram("b"), gram("c"), waiting("room", 9), gram("room")}
	l := room[:3]
	f := loaded(t, l)
	puts(t, f, gram("d"), api.OK)
	for _, x := range []api.Fate{{Kind: api.FateDelay, K: 1}, {Kind: api.FateSwap, K: 2}, {Kind: api.FateDrop, I: 1}, {Kind: api.FateCut, I: 1, K: 2}} {
		if _, e := f.Do(x); e != api.OK {
			t.Fatalf("Do(%+v): %d", x, e)
		}
	}
	if want := []api.Gram{gram("a"), gram("b"), gram("c"), waiting("room", 9), gram("room")}; !slices.Equal(room, want) {
		t.Fatalf("the list and its room: %s", short(room))
	}
	f = loaded(t, l)
	room[0], room[2] = gram("x"), waiting("y", 3)
	keeps(t, f, grams("a", "b", "c"))

	f = loaded(t, room[:0])
	puts(t, f, gram("d"), api.OK)
	if room[0] != gram("x") {
		t.Fatalf("the room: %s", short(room))
	}
}

// R3: answers are new, their spare room too.
func TestAnswersAreNew(t *testing.T) {
	f := channel.New()
	for i := range 20 {
		puts(t, f, waiting(strconv.Itoa(i), i%2), api.OK)
		want := f.All()
		answer, places, other, otherPlaces := f.All(), f.Ready(), f.All(), f.Ready()
		for i := range answer[:cap(answer)] {
			answer[:cap(answer)][i] = gram("x")
		}
		for i := range places[:cap(places)] {
			places[:cap(places)][i] = 77
		}
		if !slices.Equal(other, want) || slices.Contains(otherPlaces, 77) {
			t.Fatalf("two answers share: %s, %v", short(other), otherPlaces)
		}
		keeps(t, f, want)
		puts(t, f, gram("y"), api.OK)
		if len(answer) > 0 && answer[0] != gram("x") {
			t.Fatalf("an answer changed: %s", short(answer))
		}
		does(t, f, api.Fate{Kind: api.FateDrop, I: f.Len() - 1}, want)
	}
	kept := f.All()
	want := slices.Clone(kept)
	for f.Len() > 0 {
		f.Do(api.Fate{Kind: api.FateDrop})
	}
	if !slices.Equal(kept, want) {
		t.Fatalf("an answer changed: %s", short(kept))
	}
}

// Of a Flight that New and Load did not give: ErrArg, nothing, 0.
func TestNotGiven(t *testing.T) {
	given := loaded(t, grams("a", "b"))
	twin := *given
	for name, f := range map[string]*channel.Flight{"nil": nil, "zero": {}, "a copy": &twin} {
		for range 2 { // what was refused makes none of it
			if e := f.Put(gram("a")); e != api.ErrArg {
				t.Errorf("%s: Put: %d", name, e)
			}
			for _, i := range []int{0, 1, -1, 9} {
				if g, e := f.Take(i); g != (api.Gram{}) || e != api.ErrArg {
					t.Errorf("%s: Take(%d): %v, %d", name, i, g, e)
				}
			}
			for kind := -1; kind <= 9; kind++ {
				for _, x := range []api.Fate{{Kind: kind}, {Kind: kind, I: 1, K: 2}, {Kind: kind, I: -1, K: -1}} {
					if g, e := f.Do(x); g != (api.Gram{}) || e != api.ErrArg {
						t.Errorf("%s: Do(%+v): %v, %d", name, x, g, e)
					}
				}
			}
			if l, places, n := f.All(), f.Ready(), f.Len(); len(l) != 0 || len(places) != 0 || n != 0 {
				t.Errorf("%s: All %v, Ready %v, Len %d", name, l, places, n)
			}
		}
	}
	keeps(t, given, grams("a", "b"))
}

// R1: as many as may be come and go, from either end, without many being moved for each.
func TestMany(t *testing.T) {
	l := many(api.MaxFlight)
	f := loaded(t, l)
	for i := range 2 * api.MaxFlight {
		g, e := f.Take(0)
		if want := l[i%len(l)]; g != want || e != api.OK {
			t.Fatalf("the %d-th: %v, %d, not %v", i, g, e, want)
		}
		if e := f.Put(g); e != api.OK {
			t.Fatalf("the %d-th again: %d", i, e)
		}
	}
	keeps(t, f, l)
	for i := len(l) - 1; i > 0; i-- {
		if g, e := f.Take(i); g != l[i] || e != api.OK {
			t.Fatalf("the %d-th: %v, %d", i, g, e)
		}
	}
	keeps(t, f, l[:1])
	f = loaded(t, l)
	does(t, f, api.Fate{Kind: api.FateCut, I: 2, K: 1}, nil)
}
