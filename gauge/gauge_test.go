package gauge_test

import (
	"math"
	"math/big"
	"math/rand/v2"
	"slices"
	"testing"

	"beacon/api"
	"beacon/gauge"
	"beacon/metric"
)

var (
	inf      = math.Inf(1)
	negInf   = math.Inf(-1)
	negZero  = math.Copysign(0, -1)
	nan      = math.NaN()
	negNaN   = math.Float64frombits(0xFFF8000000000000)
	otherNaN = math.Float64frombits(0x7FF0000000000001)
	tiny     = math.SmallestNonzeroFloat64
	huge     = math.MaxFloat64
)

func same(a, b float64) bool { return math.Float64bits(a) == math.Float64bits(b) }

func sameGauge(a, b api.Gauge) bool { return a.N == b.N && same(a.Mean, b.Mean) && same(a.Var, b.Var) }

// notSamples is floats that may be no sample.
func notSamples() []float64 {
	return []float64{nan, negNaN, otherNaN, inf, negInf, -tiny, -1, -0.25, -8, -huge}
}

// notMeasures is floats that may be no Mean and no Var.
func notMeasures() []float64 { return append(notSamples(), negZero) }

// measures is floats that may be a Mean, a Var and a sample.
func measures() []float64 {
	return []float64{0, tiny, 3 * tiny, 0x1p-1022, 0x1.fffffffffffffp-1023, 0.1, 0.25, 1.0 / 3, 1, 1.125, 3, 8, 1e5 + 0.1, 1 << 20, 1<<20 + 0.25, 1e100, huge / 8, huge / 4, huge / 2, math.Nextafter(huge, 0), huge}
}

// wrongGauges is gauges that may not be.
func wrongGauges() []api.Gauge {
	l := []api.Gauge{
		{N: 0, Mean: 1}, {N: 0, Var: 1}, {N: 0, Mean: 8, Var: 4}, {N: 0, Mean: tiny}, {N: 0, Var: tiny},
		{N: -1}, {N: -1, Mean: 8, Var: 4}, {N: math.MinInt}, {N: math.MinInt, Mean: 1, Var: 1},
	}
	for _, f := range notMeasures() {
		for _, n := range []int{0, 1, 2, 7, math.MaxInt} {
			l = append(l, api.Gauge{N: n, Mean: f}, api.Gauge{N: n, Var: f}, api.Gauge{N: n, Mean: f, Var: f}, api.Gauge{N: n, Mean: f, Var: 4}, api.Gauge{N: n, Mean: 8, Var: f})
		}
	}
	return l
}

// fedGauges is gauges that may be and have samples.
func fedGauges() []api.Gauge {
	var l []api.Gauge
	for _, mean := range measures() {
		for _, v := range measures() {
			for _, n := range []int{1, 2, math.MaxInt - 1, math.MaxInt} {
				l = append(l, api.Gauge{N: n, Mean: mean, Var: v})
			}
		}
	}
	return l
}

// Ga1.
func TestCheck(t *testing.T) {
	if e := gauge.Check(api.Gauge{}); e != api.OK {
		t.Errorf("Check of the zero gauge: error %d", e)
	}
	for _, g := range fedGauges() {
		if e := gauge.Check(g); e != api.OK {
			t.Errorf("Check(%+v): error %d", g, e)
		}
	}
	for _, g := range wrongGauges() {
		if e := gauge.Check(g); e != api.ErrArg {
			t.Errorf("Check(%+v): error %d, want ErrArg", g, e)
		}
	}
}

// Ga1.
func TestFeed(t *testing.T) {
	for _, x := range []struct {
		g    api.Gauge
		s    float64
		want api.Gauge
	}{
		{api.Gauge{}, 8, api.Gauge{N: 1, Mean: 8, Var: 4}},
		{api.Gauge{}, 0, api.Gauge{N: 1}},
		{api.Gauge{}, negZero, api.Gauge{N: 1}},
		{api.Gauge{}, 1, api.Gauge{N: 1, Mean: 1, Var: 0.5}},
		{api.Gauge{}, huge, api.Gauge{N: 1, Mean: huge, Var: huge / 2}},
		{api.Gauge{}, tiny, api.Gauge{N: 1, Mean: tiny, Var: 0}},
		{api.Gauge{}, 3 * tiny, api.Gauge{N: 1, Mean: 3 * tiny, Var: 2 * tiny}},
		{api.Gauge{N: 1, Mean: 8, Var: 4}, 16, api.Gauge{N: 2, Mean: 9, Var: 5}},
		{api.Gauge{N: 1, Mean: 8, Var: 4}, 8, api.Gauge{N: 2, Mean: 8, Var: 3}},
		{api.Gauge{N: 1, Mean: 8, Var: 4}, 0, api.Gauge{N: 2, Mean: 7, Var: 5}},
		{api.Gauge{N: 1, Mean: 8, Var: 4}, negZero, api.Gauge{N: 2, Mean: 7, Var: 5}},
		{api.Gauge{N: 1}, negZero, api.Gauge{N: 2}},
		{api.Gauge{N: 1}, 8, api.Gauge{N: 2, Mean: 1, Var: 2}},
		{api.Gauge{N: 5, Mean: 16, Var: 0}, 8, api.Gauge{N: 6, Mean: 15, Var: 2}},
		{api.Gauge{N: math.MaxInt - 1, Mean: 8, Var: 4}, 16, api.Gauge{N: math.MaxInt, Mean: 9, Var: 5}},
		{api.Gauge{N: math.MaxInt, Mean: 8, Var: 4}, 16, api.Gauge{N: math.MaxInt, Mean: 9, Var: 5}},
		{api.Gauge{N: 1, Mean: huge, Var: huge}, 0, api.Gauge{N: 2, Mean: 0x1.bffffffffffffp1023, Var: huge}},
		{api.Gauge{N: 1, Mean: huge, Var: huge}, huge, api.Gauge{N: 2, Mean: huge, Var: 0x1.7ffffffffffffp1023}},
		{api.Gauge{N: 1, Mean: 0, Var: huge}, huge, api.Gauge{N: 2, Mean: 0x1.fffffffffffffp1020, Var: huge}},
	} {
		if g, e := gauge.Feed(x.g, x.s); !sameGauge(g, x.want) || e != api.OK {
			t.Errorf("Feed(%+v, %v) = %+v, %d, want %+v", x.g, x.s, g, e, x.want)
		}
	}
}

// Ga1, R2: what is refused, ErrArg ahead of ErrSample, and the zero gauge beside it.
func TestFeedRefuses(t *testing.T) {
	for _, g := range append(fedGauges(), api.Gauge{}) {
		for _, s := range notSamples() {
			if got, e := gauge.Feed(g, s); !sameGauge(got, api.Gauge{}) || e != api.ErrSample {
				t.Errorf("Feed(%+v, %v) = %+v, %d, want ErrSample", g, s, got, e)
			}
		}
	}
	for _, g := range wrongGauges() {
		for _, s := range append(notSamples(), negZero, 0, 8) {
			if got, e := gauge.Feed(g, s); !sameGauge(got, api.Gauge{}) || e != api.ErrArg {
				t.Errorf("Feed(%+v, %v) = %+v, %d, want ErrArg", g, s, got, e)
			}
		}
	}
}

// times is a fraction of a float, rounded to the nearest float, of two as near the even one.
func times(a, b int64, f float64) float64 {
	r := new(big.Rat).SetFloat64(f)
	p, _ := r.Mul(r, big.NewRat(a, b)).Float64()
	return p
}

// plus is a sum of floats, rounded likewise.
func plus(a, b float64) float64 {
	r := new(big.Rat).SetFloat64(a)
	s, _ := r.Add(r, new(big.Rat).SetFloat64(b)).Float64()
	return s
}

// feedByFractions is Feed as the words have it, by fractions that are rounded to floats.
func feedByFractions(g api.Gauge, s float64) api.Gauge {
	n := g.N
	if n < math.MaxInt {
		n++
	}
	if g.N == 0 {
		return api.Gauge{N: n, Mean: s, Var: times(1, 2, s)}
	}
	off := math.Abs(plus(g.Mean, -s))
	return api.Gauge{N: n, Mean: plus(times(7, 8, g.Mean), times(1, 8, s)), Var: plus(times(3, 4, g.Var), times(1, 4, off))}
}

// fused is Feed with products joined with the sums, and not rounded themselves.
func fused(g api.Gauge, s float64) api.Gauge {
	off := math.Abs(g.Mean - s)
	return api.Gauge{N: g.N + 1, Mean: math.FMA(0.875, g.Mean, s*0.125), Var: math.FMA(0.75, g.Var, off*0.25)}
}

// someMeasure is a float of many sizes that may be a sample.
func someMeasure(r *rand.Rand) float64 {
	l := measures()
	switch r.IntN(5) {
	case 0:
		return l[r.IntN(len(l))]
	case 1:
		return float64(r.IntN(1 << 21))
	case 2:
		return math.Float64frombits(r.Uint64N(1 << 53)) // with many below the least normal one
	case 3:
		return math.Float64frombits(r.Uint64N(0x7FF0000000000000))
	}
	return r.Float64() * 100
}

// Ga1, R5: each product and each sum is rounded by itself.
func TestFeedByFractions(t *testing.T) {
	r := rand.New(rand.NewPCG(5, 1))
	unlike := 0
	for range 20000 {
		g := api.Gauge{N: 1 + r.IntN(9), Mean: someMeasure(r), Var: someMeasure(r)}
		s := someMeasure(r)
		want := feedByFractions(g, s)
		if got, e := gauge.Feed(g, s); !sameGauge(got, want) || e != api.OK {
			t.Errorf("Feed(%+v, %v) = %+v, %d, want %+v", g, s, got, e, want)
		}
		if !sameGauge(fused(g, s), want) {
			unlike++
		}
		if got, e := gauge.Feed(api.Gauge{}, s); !sameGauge(got, feedByFractions(api.Gauge{}, s)) || e != api.OK {
			t.Errorf("Feed of nothing with %v = %+v, %d", s, got, e)
		}
	}
	if unlike == 0 {
		t.Error("no gauge here tells joined products from rounded ones")
	}
}

// Ga2.
func TestCost(t *testing.T) {
	for _, x := range []struct{ mean, v, want float64 }{
		{9, 5, 29}, {8, 4, 24}, {8, 0, 8}, {0, 2, 8}, {0, 0, 1}, {tiny, tiny, 1}, {0.5, 0.1, 1}, {0.5, 0.125, 1}, {0.99, 0, 1},
		{1.125, 0, 1}, {1.375, 0, 1.5}, {1, 0.03125, 1}, {1, 0.09375, 1.5}, {1.1, 0, 1}, {1.2, 0, 1.25}, {2.5, 0.0625, 2.75},
		{1 << 20, 0, 1 << 20}, {1<<20 - 0.25, 0, 1<<20 - 0.25}, {1 << 20, 1, 1 << 20}, {0, 1 << 18, 1 << 20}, {0, 1<<18 - 1, 1<<20 - 4}, {1 << 19, 1 << 17, 1 << 20}, {1 << 21, 0, 1 << 20},
		{huge, huge, 1 << 20}, {0, huge, 1 << 20}, {huge, 0, 1 << 20}, {0, huge / 4, 1 << 20}, {huge / 2, huge / 8, 1 << 20},
	} {
		for _, n := range []int{1, 2, 1000, math.MaxInt} {
			g := api.Gauge{N: n, Mean: x.mean, Var: x.v}
			if w, e := gauge.Cost(g); !same(w, x.want) || e != api.OK {
				t.Errorf("Cost(%+v) = %v, %d, want %v", g, w, e, x.want)
			}
		}
	}
}

// Ga2: the same as layer 1's Round of a sum that is made of rounded parts.
func TestCostByFractions(t *testing.T) {
	r := rand.New(rand.NewPCG(5, 2))
	for range 20000 {
		g := api.Gauge{N: 1 + r.IntN(9), Mean: someMeasure(r), Var: someMeasure(r)}
		want, _ := metric.Round(plus(g.Mean, min(times(4, 1, g.Var), huge)))
		if w, e := gauge.Cost(g); !same(w, want) || e != api.OK {
			t.Errorf("Cost(%+v) = %v, %d, want %v", g, w, e, want)
		}
	}
}

// Ga2, R2.
func TestCostRefuses(t *testing.T) {
	if w, e := gauge.Cost(api.Gauge{}); !same(w, 0) || e != api.ErrNone {
		t.Errorf("Cost of nothing = %v, %d, want ErrNone", w, e)
	}
	for _, g := range wrongGauges() {
		if w, e := gauge.Cost(g); !same(w, 0) || e != api.ErrArg {
			t.Errorf("Cost(%+v) = %v, %d, want ErrArg", g, w, e)
		}
	}
}

// Ga3.
func TestHold(t *testing.T) {
	for _, x := range []struct{ old, fresh, want float64 }{
		{8, 8, 8}, {8, 9, 8}, {8, 9.25, 9.25}, {8, 7, 8}, {8, 6.75, 6.75}, {8, 8.25, 8}, {8, 7.75, 8}, {8, 1, 1}, {8, 1 << 20, 1 << 20},
		{1, 1, 1}, {1, 1.25, 1.25}, {1.75, 2, 2}, {1.75, 1.5, 1.5}, {2, 2.25, 2}, {2, 1.75, 2}, {2, 2.5, 2.5}, {2, 1.5, 1.5},
		{9, 10, 9}, {9, 10.25, 10.25}, {9, 8, 9}, {9, 7.75, 7.75}, {9.75, 10.75, 9.75}, {9.75, 11, 11},
		{64, 72, 64}, {64, 73, 73}, {73, 64, 73}, {73, 63.75, 63.75}, // an eighth of old, not of fresh
		{1 << 20, 1<<20 - 1<<17, 1 << 20}, {1 << 20, 1<<20 - 1<<17 - 0.25, 1<<20 - 1<<17 - 0.25}, {1 << 20, 1, 1}, {1, 1 << 20, 1 << 20}, {1<<20 - 0.25, 1 << 20, 1<<20 - 0.25}, {1 << 20, 1 << 20, 1 << 20},
	} {
		if w, e := gauge.Hold(x.old, x.fresh); !same(w, x.want) || e != api.OK {
			t.Errorf("Hold(%v, %v) = %v, %d, want %v", x.old, x.fresh, w, e, x.want)
		}
	}
}

// Ga3: the same by whole numbers, of many weights.
func TestHoldByQuarters(t *testing.T) {
	for old := int64(4); old < 200; old++ {
		for fresh := int64(4); fresh < 240; fresh++ {
			want := fresh
			if off := max(fresh-old, old-fresh); 8*off <= old {
				want = old
			}
			if w, e := gauge.Hold(float64(old)/4, float64(fresh)/4); !same(w, float64(want)/4) || e != api.OK {
				t.Errorf("Hold(%d/4, %d/4) = %v, %d, want %d/4", old, fresh, w, e, want)
			}
		}
	}
}

// Ga3, R2.
func TestHoldRefuses(t *testing.T) {
	wrong := append(notMeasures(), 0, tiny, 0.75, math.Nextafter(1, 0), 1.1, 1.125, math.Nextafter(8, 9), 1<<20+0.25, 1<<20-0.125, 1<<30, huge)
	for _, f := range wrong {
		for _, x := range [][2]float64{{f, 8}, {8, f}, {f, f}, {f, 1}, {1 << 20, f}, {f, nan}} {
			if w, e := gauge.Hold(x[0], x[1]); !same(w, 0) || e != api.ErrArg {
				t.Errorf("Hold(%v, %v) = %v, %d, want ErrArg", x[0], x[1], w, e)
			}
		}
	}
}

// Ga4.
func TestRun(t *testing.T) {
	for _, x := range []struct {
		samples, want []float64
		g             api.Gauge
		left          int
	}{
		{nil, nil, api.Gauge{}, 0},
		{[]float64{}, nil, api.Gauge{}, 0},
		{notSamples(), nil, api.Gauge{}, len(notSamples())},
		{[]float64{8}, []float64{24}, api.Gauge{N: 1, Mean: 8, Var: 4}, 0},
		{[]float64{8, nan, -1, 8}, []float64{24, 20}, api.Gauge{N: 2, Mean: 8, Var: 3}, 2},
		{[]float64{inf, 8, negInf, 16, -tiny}, []float64{24, 29}, api.Gauge{N: 2, Mean: 9, Var: 5}, 3},
		{[]float64{negZero, 0, negZero}, []float64{1, 1, 1}, api.Gauge{N: 3}, 0},
		{[]float64{huge, huge}, []float64{1 << 20, 1 << 20}, api.Gauge{N: 2, Mean: huge, Var: 0x1.7ffffffffffffp1022}, 0},
		// Costs 24, 20, 17, 14.75, 13, 11.75: 13 does not take 14.75's place, and 11.75 does, though it is near 13.
		{[]float64{8, 8, 8, 8, 8, 8}, []float64{24, 20, 17, 14.75, 14.75, 11.75}, api.Gauge{N: 6, Mean: 8, Var: 0.94921875}, 0},
	} {
		l, g, left := gauge.Run(x.samples)
		if !slices.Equal(l, x.want) || !sameGauge(g, x.g) || left != x.left {
			t.Errorf("Run(%v) = %v, %+v, %d, want %v, %+v, %d", x.samples, l, g, left, x.want, x.g, x.left)
		}
	}
}

// someSamples is floats of which most may be samples.
func someSamples(r *rand.Rand) []float64 {
	l := make([]float64, r.IntN(40))
	base := r.Float64() * 1000
	for i := range l {
		switch r.IntN(8) {
		case 0:
			l[i] = notSamples()[r.IntN(len(notSamples()))]
		case 1:
			l[i] = someMeasure(r)
		case 2:
			l[i] = negZero
		default:
			l[i] = base * (0.9 + 0.2*r.Float64())
		}
	}
	return l
}

// Ga4: the same by the other calls, and what is handed in stays as it is.
func TestRunByTheOthers(t *testing.T) {
	r := rand.New(rand.NewPCG(5, 4))
	for range 2000 {
		samples := someSamples(r)
		before := slices.Clone(samples)
		var want []float64
		var g api.Gauge
		left := 0
		for _, s := range samples {
			if math.IsNaN(s) || math.IsInf(s, 0) || s < 0 {
				left++
				continue
			}
			g, _ = gauge.Feed(g, s)
			w, _ := gauge.Cost(g)
			if len(want) > 0 {
				w, _ = gauge.Hold(want[len(want)-1], w)
			}
			want = append(want, w)
		}
		l, got, n := gauge.Run(samples)
		if !slices.Equal(l, want) || !sameGauge(got, g) || n != left {
			t.Errorf("Run(%v) = %v, %+v, %d, want %v, %+v, %d", before, l, got, n, want, g, left)
		}
		if !slices.EqualFunc(samples, before, same) {
			t.Fatalf("Run changed %v to %v", before, samples)
		}
	}
}

// R3, R4: an answer shares nothing with an argument or with another answer, and the same question has the same answer.
func TestRunIsNew(t *testing.T) {
	room := []float64{8, 8, 8, 5, 6, 7}
	l, _, _ := gauge.Run(room[:3])
	again, _, _ := gauge.Run(room[:3])
	for i := range l[:cap(l)] {
		l[:cap(l)][i] = -9
	}
	if !slices.Equal(room, []float64{8, 8, 8, 5, 6, 7}) {
		t.Errorf("what was handed in is %v", room)
	}
	if !slices.Equal(again, []float64{24, 20, 17}) {
		t.Errorf("the second answer is %v", again)
	}
	for i := range room {
		room[i] = nan
	}
	if !slices.Equal(again, []float64{24, 20, 17}) {
		t.Errorf("the second answer is %v behind a change of the argument", again)
	}
}

// Ga5: Feed of a gauge that may be is one that may be, and has a Cost that is a weight.
func TestFeedFollows(t *testing.T) {
	samples := append(measures(), negZero)
	for _, g := range append(fedGauges(), api.Gauge{}) {
		for _, s := range samples {
			next, e := gauge.Feed(g, s)
			if e != api.OK || gauge.Check(next) != api.OK || next.N < 1 || next.N < g.N {
				t.Fatalf("Feed(%+v, %v) = %+v, %d: may not be", g, s, next, e)
			}
			if w, e := gauge.Cost(next); e != api.OK || metric.Weight(w) != api.OK {
				t.Fatalf("Cost(%+v) = %v, %d: no weight", next, w, e)
			}
		}
	}
}

// Ga5: weights of Run are weights, one a sample that may be.
func TestRunFollows(t *testing.T) {
	r := rand.New(rand.NewPCG(5, 5))
	for range 2000 {
		samples := someSamples(r)
		l, g, left := gauge.Run(samples)
		if len(l)+left != len(samples) || g.N != len(l) || gauge.Check(g) != api.OK {
			t.Errorf("Run(%v): %d weights, %d left out, %+v", samples, len(l), left, g)
		}
		for _, w := range l {
			if metric.Weight(w) != api.OK {
				t.Errorf("Run(%v): %v is no weight", samples, w)
			}
		}
	}
}

// Ga5: of whole samples the Mean lies between the least and the greatest one, nearly.
func TestMeanLiesBetween(t *testing.T) {
	r := rand.New(rand.NewPCG(6, 5))
	for range 300 {
		most := 1 + r.IntN(1<<20)
		least := r.IntN(most + 1)
		samples := make([]float64, 1+r.IntN(2000))
		for i := range samples {
			samples[i] = float64(least + r.IntN(most-least+1))
		}
		_, g, _ := gauge.Run(samples)
		low, high := slices.Min(samples), slices.Max(samples)
		if g.Mean < low-high/1000 || g.Mean > high+high/1000 {
			t.Errorf("of %d samples from %v to %v the Mean is %v", len(samples), low, high, g.Mean)
		}
	}
	for _, s := range []float64{0, 1, 3, 999, 1<<20 - 1, 1 << 20} {
		_, g, _ := gauge.Run(slices.Repeat([]float64{s}, 5000))
		if math.Abs(g.Mean-s) > s/1000 {
			t.Errorf("of many %v the Mean is %v", s, g.Mean)
		}
	}
}

// Ga5: what Hold told holds on.
func TestHoldFollows(t *testing.T) {
	r := rand.New(rand.NewPCG(7, 5))
	for range 20000 {
		old, fresh := 1+float64(r.IntN(400))/4, 1+float64(r.IntN(400))/4
		if r.IntN(4) == 0 {
			old, fresh = old*1024, fresh*1024
		}
		w, e := gauge.Hold(old, fresh)
		if e != api.OK || w != old && w != fresh {
			t.Fatalf("Hold(%v, %v) = %v, %d", old, fresh, w, e)
		}
		for _, x := range [][2]float64{{w, fresh}, {old, w}, {w, w}} {
			if again, e := gauge.Hold(x[0], x[1]); !same(again, w) || e != api.OK {
				t.Errorf("Hold(%v, %v) = %v, and then Hold(%v, %v) = %v", old, fresh, w, x[0], x[1], again)
			}
		}
	}
}
