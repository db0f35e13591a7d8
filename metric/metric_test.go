package metric_test

import (
	"cmp"
	"math"
	"math/big"
	"math/rand/v2"
	"regexp"
	"slices"
	"strings"
	"testing"

	"beacon/api"
	"beacon/metric"
)

const nanBits = 0x7FF8000000000000

var (
	inf      = math.Inf(1)
	negInf   = math.Inf(-1)
	negZero  = math.Copysign(0, -1)
	nan      = math.NaN()
	negNaN   = math.Float64frombits(0xFFF8000000000000)
	otherNaN = math.Float64frombits(0x7FF0000000000001)
	tiny     = math.SmallestNonzeroFloat64
	huge     = math.MaxFloat64
)

// below and above are the floats beside f.
func below(f float64) float64 { return math.Nextafter(f, negInf) }
func above(f float64) float64 { return math.Nextafter(f, inf) }

// odd is floats of all kinds: those at which some promise changes its answer, and those beside them.
func odd() []float64 {
	l := []float64{nan, negNaN, otherNaN, inf, negInf, negZero, 0, tiny, huge, 0x1p-1022, 0.1, 1.1, 2.0 / 3, 1e9, 1e100}
	for _, f := range []float64{0.125, 0.25, 0.375, 0.5, 0.75, 1, 1.125, 1.25, 1.375, 1.5, 2, 2.75, 3, 5, 9.75, 10, 1 << 20, 1 << 30, 1 << 40, 1 << 50, 1 << 53} {
		l = append(l, f, below(f), above(f), f-0.25, f+0.25)
	}
	for _, f := range slices.Clone(l) {
		l = append(l, -f)
	}
	return l
}

// isQuarters tells whether a finite float is a multiple of a quarter, by fractions and not by floats.
func isQuarters(f float64) bool {
	r := new(big.Rat).SetFloat64(f)
	return r.Mul(r, big.NewRat(4, 1)).IsInt()
}

// someQuarters is a multiple of a quarter from 0 on, below most.
func someQuarters(r *rand.Rand, most float64) float64 {
	return float64(r.Int64N(int64(most*4))) / 4
}

func same(a, b float64) bool { return math.Float64bits(a) == math.Float64bits(b) }

type may struct {
	f    float64
	want api.Errno
}

// mayUpTo is what is asked of a weight and of a limit alike, most being the greatest one.
func mayUpTo(most float64) []may {
	return []may{
		{1, api.OK}, {1.25, api.OK}, {1.5, api.OK}, {1.75, api.OK}, {2, api.OK}, {17.5, api.OK},
		{most, api.OK}, {most - 0.25, api.OK},
		{nan, api.ErrNaN}, {negNaN, api.ErrNaN}, {otherNaN, api.ErrNaN},
		{inf, api.ErrInf}, {negInf, api.ErrInf},
		{negZero, api.ErrSign}, {-tiny, api.ErrSign}, {-1, api.ErrSign}, {-0.1, api.ErrSign}, {-most, api.ErrSign}, {-huge, api.ErrSign},
		{0, api.ErrLow}, {tiny, api.ErrLow}, {0.1, api.ErrLow}, {0.25, api.ErrLow}, {0.5, api.ErrLow}, {0.75, api.ErrLow}, {below(1), api.ErrLow},
		{most + 0.25, api.ErrHigh}, {above(most), api.ErrHigh}, {most + 0.1, api.ErrHigh}, {most * 2, api.ErrHigh}, {huge, api.ErrHigh},
		{1.1, api.ErrQuarter}, {1.125, api.ErrQuarter}, {above(1), api.ErrQuarter}, {below(most), api.ErrQuarter}, {most - 0.125, api.ErrQuarter}, {math.Pi, api.ErrQuarter},
	}
}

// Me1.
func TestWeight(t *testing.T) {
	for _, x := range mayUpTo(1 << 20) {
		if e := metric.Weight(x.f); e != x.want {
			t.Errorf("Weight(%v): error %d, want %d", x.f, e, x.want)
		}
	}
}

// Me1.
func TestLimit(t *testing.T) {
	for _, x := range append(mayUpTo(1<<30), may{1<<20 + 0.25, api.OK}) {
		if e := metric.Limit(x.f); e != x.want {
			t.Errorf("Limit(%v): error %d, want %d", x.f, e, x.want)
		}
	}
}

// Me1.
func TestDist(t *testing.T) {
	for _, x := range []struct {
		d, max float64
		want   api.Errno
	}{
		{0, 10, api.OK}, {0.25, 10, api.OK}, {0.5, 10, api.OK}, {0.75, 1, api.OK}, {9.75, 10, api.OK}, {inf, 10, api.OK}, {inf, 1, api.OK},
		{0, 1, api.OK}, {1<<30 - 0.25, 1 << 30, api.OK}, {1 << 20, 1 << 30, api.OK}, {2.25, 2.5, api.OK},
		{nan, 10, api.ErrNaN}, {negNaN, 10, api.ErrNaN}, {otherNaN, 10, api.ErrNaN},
		{negZero, 10, api.ErrSign}, {negInf, 10, api.ErrSign}, {-1, 10, api.ErrSign}, {-0.1, 10, api.ErrSign}, {-tiny, 10, api.ErrSign}, {-20, 10, api.ErrSign},
		{10, 10, api.ErrFar}, {10.25, 10, api.ErrFar}, {above(10), 10, api.ErrFar}, {10.1, 10, api.ErrFar}, {huge, 10, api.ErrFar}, {1 << 30, 1 << 30, api.ErrFar}, {1, 1, api.ErrFar},
		{9.9, 10, api.ErrQuarter}, {below(10), 10, api.ErrQuarter}, {tiny, 10, api.ErrQuarter}, {0.1, 10, api.ErrQuarter}, {0.125, 1, api.ErrQuarter}, {1<<30 - 0.125, 1 << 30, api.ErrQuarter},
		{nan, nan, api.ErrNaN}, {0, nan, api.ErrNaN}, {0, inf, api.ErrInf}, {inf, inf, api.ErrInf}, {0, negInf, api.ErrInf}, {nan, inf, api.ErrInf},
		{nan, negZero, api.ErrSign}, {inf, -1, api.ErrSign}, {nan, 0, api.ErrLow}, {0, 0.75, api.ErrLow}, {negInf, 0.5, api.ErrLow},
		{0, 1<<30 + 0.25, api.ErrHigh}, {nan, huge, api.ErrHigh}, {inf, 1.1, api.ErrQuarter}, {-1, 10.1, api.ErrQuarter}, {20, 10.1, api.ErrQuarter},
	} {
		if e := metric.Dist(x.d, x.max); e != x.want {
			t.Errorf("Dist(%v, %v): error %d, want %d", x.d, x.max, e, x.want)
		}
	}
}

// Me1: what may be is just what the words say, of all odd floats and limits.
func TestMayBeByTheWords(t *testing.T) {
	weight := func(f, most float64) bool {
		return !math.IsNaN(f) && f >= 1 && f <= most && isQuarters(f)
	}
	for _, max := range odd() {
		if got, want := metric.Weight(max) == api.OK, weight(max, 1<<20); got != want {
			t.Errorf("Weight(%v) may be: %v, want %v", max, got, want)
		}
		if got, want := metric.Limit(max) == api.OK, weight(max, 1<<30); got != want {
			t.Errorf("Limit(%v) may be: %v, want %v", max, got, want)
		}
		for _, d := range odd() {
			want := weight(max, 1<<30) && (d == inf || d >= 0 && !math.Signbit(d) && d < max && isQuarters(d))
			if got := metric.Dist(d, max) == api.OK; got != want {
				t.Errorf("Dist(%v, %v) may be: %v, want %v", d, max, got, want)
			}
		}
	}
}

// Me2.
func TestAdd(t *testing.T) {
	canonical := math.Float64frombits(nanBits)
	for _, x := range []struct{ w, d, max, want float64 }{
		{1.25, 2.5, 10, 3.75}, {1, 0, 10, 1}, {1, 8.75, 10, 9.75}, {0.1, 0.2, 10, 0.30000000000000004}, {-3, 1, 10, -2}, {1e100, 1, inf, 1e100},
		{5, 5, 10, inf}, {5, 5.25, 10, inf}, {1, inf, 10, inf}, {inf, inf, inf, inf}, {huge, huge, huge, inf}, {huge, huge, inf, inf},
		{below(5), 5, 10, inf}, {below(5), below(5), 10, below(10)}, {4.75, 5, 10, 9.75},
		{-1, 1, 10, 0}, {negZero, negZero, 10, 0}, {negZero, 0, 10, 0}, {0, 0, 10, 0}, {0, 0, tiny, 0}, {negZero, negZero, inf, 0},
		{0, 0, 0, inf}, {negZero, negZero, 0, inf}, {0, 0, negZero, inf}, {-1, 1, -1, inf}, {-1, -1, -1, -2},
		{1, 1, nan, inf}, {0, 0, nan, inf}, {-1, -1, negNaN, inf}, {negInf, 1, nan, inf}, {inf, 1, otherNaN, inf},
		{negInf, 1, 10, negInf}, {negInf, negInf, -huge, negInf}, {negInf, 1, negInf, inf}, {-huge, -huge, 0, negInf},
		{inf, negInf, 10, canonical}, {negInf, inf, nan, canonical}, {nan, 1, 10, canonical}, {1, negNaN, 10, canonical},
		{otherNaN, 1, 10, canonical}, {nan, nan, nan, canonical}, {otherNaN, negNaN, inf, canonical}, {inf, nan, negInf, canonical},
	} {
		if s := metric.Add(x.w, x.d, x.max); !same(s, x.want) {
			t.Errorf("Add(%v, %v, %v) = %v (%x), want %v", x.w, x.d, x.max, s, math.Float64bits(s), x.want)
		}
	}
}

// place is the order of floats as the words have it.
func place(f float64) (int, *big.Rat) {
	switch {
	case math.IsNaN(f):
		return 3, new(big.Rat)
	case f == inf:
		return 2, new(big.Rat)
	case f == negInf:
		return 0, new(big.Rat)
	}
	return 1, new(big.Rat).SetFloat64(f)
}

func compareByPlace(a, b float64) int {
	ka, ra := place(a)
	kb, rb := place(b)
	if ka != kb {
		return cmp.Compare(ka, kb)
	}
	return ra.Cmp(rb)
}

// Me3.
func TestCompare(t *testing.T) {
	for _, x := range []struct {
		a, b float64
		want int
	}{
		{1, 2, -1}, {2, 1, 1}, {1, 1, 0}, {0, negZero, 0}, {negZero, 0, 0}, {-tiny, 0, -1}, {tiny, negZero, 1},
		{negInf, -huge, -1}, {inf, huge, 1}, {inf, inf, 0}, {negInf, negInf, 0}, {negInf, inf, -1},
		{nan, inf, 1}, {inf, nan, -1}, {nan, negInf, 1}, {negInf, negNaN, -1}, {nan, 0, 1}, {0, negNaN, -1},
		{nan, nan, 0}, {nan, negNaN, 0}, {otherNaN, negNaN, 0},
	} {
		if c := metric.Compare(x.a, x.b); c != x.want {
			t.Errorf("Compare(%v, %v) = %d, want %d", x.a, x.b, c, x.want)
		}
	}
	for _, a := range odd() {
		for _, b := range odd() {
			if c, want := metric.Compare(a, b), compareByPlace(a, b); c != want {
				t.Errorf("Compare(%v, %v) = %d, want %d", a, b, c, want)
			}
		}
	}
}

// Me3.
func TestLeast(t *testing.T) {
	for _, x := range []struct {
		l    []float64
		want int
	}{
		{nil, -1}, {[]float64{}, -1}, {[]float64{7}, 0}, {[]float64{nan}, 0}, {[]float64{inf}, 0}, {[]float64{nan, negNaN}, 0},
		{[]float64{3, nan, 2, 2}, 2}, {[]float64{1, 2, 3}, 0}, {[]float64{3, 2, 1}, 2}, {[]float64{nan, inf, nan}, 1},
		{[]float64{0, negZero}, 0}, {[]float64{negZero, 0}, 0}, {[]float64{1, 0, negZero, 0}, 1}, {[]float64{negNaN, negInf, -huge, negInf}, 1},
	} {
		if n := metric.Least(x.l); n != x.want {
			t.Errorf("Least(%v) = %d, want %d", x.l, n, x.want)
		}
	}
}

// Me4.
func TestRound(t *testing.T) {
	for _, x := range []struct{ f, want float64 }{
		{1, 1}, {1.25, 1.25}, {1.1, 1}, {1.2, 1.25}, {2.9, 3}, {1 << 20, 1 << 20},
		{1.125, 1}, {1.375, 1.5}, {1.625, 1.5}, {1.875, 2}, {2.125, 2}, {2.375, 2.5},
		{above(1.125), 1.25}, {below(1.125), 1}, {below(1.375), 1.25}, {above(1.375), 1.5}, {below(1.625), 1.5}, {above(1.625), 1.75}, {below(1.875), 1.75},
		{0.9, 1}, {0.5, 1}, {0.1, 1}, {0, 1}, {negZero, 1}, {tiny, 1}, {below(1), 1}, {above(1), 1}, {-1, 1}, {-huge, 1}, {negInf, 1}, {-1.5, 1}, {-1 << 20, 1},
		{1<<20 - 0.125, 1 << 20}, {below(1<<20 - 0.125), 1<<20 - 0.25}, {1<<20 - 0.375, 1<<20 - 0.5}, {below(1 << 20), 1 << 20},
		{1<<20 + 0.25, 1 << 20}, {above(1 << 20), 1 << 20}, {1e9, 1 << 20}, {huge, 1 << 20}, {inf, 1 << 20},
	} {
		if w, e := metric.Round(x.f); !same(w, x.want) || e != api.OK {
			t.Errorf("Round(%v) = %v, %d, want %v", x.f, w, e, x.want)
		}
	}
	for _, f := range []float64{nan, negNaN, otherNaN} {
		if w, e := metric.Round(f); !same(w, 0) || e != api.ErrNaN {
			t.Errorf("Round(NaN) = %v, %d, want +0, ErrNaN", w, e)
		}
	}
}

// Me4: no weight is nearer than what is told, and of two as near the even one is.
func TestRoundIsNearest(t *testing.T) {
	r := rand.New(rand.NewPCG(1, 4))
	l := odd()
	for range 3000 {
		l = append(l, r.Float64()*16, r.Float64()*(1<<20), someQuarters(r, 1<<19)+0.125)
	}
	off := func(f, w float64) *big.Rat {
		d := new(big.Rat).Sub(new(big.Rat).SetFloat64(f), new(big.Rat).SetFloat64(w))
		return d.Abs(d)
	}
	for _, f := range l {
		w, e := metric.Round(f)
		if math.IsNaN(f) || math.IsInf(f, 0) {
			continue
		}
		if e != api.OK || metric.Weight(w) != api.OK {
			t.Fatalf("Round(%v) = %v, %d: no weight", f, w, e)
		}
		for _, other := range []float64{w - 0.25, w + 0.25} {
			if metric.Weight(other) != api.OK {
				continue
			}
			c := off(f, w).Cmp(off(f, other))
			if c > 0 || c == 0 && int64(w*4)%2 != 0 {
				t.Errorf("Round(%v) = %v, but %v is nearer, or as near and even", f, w, other)
			}
		}
	}
}

// written is texts and the floats that have them.
func written() map[string]float64 {
	return map[string]float64{
		"inf": inf, "0": 0, "0.25": 0.25, "0.5": 0.5, "0.75": 0.75, "1": 1, "3.75": 3.75, "10": 10, "100.5": 100.5, "1048576": 1 << 20,
		"1048576.25": 1<<20 + 0.25, "1073741823.75": 1<<30 - 0.25, "1099511627776": 1 << 40, "1099511627775.75": 1<<40 - 0.25, "1099511627775.5": 1<<40 - 0.5,
	}
}

// unwritten is floats that have no text.
func unwritten() []float64 {
	return []float64{
		negZero, nan, negNaN, otherNaN, negInf, -1, -0.25, -tiny, -(1 << 40), 1<<40 + 0.25, above(1 << 40), 1 << 41, 1 << 62, 1 << 63, 1 << 64, huge,
		tiny, 0.1, 0.125, 0.3, 1.1, below(1), above(1), below(1 << 40), 1<<40 - 0.125,
	}
}

// Me5.
func TestText(t *testing.T) {
	for want, d := range written() {
		if s, e := metric.Text(d); s != want || e != api.OK {
			t.Errorf("Text(%v) = %q, %d, want %q", d, s, e, want)
		}
	}
	for _, d := range unwritten() {
		if s, e := metric.Text(d); s != "" || e != api.ErrText {
			t.Errorf("Text(%v) = %q, %d, want ErrText", d, s, e)
		}
	}
}

// Me5.
func TestParse(t *testing.T) {
	for s, want := range written() {
		if d, e := metric.Parse(s); !same(d, want) || e != api.OK {
			t.Errorf("Parse(%q) = %v, %d, want %v", s, d, e, want)
		}
	}
	for _, s := range []string{
		"", " ", "-", ".", "x", "3.50", "3.0", "3.00", "3.", ".5", "00", "01", "007.5", "-0", "-1", "+1", "+0.5", "3.1", "3.125", "3.2", "3.250", "3.05", "3.7",
		" 3", "3 ", "3\n", "3\x00", "3 .5", "3,5", "3..5", "3.5.", "3.5.5", "1e3", "1E0", "0x1", "0x1p0", "0b1", "1_000", "0x_1p1", "٣", "3½",
		"Inf", "INF", "+inf", "-inf", "+Inf", "infinity", "inf ", " inf", "inff", "in", "nan", "NaN", "1099511627776.25", "1099511627777", "9999999999999999999999",
		"18446744073709551616", "18446744073709551617", "1e999", "3.25\xff", strings.Repeat("9", 400), strings.Repeat("9", api.MaxText), strings.Repeat("0", api.MaxText-1) + "1", "0." + strings.Repeat("5", 2000), "0.25" + strings.Repeat("0", api.MaxText-4),
	} {
		if d, e := metric.Parse(s); !same(d, 0) || e != api.ErrText {
			t.Errorf("Parse(%.40q) = %v, %d, want ErrText", s, d, e)
		}
	}
	for _, s := range []string{strings.Repeat("1", api.MaxText+1), strings.Repeat(" ", api.MaxText+1), "3" + strings.Repeat("\x00", 2*api.MaxText)} {
		if d, e := metric.Parse(s); !same(d, 0) || e != api.ErrLong {
			t.Errorf("Parse of %d bytes = %v, %d, want ErrLong", len(s), d, e)
		}
	}
}

// Me5: what is read is just what the words say, of many short texts.
func TestParseByTheWords(t *testing.T) {
	form := regexp.MustCompile(`^(0|[1-9][0-9]*)(\.25|\.5|\.75)?$`)
	most := big.NewRat(1<<40, 1)
	pieces := []string{"0", "1", "2", "5", "7", "9", ".", ".25", ".5", ".75", "-", "+", "e", "_", "inf", "10995116277", "76", "75"}
	r := rand.New(rand.NewPCG(1, 5))
	for range 50000 {
		var s string
		for range 1 + r.IntN(4) {
			s += pieces[r.IntN(len(pieces))]
		}
		d, e := metric.Parse(s)
		if s == "inf" {
			continue
		}
		want, ok := new(big.Rat), false
		if form.MatchString(s) {
			want.SetString(s)
			ok = want.Cmp(most) <= 0
		}
		if ok != (e == api.OK) || ok && new(big.Rat).SetFloat64(d).Cmp(want) != 0 || !ok && (e != api.ErrText || !same(d, 0)) {
			t.Errorf("Parse(%q) = %v, %d", s, d, e)
		}
	}
}

// Me5.
func TestQuarters(t *testing.T) {
	for s, d := range written() {
		if s == "inf" {
			continue
		}
		if n, e := metric.Quarters(d); float64(n)/4 != d || e != api.OK {
			t.Errorf("Quarters(%v) = %d, %d", d, n, e)
		}
	}
	for d, want := range map[float64]int64{0: 0, 0.25: 1, 3.75: 15, 1 << 40: 1 << 42, 1<<40 - 0.25: 1<<42 - 1} {
		if n, e := metric.Quarters(d); n != want || e != api.OK {
			t.Errorf("Quarters(%v) = %d, %d, want %d", d, n, e, want)
		}
	}
	for _, d := range append(unwritten(), inf) {
		if n, e := metric.Quarters(d); n != 0 || e != api.ErrText {
			t.Errorf("Quarters(%v) = %d, %d, want ErrText", d, n, e)
		}
	}
}

// Me6: sums in any grouping, which never fall and keep the order.
func TestSumsFollow(t *testing.T) {
	r := rand.New(rand.NewPCG(1, 6))
	limits := []float64{1, 10, 100.25, 1 << 20, 1 << 30}
	for range 20000 {
		max := limits[r.IntN(len(limits))]
		d, c := someQuarters(r, max), someQuarters(r, max)
		if r.IntN(8) == 0 {
			d = inf
		}
		a, b := 1+someQuarters(r, min(max, 1<<20)), 1+someQuarters(r, min(max, 1<<20))
		ab, ba := metric.Add(a, metric.Add(b, d, max), max), metric.Add(b, metric.Add(a, d, max), max)
		if !same(ab, ba) {
			t.Errorf("max %v: %v + (%v + %v) is %v, the other way %v", max, a, b, d, ab, ba)
		}
		s := metric.Add(a, d, max)
		if !(s > d || d == inf && s == inf) {
			t.Errorf("max %v: %v + %v is %v", max, a, d, s)
		}
		if metric.Dist(s, max) != api.OK {
			t.Errorf("max %v: %v + %v is %v: no distance", max, a, d, s)
		}
		if k := metric.Compare(s, metric.Add(a, c, max)); k != 0 && k != metric.Compare(d, c) {
			t.Errorf("max %v: %v + %v and %v + %v: the order is %d", max, a, d, a, c, k)
		}
	}
}

// Me6: Compare is a total order, and Least tells one that none is ahead of.
func TestOrderFollows(t *testing.T) {
	l := odd()
	for _, a := range l {
		if metric.Compare(a, a) != 0 {
			t.Errorf("Compare(%v, %v) is not 0", a, a)
		}
		for _, b := range l {
			ab := metric.Compare(a, b)
			if ab != -metric.Compare(b, a) {
				t.Errorf("Compare of %v and %v: not the other way round", a, b)
			}
			for _, c := range l {
				if ab <= 0 && metric.Compare(b, c) <= 0 && metric.Compare(a, c) > 0 {
					t.Fatalf("%v, %v, %v stand in a ring", a, b, c)
				}
			}
		}
	}
	r := rand.New(rand.NewPCG(3, 6))
	for range 2000 {
		some := make([]float64, 1+r.IntN(6))
		for i := range some {
			some[i] = l[r.IntN(len(l))]
		}
		n := metric.Least(some)
		for i, f := range some {
			if c := metric.Compare(f, some[n]); c < 0 || c == 0 && i < n {
				t.Errorf("Least(%v) = %d, but %d", some, n, i)
			}
		}
	}
}

// Me6: Round of a weight is it; Text and Parse go there and back.
func TestThereAndBack(t *testing.T) {
	r := rand.New(rand.NewPCG(2, 6))
	l := odd()
	for range 5000 {
		l = append(l, someQuarters(r, 100), someQuarters(r, 1<<20), someQuarters(r, 1<<40))
	}
	for _, f := range l {
		if w, e := metric.Round(f); metric.Weight(f) == api.OK && (!same(w, f) || e != api.OK) {
			t.Errorf("Round(%v) = %v, %d", f, w, e)
		}
		s, e := metric.Text(f)
		n, eq := metric.Quarters(f)
		if e != eq && f != inf {
			t.Errorf("Text(%v): error %d, Quarters: %d", f, e, eq)
		}
		if e != api.OK {
			continue
		}
		if d, e := metric.Parse(s); !same(d, f) || e != api.OK {
			t.Errorf("Parse(%q) = %v, %d, want %v", s, d, e, f)
		}
		if f != inf && float64(n)/4 != f {
			t.Errorf("Quarters(%v) = %d", f, n)
		}
	}
}

// R3, R4: lists that are handed in stay as they are, to the bit and behind their end; the same question has the same answer.
func TestListsStay(t *testing.T) {
	l := append(odd(), 1, 2, 3)
	before := make([]uint64, len(l))
	for i, f := range l {
		before[i] = math.Float64bits(f)
	}
	first := metric.Least(l[:len(l)-3])
	if again := metric.Least(l[:len(l)-3]); first != again {
		t.Errorf("Least: %d, then %d", first, again)
	}
	for i, f := range l {
		if math.Float64bits(f) != before[i] {
			t.Errorf("Least changed the float at %d", i)
		}
	}
}
