// Package metric is layer 1: weights and distances: see shared/doc/01-metric.md.
package metric

import (
	"math"
	"strconv"

	"beacon/api"
)

const (
	// nanBits are written out, since math.NaN has other ones.
	nanBits = 0x7FF8000000000000
	// mostWritten is the greatest float, but +Inf, that has a text.
	mostWritten = 1 << 40
	farText     = "inf"
)

// parts are the texts of what is behind the whole part, by how many quarters that is.
var parts = [4]string{"", ".25", ".5", ".75"}

// Weight tells why a float may be no weight.
func Weight(w float64) api.Errno { return within(w, api.MaxWeight) }

// Limit tells why a float may be no greatest distance.
func Limit(max float64) api.Errno { return within(max, api.MaxLimit) }

// within tells why a float may be no multiple of a quarter from 1 to most.
func within(f, most float64) api.Errno {
	switch {
	case math.IsNaN(f):
		return api.ErrNaN
	case math.IsInf(f, 0):
		return api.ErrInf
	case math.Signbit(f):
		return api.ErrSign
	case f < 1:
		return api.ErrLow
	case f > most:
		return api.ErrHigh
	case !inQuarters(f):
		return api.ErrQuarter
	}
	return api.OK
}

// inQuarters asks for an f that is far below the greatest float: its product with 4 is exact then.
func inQuarters(f float64) bool { return math.Trunc(f*4) == f*4 }

// Dist tells why a float may be no distance under a limit.
func Dist(d, max float64) api.Errno {
	if e := Limit(max); e != api.OK {
		return e
	}
	switch {
	case math.IsNaN(d):
		return api.ErrNaN
	case math.Signbit(d):
		return api.ErrSign
	case math.IsInf(d, 1):
		return api.OK
	case d >= max:
		return api.ErrFar
	case !inQuarters(d):
		return api.ErrQuarter
	}
	return api.OK
}

// Add is a sum that is too far from a limit on.
func Add(w, d, max float64) float64 {
	sum := w + d
	if math.IsNaN(sum) {
		return math.Float64frombits(nanBits)
	}
	if !(sum < max) { // a max that is a NaN has nothing below it
		return math.Inf(1)
	}
	if sum == 0 { // the sum of two -0 is -0
		return 0
	}
	return sum
}

// Compare is the order of all floats.
func Compare(a, b float64) int {
	switch {
	case a < b, math.IsNaN(b) && !math.IsNaN(a):
		return -1
	case a > b, math.IsNaN(a) && !math.IsNaN(b):
		return 1
	}
	return 0
}

// Least is the place of the first of the least ones.
func Least(l []float64) int {
	least := -1
	for i, f := range l {
		if least < 0 || Compare(f, l[least]) < 0 {
			least = i
		}
	}
	return least
}

// Round is the nearest weight.
func Round(f float64) (float64, api.Errno) {
	switch {
	case math.IsNaN(f):
		return 0, api.ErrNaN
	case f < 1:
		return 1, api.OK
	case f > api.MaxWeight:
		return api.MaxWeight, api.OK
	}
	return math.RoundToEven(f*4) / 4, api.OK
}

// Text is a distance's text.
func Text(d float64) (string, api.Errno) {
	if math.IsInf(d, 1) {
		return farText, api.OK
	}
	q, e := Quarters(d)
	if e != api.OK {
		return "", e
	}
	return strconv.FormatInt(q/4, 10) + parts[q%4], api.OK
}

// Parse is the distance of a text.
func Parse(s string) (float64, api.Errno) {
	if len(s) > api.MaxText {
		return 0, api.ErrLong
	}
	d, err := strconv.ParseFloat(s, 64)
	if err != nil {
		return 0, api.ErrText
	}
	// ParseFloat reads much that is no Text: signs, noughts ahead and behind, exponents.
	if t, e := Text(d); e != api.OK || t != s {
		return 0, api.ErrText
	}
	return d, api.OK
}

// Quarters is how many quarters a distance is.
func Quarters(d float64) (int64, api.Errno) {
	if math.IsNaN(d) || math.Signbit(d) || d > mostWritten || !inQuarters(d) {
		return 0, api.ErrText
	}
	return int64(d * 4), api.OK
}
