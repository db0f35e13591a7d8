package wire_test

import (
	"encoding/binary"
	"math"
	"math/big"
	"math/rand/v2"
	"strings"

	"beacon/api"
	"beacon/wire"
)

// What the chapter says, once more and in another way: by texts, and by numbers of any size.

// isShape takes a text's lists away from within, one depth after the other.
func isShape(s string) bool {
	if len(s) > api.MaxShape {
		return false
	}
	for _, letter := range "ifbt" {
		s = strings.ReplaceAll(s, string(letter), "u")
	}
	for range api.MaxDeep {
		s = flatter(s)
	}
	return strings.Trim(s, "u") == ""
}

// flatter makes a letter of each list that has letters alone.
func flatter(s string) string {
	var out strings.Builder
	for s != "" {
		n := len(s) - len(strings.TrimLeft(strings.TrimPrefix(s, "("), "u"))
		if s[0] == '(' && n > 1 && n < len(s) && s[n] == ')' {
			out.WriteByte('u')
			s = s[n+1:]
			continue
		}
		out.WriteByte(s[0])
		s = s[1:]
	}
	return out.String()
}

// cut is a shape's items, each a text.
func cut(shape string) []string {
	var items []string
	deep, from := 0, 0
	for i, c := range shape {
		switch c {
		case '(':
			deep++
		case ')':
			deep--
		}
		if deep == 0 {
			items = append(items, shape[from:i+1])
			from = i + 1
		}
	}
	return items
}

// bytesOf is the bytes of fields that may be.
func bytesOf(shape string, l []api.Field) []byte {
	var out []byte
	for i, one := range cut(shape) {
		f := l[i]
		switch one[0] {
		case 'u':
			out = binary.AppendUvarint(out, f.U)
		case 'i':
			out = binary.AppendVarint(out, f.I)
		case 'f':
			out = binary.BigEndian.AppendUint64(out, math.Float64bits(f.F))
		case 'b':
			out = append(out, map[bool]byte{true: 1}[f.B])
		case 't':
			out = append(binary.AppendUvarint(out, uint64(len(f.T))), f.T...)
		default:
			out = binary.AppendUvarint(out, uint64(len(f.L)))
			for _, element := range f.L {
				out = append(out, bytesOf(one[1:len(one)-1], element)...)
			}
		}
	}
	return out
}

// readVarint is a varint's number, how many bytes it has, and why it is none.
func readVarint(s string) (uint64, int, api.Errno) {
	n := new(big.Int)
	for i := range len(s) {
		group := big.NewInt(int64(s[i] % 128))
		n.Add(n, group.Lsh(group, uint(7*i)))
		switch {
		case !n.IsUint64() || i == 9 && s[i] >= 128:
			return 0, 0, api.ErrOver
		case s[i] < 128 && len(wire.Varint(n.Uint64())) != i+1:
			return 0, 0, api.ErrOver
		case s[i] < 128:
			return n.Uint64(), i + 1, api.OK
		}
	}
	return 0, 0, api.ErrShort
}

// head is what Head ought to tell of a shape that may be.
func head(shape, s string) ([]api.Field, int, api.Errno) {
	if len(s) > api.MaxGram {
		return nil, 0, api.ErrLong
	}
	return headAt(shape, s, 0)
}

func headAt(shape, s string, at int) ([]api.Field, int, api.Errno) {
	var l []api.Field
	for _, one := range cut(shape) {
		f, next, e := fieldAt(one, s, at)
		if e != api.OK {
			return nil, next, e
		}
		l, at = append(l, f), next
	}
	return l, at, api.OK
}

func fieldAt(one, s string, at int) (f api.Field, next int, e api.Errno) {
	left := s[at:]
	switch one[0] {
	case 'f':
		if len(left) < 8 {
			return f, at, api.ErrShort
		}
		f.F = math.Float64frombits(binary.BigEndian.Uint64([]byte(left)))
		return f, at + 8, api.OK
	case 'b':
		if left == "" {
			return f, at, api.ErrShort
		}
		f.B = left[0] == 1
		if left[0] > 1 {
			return f, at, api.ErrOver
		}
		return f, at + 1, api.OK
	}
	n, size, e := readVarint(left)
	if e != api.OK {
		return f, at, e
	}
	switch one[0] {
	case 'u':
		f.U = n
		return f, at + size, api.OK
	case 'i':
		f.I = int64(n / 2)
		if n%2 == 1 {
			f.I = -f.I - 1
		}
		return f, at + size, api.OK
	case 't':
		if n > uint64(len(left)-size) {
			return f, at, api.ErrShort
		}
		f.T = left[size : size+int(n)]
		return f, at + size + int(n), api.OK
	}
	next = at + size
	for range n {
		element, end, e := headAt(one[1:len(one)-1], s, next)
		if e != api.OK {
			return f, end, e
		}
		f.L, next = append(f.L, element), end
	}
	return f, next, api.OK
}

// decode is what Decode ought to tell of a shape that may be.
func decode(shape, s string) ([]api.Field, int, api.Errno) {
	l, n, e := head(shape, s)
	if e == api.OK && n < len(s) {
		return nil, n, api.ErrRest
	}
	if e == api.OK {
		n = 0
	}
	return l, n, e
}

// same is whether fields are the same to the bit.
func same(a, b []api.Field) bool {
	if len(a) != len(b) {
		return false
	}
	for i, x := range a {
		y := b[i]
		if x.U != y.U || x.I != y.I || math.Float64bits(x.F) != math.Float64bits(y.F) || x.B != y.B || x.T != y.T || len(x.L) != len(y.L) {
			return false
		}
		for k := range x.L {
			if !same(x.L[k], y.L[k]) {
				return false
			}
		}
	}
	return true
}

// someShape is a shape, with lists in one another so deep at most.
func someShape(r *rand.Rand, deep int) string {
	s := ""
	for range r.IntN(4) {
		if deep > 0 && r.IntN(3) == 0 {
			s += "(" + someShape(r, deep-1) + "uifbt"[r.IntN(5):][:1] + ")"
			continue
		}
		s += "uifbt"[r.IntN(5):][:1]
	}
	return s
}

// someFields is fields of a shape, edges among them.
func someFields(r *rand.Rand, shape string) []api.Field {
	var l []api.Field
	for _, one := range cut(shape) {
		var f api.Field
		bits := r.Uint64() >> r.IntN(64)
		switch one[0] {
		case 'u':
			f.U = []uint64{bits, bits, 0, 1, 127, 128, math.MaxUint64, 1 << 63, 1<<63 - 1}[r.IntN(9)]
		case 'i':
			f.I = []int64{int64(bits), -int64(bits), 0, -1, 63, 64, -64, -65, math.MinInt64, math.MaxInt64}[r.IntN(10)]
		case 'f':
			f.F = math.Float64frombits([]uint64{bits, 0, 1 << 63, 0x7ff0000000000001, 0xfff8000000000000, 0x7ff0000000000000, 1}[r.IntN(7)])
		case 'b':
			f.B = r.IntN(2) == 1
		case 't':
			b := make([]byte, []int{0, 1, r.IntN(10), 127, 128, r.IntN(300)}[r.IntN(6)])
			for i := range b {
				b[i] = byte(r.Uint32())
			}
			f.T = string(b)
		default:
			for range []int{0, 1, 2, 3, 3}[r.IntN(5)] {
				f.L = append(f.L, someFields(r, one[1:len(one)-1]))
			}
		}
		l = append(l, f)
	}
	return l
}
