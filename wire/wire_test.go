package wire_test

import (
	"encoding/binary"
	"encoding/hex"
	"fmt"
	"math"
	"math/rand/v2"
	"slices"
	"strings"
	"testing"
	"unsafe"

	"beacon/api"
	"beacon/guard"
	"beacon/wire"
)

type fields = []api.Field

type list = [][]api.Field

// negative0 is the float whose sign alone is set.
var negative0 = math.Copysign(0, -1)

// Calls, with what holds of each answer.

func checkShape(t *testing.T, shape string) {
	t.Helper()
	want := api.OK
	if !isShape(shape) {
		want = api.ErrShape
	}
	if e := wire.CheckShape(shape); e != want {
		t.Errorf("CheckShape(%.60q): %d, not %d", shape, e, want)
	}
}

// short is the beginning of a value's text.
func short(v any) string {
	s := fmt.Sprint(v)
	return s[:min(len(s), 200)]
}

func encodes(t *testing.T, shape string, l fields, want string) {
	t.Helper()
	if s, e := wire.Encode(shape, l); s != want || e != api.OK {
		t.Fatalf("Encode(%.60q, %s): %.60x, %d, not %.60x", shape, short(l), s, e, want)
	}
}

func refuses(t *testing.T, shape string, l fields, want api.Errno) {
	t.Helper()
	if s, e := wire.Encode(shape, l); s != "" || e != want {
		t.Fatalf("Encode(%.60q, %s): %.60x, %d, not %d", shape, short(l), s, e, want)
	}
}

func headIs(t *testing.T, shape, s string, want fields, at int, wantError api.Errno) {
	t.Helper()
	if l, n, e := wire.Head(shape, s); !same(l, want) || n != at || e != wantError {
		t.Fatalf("Head(%.60q, %.60x): %s, %d, %d, not %s, %d, %d", shape, s, short(l), n, e, short(want), at, wantError)
	}
}

func decodeIs(t *testing.T, shape, s string, want fields, at int, wantError api.Errno) {
	t.Helper()
	if l, n, e := wire.Decode(shape, s); !same(l, want) || n != at || e != wantError {
		t.Fatalf("Decode(%.60q, %.60x): %s, %d, %d, not %s, %d, %d", shape, s, short(l), n, e, short(want), at, wantError)
	}
}

// unreadable: neither Head nor Decode can read it, for the same reason.
func unreadable(t *testing.T, shape, s string, at int, want api.Errno) {
	t.Helper()
	headIs(t, shape, s, nil, at, want)
	decodeIs(t, shape, s, nil, at, want)
}

// thereAndBack: the fields have these bytes, and the bytes are these fields.
func thereAndBack(t *testing.T, shape string, l fields, want string) {
	t.Helper()
	encodes(t, shape, l, want)
	decodeIs(t, shape, want, l, 0, api.OK)
	headIs(t, shape, want, l, len(want), api.OK)
}

func fromHex(s string) string {
	b, err := hex.DecodeString(strings.ReplaceAll(s, " ", ""))
	if err != nil {
		panic(err)
	}
	return string(b)
}

// nested is a shape of a letter in so many lists.
func nested(letter string, deep int) string {
	return strings.Repeat("(", deep) + letter + strings.Repeat(")", deep)
}

// inLists is fields in so many lists.
func inLists(l fields, deep int) fields {
	for range deep {
		l = fields{{L: list{l}}}
	}
	return l
}

// Wi1.
func TestCheckShape(t *testing.T) {
	right := []string{"", "u", "uifbt", "uu", "(u)", "(b)(f)", "u(t)i", "((i))", "((u)(i))t", "(u(i(f(b(t)))))", nested("u", 8), nested("u", 8) + nested("tt", 8), "u(" + nested("f", 7) + nested("b", 7) + ")", strings.Repeat("u", 256), strings.Repeat("(i)", 85) + "b", nested(strings.Repeat("t", 240), 8)}
	wrong := []string{"()", "u)", "x", "(", ")", "(u", "u(", ")(", ")u(", "(u))", "((u)", "(())", "(()u)", "(u())", "u()", "(u)(", "(u)()", "U", "I", " ", "u i", "u ", " u", "u,i", "[u]", "(x)", "u(x)", "ux", "xu", "(u)x", "\x00", "u\x00", "\xff", "ü", "u\n", "s", "d", nested("u", 9), nested("u", 8) + nested("u", 9), nested("u", 128), nested("", 8), nested("", 9), strings.Repeat("(", 8), strings.Repeat("(", 256), strings.Repeat(")", 256), strings.Repeat("u", 257), strings.Repeat("(i)", 86), strings.Repeat("u", 1<<20), strings.Repeat("(", 1<<20)}
	for _, s := range right {
		if e := wire.CheckShape(s); e != api.OK {
			t.Errorf("CheckShape(%.60q): %d, not OK", s, e)
		}
		checkShape(t, s)
	}
	for _, s := range wrong {
		if e := wire.CheckShape(s); e != api.ErrShape {
			t.Errorf("CheckShape(%.60q): %d, not ErrShape", s, e)
		}
		checkShape(t, s)
		refuses(t, s, nil, api.ErrShape)
		refuses(t, s, fields{{U: 1, I: 1}}, api.ErrShape)
		unreadable(t, s, "", 0, api.ErrShape)
		unreadable(t, s, "\x80\x00", 0, api.ErrShape)
		unreadable(t, s, strings.Repeat("\x01", 65537), 0, api.ErrShape)
	}
}

// eachText calls f with each text of at most so many of the letters.
func eachText(most int, letters string, f func(string)) {
	var grow func(s string)
	grow = func(s string) {
		f(s)
		if len(s) == most {
			return
		}
		for i := range len(letters) {
			grow(s + letters[i:i+1])
		}
	}
	grow("")
}

// Wi1: all short texts, all bytes, and long ones.
func TestCheckShapeOfMany(t *testing.T) {
	eachText(6, "ut()x", func(s string) { checkShape(t, s) })
	eachText(10, "u()", func(s string) { checkShape(t, s) })
	for b := range 256 {
		c := string([]byte{byte(b)})
		for _, s := range []string{c, c + "u", "u" + c, "(" + c + ")", "(u" + c + ")", "(u)" + c, nested(c, 8)} {
			checkShape(t, s)
		}
	}
	r := rand.New(rand.NewPCG(4, 1))
	for range 5000 {
		s := nested("u"+someShape(r, 8), r.IntN(10))
		checkShape(t, s)
		if len(s) > 0 {
			i := r.IntN(len(s))
			checkShape(t, s[:i]+s[i+1:])
			checkShape(t, s[:i]+"(u)"+s[i:])
		}
	}
	for n := 250; n < 262; n++ {
		checkShape(t, strings.Repeat("b", n))
		checkShape(t, nested(strings.Repeat("b", n-16), 8))
	}
}

// Wi1.
func TestVarint(t *testing.T) {
	for _, c := range []struct {
		n    uint64
		want string
	}{
		{0, "00"}, {1, "01"}, {127, "7f"}, {128, "8001"}, {129, "8101"}, {255, "ff01"}, {256, "8002"}, {300, "ac02"}, {16383, "ff7f"}, {16384, "808001"},
		{math.MaxUint32, "ffffffff0f"}, {1<<63 - 1, "ffffffffffffffff7f"}, {1 << 63, "80808080808080808001"}, {math.MaxUint64, "ffffffffffffffffff01"},
	} {
		if s := wire.Varint(c.n); s != fromHex(c.want) {
			t.Errorf("Varint(%d): %x, not %s", c.n, s, c.want)
		}
	}
	r := rand.New(rand.NewPCG(4, 2))
	for i := range 64 {
		for _, n := range []uint64{1 << i, 1<<i - 1, 1<<i + 1, r.Uint64() >> i} {
			if s, want := wire.Varint(n), string(binary.AppendUvarint(nil, n)); s != want {
				t.Errorf("Varint(%d): %x, not %x", n, s, want)
			}
		}
	}
}

// Wi2, Wi3: each item, at its edges.
func TestItems(t *testing.T) {
	for _, c := range []struct {
		shape string
		l     fields
		want  string
	}{
		{"", nil, ""}, {"", fields{}, ""},
		{"u", fields{{U: 0}}, "00"}, {"u", fields{{U: 127}}, "7f"}, {"u", fields{{U: 128}}, "8001"}, {"u", fields{{U: math.MaxUint64}}, "ffffffffffffffffff01"},
		{"i", fields{{I: 0}}, "00"}, {"i", fields{{I: -1}}, "01"}, {"i", fields{{I: 1}}, "02"}, {"i", fields{{I: -2}}, "03"}, {"i", fields{{I: 63}}, "7e"}, {"i", fields{{I: -64}}, "7f"}, {"i", fields{{I: 64}}, "8001"}, {"i", fields{{I: -65}}, "8101"},
		{"i", fields{{I: math.MaxInt64}}, "feffffffffffffffff01"}, {"i", fields{{I: math.MinInt64}}, "ffffffffffffffffff01"}, {"i", fields{{I: math.MinInt64 + 1}}, "fdffffffffffffffff01"},
		{"f", fields{{F: 0}}, "0000000000000000"}, {"f", fields{{F: negative0}}, "8000000000000000"}, {"f", fields{{F: 1}}, "3ff0000000000000"}, {"f", fields{{F: math.Inf(1)}}, "7ff0000000000000"}, {"f", fields{{F: math.Inf(-1)}}, "fff0000000000000"}, {"f", fields{{F: math.SmallestNonzeroFloat64}}, "0000000000000001"},
		{"f", fields{{F: math.Float64frombits(0x7ff0000000000001)}}, "7ff0000000000001"}, {"f", fields{{F: math.Float64frombits(0xfff8123456789abc)}}, "fff8123456789abc"}, {"f", fields{{F: math.Float64frombits(0x7fffffffffffffff)}}, "7fffffffffffffff"}, {"f", fields{{F: math.Float64frombits(0x0123456789abcdef)}}, "0123456789abcdef"},
		{"b", fields{{B: false}}, "00"}, {"b", fields{{B: true}}, "01"},
		{"t", fields{{T: ""}}, "00"}, {"t", fields{{T: "ab"}}, "026162"}, {"t", fields{{T: "\x00\xff\x80"}}, "0300ff80"}, {"t", fields{{T: strings.Repeat("z", 128)}}, "8001" + strings.Repeat("7a", 128)},
		{"(u)", fields{{L: nil}}, "00"}, {"(u)", fields{{L: list{}}}, "00"}, {"(u)", fields{{L: list{{{U: 300}}}}}, "01ac02"}, {"(u)", fields{{L: list{{{}}, {{}}}}}, "020000"},
		{"uit", fields{{U: 300}, {I: -1}, {T: "ab"}}, "ac0201026162"}, {"(bf)", fields{{L: list{{{B: true}, {F: negative0}}}}}, "01018000000000000000"},
		{"((t)b)u", fields{{L: list{{{L: list{{{T: "x"}}, {{T: ""}}}}, {B: true}}, {{}, {}}}}, {U: 7}}, "02 02 0178 00 01 00 00 07"},
		{"u(u)(i)", fields{{}, {}, {}}, "000000"},
		{nested("u", 8), fields{{}}, "00"},
		{nested("u", 8), inLists(fields{{U: 5}}, 8), "010101010101010105"},
	} {
		thereAndBack(t, c.shape, c.l, fromHex(c.want))
	}
	many := make(list, 300)
	for i := range many {
		many[i] = fields{{U: uint64(i % 2)}}
	}
	thereAndBack(t, "(u)", fields{{L: many}}, "\xac\x02"+strings.Repeat("\x00\x01", 150))
}

// full is a field that has all its parts.
func full() api.Field {
	return api.Field{U: 1, I: 1, F: 1, B: true, T: "x", L: list{{{}}}}
}

// only is a field that has an item's part alone.
func only(item string) api.Field {
	var f api.Field
	switch all := full(); item {
	case "u":
		f.U = all.U
	case "i":
		f.I = all.I
	case "f":
		f.F = all.F
	case "b":
		f.B = all.B
	case "t":
		f.T = all.T
	default:
		f.L = all.L
	}
	return f
}

// odd is fields that may not be: each has a part that an item has not, alone or besides the item's own.
func odd(item string) fields {
	var l fields
	for _, other := range []struct {
		item string
		f    []api.Field
	}{
		{"u", fields{{U: 1}, {U: math.MaxUint64}}}, {"i", fields{{I: 1}, {I: -1}, {I: math.MinInt64}}}, {"f", fields{{F: 1}, {F: negative0}, {F: math.NaN()}, {F: math.SmallestNonzeroFloat64}, {F: math.Inf(-1)}}}, {"b", fields{{B: true}}}, {"t", fields{{T: "x"}, {T: "\x00"}}}, {"(u)", fields{{L: list{{{}}}}, {L: list{{}}}, {L: list{nil}}, {L: list{{{U: 1}}, {{U: 1}}}}}},
	} {
		if other.item == item {
			continue
		}
		for _, f := range other.f {
			both := only(item)
			both.U, both.I, both.B, both.T = both.U+f.U, both.I+f.I, both.B || f.B, both.T+f.T
			if math.Float64bits(f.F) != 0 {
				both.F = f.F
			}
			both.L = append(both.L, f.L...)
			l = append(l, f, both)
		}
	}
	return append(l, full())
}

// Wi2: a part that counts not is not zero, wherever it stands; of nil and empty parts nothing is asked.
func TestParts(t *testing.T) {
	for _, item := range []string{"u", "i", "f", "b", "t", "(u)"} {
		good := only(item)
		if _, e := wire.Encode(item, fields{good}); e != api.OK {
			t.Errorf("%s: %v: %d", item, good, e)
		}
		for _, bad := range odd(item) {
			refuses(t, item, fields{bad}, api.ErrField)
			refuses(t, item+item, fields{good, bad}, api.ErrField)
			refuses(t, item+item, fields{bad, good}, api.ErrField)
			refuses(t, "("+item+")", fields{{L: list{{bad}}}}, api.ErrField)
			refuses(t, "("+item+"u)", fields{{L: list{{good, {}}, {good, {}}, {bad, {}}}}}, api.ErrField)
			refuses(t, "u((b"+item+"))", fields{{}, {L: list{{{}}, {{L: list{{{}, good}, {{}, bad}}}}}}}, api.ErrField)
		}
		if item != "(u)" {
			good.L = list{}
		}
		if _, e := wire.Encode(item, fields{good}); e != api.OK {
			t.Errorf("%s: %v: %d", item, good, e)
		}
	}
}

// Wi2: as many fields as there are items, in each element, too.
func TestCounts(t *testing.T) {
	zero := fields{{}, {}, {}, {}}
	for items := range 4 {
		for n := range 5 {
			shape := strings.Repeat("u", items)
			want, inElement := api.ErrField, api.ErrField
			if n == items {
				want, inElement = api.OK, api.OK
			}
			if _, e := wire.Encode(shape, zero[:n]); e != want {
				t.Errorf("%d fields for %d items: %d", n, items, e)
			}
			if items == 0 {
				continue
			}
			l := fields{{}, {L: list{zero[:items], zero[:items], zero[:n]}}}
			if _, e := wire.Encode("u("+shape+")", l); e != inElement {
				t.Errorf("%d fields for %d items of an element: %d", n, items, e)
			}
		}
	}
	refuses(t, "", make(fields, 1000000), api.ErrField)
	refuses(t, "u", make(fields, 1000000), api.ErrField)
	refuses(t, strings.Repeat("u", 256), make(fields, 255), api.ErrField)
	encodes(t, strings.Repeat("u", 256), make(fields, 256), strings.Repeat("\x00", 256))
	refuses(t, "(u)", fields{{L: make(list, 3)}}, api.ErrField)
	refuses(t, "((u))", fields{{L: list{{{L: list{{}}}}}}}, api.ErrField)
}

// Wi2: fields that hold themselves may not be.
func TestFieldsWithinThemselves(t *testing.T) {
	round := make(fields, 1)
	round[0].L = list{round, round, round}
	for deep := range 9 {
		refuses(t, nested("u", deep), round, api.ErrField)
		refuses(t, nested("t", deep), round, api.ErrField)
	}
}

// elements is so many elements of one field.
func elements(n int, f api.Field) list {
	l := make(list, n)
	for i := range l {
		l[i] = fields{f}
	}
	return l
}

// Wi2: MaxGram bytes are not too many, one more is, whatever item it belongs to.
func TestMaxGram(t *testing.T) {
	x := func(n int) string { return strings.Repeat("x", n) }
	for _, c := range []struct {
		shape string
		l     fields
	}{
		{"t", fields{{T: x(65533)}}}, {"tu", fields{{T: x(65532)}, {U: 1}}}, {"ut", fields{{U: 300}, {T: x(65531)}}}, {"ti", fields{{T: x(65523)}, {I: math.MinInt64}}}, {"tf", fields{{T: x(65525)}, {F: 1}}}, {"tb", fields{{T: x(65532)}, {B: true}}}, {"tt", fields{{T: x(65532)}, {}}}, {"tt", fields{{}, {T: x(65532)}}}, {"t(u)", fields{{T: x(65532)}, {}}},
		{"(u)", fields{{L: elements(65533, api.Field{U: 1})}}}, {"(i)", fields{{L: elements(65533, api.Field{I: -1})}}}, {"(b)", fields{{L: elements(65533, api.Field{})}}}, {"(t)", fields{{L: elements(65533, api.Field{})}}}, {"((f))", fields{{L: elements(65533, api.Field{})}}}, {"t(f)", fields{{T: x(5)}, {L: elements(8191, api.Field{F: 1})}}},
	} {
		s, e := wire.Encode(c.shape, c.l)
		if len(s) != api.MaxGram || e != api.OK {
			t.Errorf("Encode(%s): %d bytes, %d", c.shape, len(s), e)
			continue
		}
		thereAndBack(t, c.shape, c.l, s)
		for _, one := range []string{"u", "i", "f", "b", "t", "(u)"} {
			refuses(t, c.shape+one, append(slices.Clone(c.l), api.Field{}), api.ErrLong)
			refuses(t, one+c.shape, append(fields{{}}, c.l...), api.ErrLong)
		}
		refuses(t, "("+c.shape+")", fields{{L: list{c.l}}}, api.ErrLong)
	}
	for _, n := range []int{65534, 65535, 65536, 65537, 1 << 22} {
		refuses(t, "t", fields{{T: x(n)}}, api.ErrLong)
		refuses(t, "(u)", fields{{L: elements(n, api.Field{})}}, api.ErrLong)
	}
	refuses(t, "(f)", fields{{L: elements(8192, api.Field{F: 2})}}, api.ErrLong)
	refuses(t, "(t)", fields{{L: elements(1<<20, api.Field{T: x(1 << 20)})}}, api.ErrLong)
}

// Wi2: the errors' order.
func TestEncodesErrorsInOrder(t *testing.T) {
	long := api.Field{T: strings.Repeat("x", 65537)}
	refuses(t, "tu", fields{long, {I: 1}}, api.ErrField)
	refuses(t, "t(u)", fields{long, {L: list{{{}}, {{T: "x"}}}}}, api.ErrField)
	refuses(t, "t(u)", fields{long, {L: list{{{}}, {}}}}, api.ErrField)
	refuses(t, "t", fields{long, {}}, api.ErrField)
	refuses(t, "(t)", fields{{L: append(elements(70000, long), fields{{B: true}})}}, api.ErrField)
	refuses(t, "tx", fields{long, {I: 1}}, api.ErrShape)
	refuses(t, "t()", fields{long}, api.ErrShape)
	refuses(t, "u)", fields{{U: 1}}, api.ErrShape)
}

// Wi3: what can't be read, why, and where.
func TestUnreadable(t *testing.T) {
	for _, c := range []struct {
		shape, s string
		at       int
		want     api.Errno
	}{
		{"u", "", 0, api.ErrShort}, {"u", "80", 0, api.ErrShort}, {"u", "8080", 0, api.ErrShort}, {"u", "ffffffffffffffffff", 0, api.ErrShort}, {"u", "808080808080808080", 0, api.ErrShort},
		{"u", "8000", 0, api.ErrOver}, {"u", "ff00", 0, api.ErrOver}, {"u", "808000", 0, api.ErrOver}, {"u", "ff808000", 0, api.ErrOver}, {"u", "ffffffffffffffff8000", 0, api.ErrOver}, {"u", "ffffffffffffffffff00", 0, api.ErrOver}, {"u", "80808080808080808000", 0, api.ErrOver},
		{"u", "ffffffffffffffffff02", 0, api.ErrOver}, {"u", "80808080808080808002", 0, api.ErrOver}, {"u", "8080808080808080807f", 0, api.ErrOver}, {"u", "80808080808080808080", 0, api.ErrOver}, {"u", "80808080808080808081", 0, api.ErrOver}, {"u", "ffffffffffffffffff81", 0, api.ErrOver}, {"u", "ffffffffffffffffffff", 0, api.ErrOver}, {"u", "ffffffffffffffffff8100", 0, api.ErrOver}, {"u", "8080808080808080808080808001", 0, api.ErrOver},
		{"i", "", 0, api.ErrShort}, {"i", "81", 0, api.ErrShort}, {"i", "8100", 0, api.ErrOver}, {"i", "80808080808080808003", 0, api.ErrOver},
		{"f", "", 0, api.ErrShort}, {"f", "01", 0, api.ErrShort}, {"f", "01020304050607", 0, api.ErrShort},
		{"b", "", 0, api.ErrShort}, {"b", "02", 0, api.ErrOver}, {"b", "80", 0, api.ErrOver}, {"b", "ff", 0, api.ErrOver}, {"b", "8000", 0, api.ErrOver},
		{"t", "", 0, api.ErrShort}, {"t", "01", 0, api.ErrShort}, {"t", "8001", 0, api.ErrShort}, {"t", "80", 0, api.ErrShort}, {"t", "8000", 0, api.ErrOver}, {"t", "0361", 0, api.ErrShort}, {"t", "ffffffffffffffffff0161", 0, api.ErrShort}, {"t", "80808080808080808001", 0, api.ErrShort}, {"t", "ffffffffffffffff7f61", 0, api.ErrShort}, {"t", "ffffffff0f", 0, api.ErrShort}, {"t", "80808080106162", 0, api.ErrShort}, {"t", "818001", 0, api.ErrShort},
		{"(u)", "", 0, api.ErrShort}, {"(u)", "80", 0, api.ErrShort}, {"(u)", "8100", 0, api.ErrOver}, {"(u)", "80808080808080808002", 0, api.ErrOver}, {"(u)", "01", 1, api.ErrShort}, {"(u)", "0201", 2, api.ErrShort}, {"(u)", "020180", 2, api.ErrShort}, {"(u)", "02018000", 2, api.ErrOver}, {"(u)", "80017f", 3, api.ErrShort},
		{"(u)", "ffffffffffffffffff01", 10, api.ErrShort}, {"(u)", "ffffffffffffffffff0107", 11, api.ErrShort}, {"(u)", "8080808080808080800107", 11, api.ErrShort}, {"(t)", "ffffffff0f00000000", 9, api.ErrShort},
		{"(ub)", "02050107", 4, api.ErrShort}, {"(ub)", "0205010702", 4, api.ErrOver}, {"(ub)", "020501", 3, api.ErrShort}, {"(ub)", "02050280", 2, api.ErrOver},
		{"((u))", "01", 1, api.ErrShort}, {"((u))", "0180", 1, api.ErrShort}, {"((u))", "0101", 2, api.ErrShort}, {"((u))", "020101", 3, api.ErrShort}, {"((u))", "02010180", 3, api.ErrShort}, {"((u)b)", "0101", 2, api.ErrShort}, {"((u)b)", "010107", 3, api.ErrShort}, {"((u)b)", "01010702", 3, api.ErrOver}, {"((u)b)", "0100", 2, api.ErrShort},
		{"ut", "01056162", 1, api.ErrShort}, {"tu", "026162", 3, api.ErrShort}, {"tu", "026162ff", 3, api.ErrShort}, {"tb", "02616202", 3, api.ErrOver}, {"uub", "0100", 2, api.ErrShort}, {"fu", "0000000000000000", 8, api.ErrShort}, {"uf", "ac02000102", 2, api.ErrShort}, {"uifbt", "ac0201", 3, api.ErrShort},
		{"bu", "02", 0, api.ErrOver}, {"bb", "0202", 0, api.ErrOver}, {"ub", "8002", 2, api.ErrShort}, {"ub", "0002", 1, api.ErrOver}, {"(u)u", "00", 1, api.ErrShort}, {"(u)u", "008000", 1, api.ErrOver},
	} {
		unreadable(t, c.shape, fromHex(c.s), c.at, c.want)
	}
}

// Wi3: bytes that are left are no fault of Head's, and Decode tells where they begin.
func TestRest(t *testing.T) {
	for _, c := range []struct {
		shape, s string
		l        fields
		n        int
	}{
		{"", "x", nil, 0}, {"u", "\x01\x01", fields{{U: 1}}, 1}, {"u", "\x05rest", fields{{U: 5}}, 1}, {"u", "\x80\x01\x80", fields{{U: 128}}, 2}, {"u", "\xff\xff\xff\xff\xff\xff\xff\xff\xff\x01\x00", fields{{U: math.MaxUint64}}, 10},
		{"b", "\x01\x02", fields{{B: true}}, 1}, {"f", strings.Repeat("\x00", 9), fields{{}}, 8}, {"t", "\x02abc", fields{{T: "ab"}}, 3}, {"(u)", "\x00\x00", fields{{}}, 1}, {"(ub)", "\x01\x05\x01\x80", fields{{L: list{{{U: 5}, {B: true}}}}}, 3},
	} {
		headIs(t, c.shape, c.s, c.l, c.n, api.OK)
		decodeIs(t, c.shape, c.s, nil, c.n, api.ErrRest)
	}
}

// Wi3: more than MaxGram bytes are not read, not even by Head.
func TestTooManyBytes(t *testing.T) {
	most := strings.Repeat("\x00", api.MaxGram)
	headIs(t, "u", most, fields{{}}, 1, api.OK)
	headIs(t, "", most, nil, 0, api.OK)
	decodeIs(t, "u", most, nil, 1, api.ErrRest)
	decodeIs(t, "", most, nil, 0, api.ErrRest)
	unreadable(t, "u", "\x80"+most[1:], 0, api.ErrOver)
	for _, n := range []int{1, 2, 1 << 24} {
		long := most + strings.Repeat("\x00", n)
		for _, shape := range []string{"", "u", "b", "(u)"} {
			unreadable(t, shape, long, 0, api.ErrLong)
			unreadable(t, shape+"u", "\x80"+long, 0, api.ErrLong)
		}
		unreadable(t, "()", long, 0, api.ErrShape)
	}
}

// Wi3: numbers of elements that are only said hold up nothing.
func TestManyThatAreNotThere(t *testing.T) {
	most := wire.Varint(math.MaxUint64)
	for deep := 1; deep <= 8; deep++ {
		s := strings.Repeat(most, deep)
		unreadable(t, nested("u", deep), s, 10*deep, api.ErrShort)
		unreadable(t, nested(strings.Repeat("u", 256-2*deep), deep), s, 10*deep, api.ErrShort)
		left := strings.Repeat("\x00", api.MaxGram-len(s))
		unreadable(t, nested("u", deep), s+left, api.MaxGram, api.ErrShort)
		unreadable(t, nested("t", deep), s+left, api.MaxGram, api.ErrShort)
		unreadable(t, nested("b", deep), s+left[1:]+"\x02", api.MaxGram-1, api.ErrOver)
	}
	unreadable(t, "(f)", most+strings.Repeat("\x00", 8*5+3), 50, api.ErrShort)
}

// check holds all that is promised of a shape and any bytes against the model.
func check(t *testing.T, shape, s string) {
	t.Helper()
	l, n, e := head(shape, s)
	headIs(t, shape, s, l, n, e)
	all, at, e := decode(shape, s)
	decodeIs(t, shape, s, all, at, e)
	if e == api.OK {
		encodes(t, shape, all, s)
	}
}

// Wi3, Wi4: all short texts of bytes at the edges.
func TestShortBytes(t *testing.T) {
	for _, shape := range []string{"", "u", "i", "b", "t", "f", "uu", "bt", "tb", "(u)", "(b)", "(t)", "(ub)", "(u)t", "((b))", "((u)b)", "(bu)i"} {
		eachText(4, "\x00\x01\x02\x03\x7f\x80\x81\xff", func(s string) { check(t, shape, s) })
		eachText(7, "\x00\x02\x80", func(s string) { check(t, shape, s) })
	}
	for b := range 256 {
		for _, first := range []byte{0, 1, 2, 127, 128, 129, 255} {
			s := string([]byte{first, byte(b)})
			check(t, "u", s)
			check(t, "bi", s)
			check(t, "u", strings.Repeat("\xff", 8)+s)
			check(t, "i", strings.Repeat("\x80", 8)+s)
		}
	}
}

// changed is bytes of which a few are other ones, gone or new.
func changed(r *rand.Rand, s string) string {
	b := []byte(s)
	for range 1 + r.IntN(3) {
		i := r.IntN(len(b) + 1)
		other := []byte{0, 1, 2, 127, 128, 129, 255, byte(r.Uint32())}[r.IntN(8)]
		switch {
		case i == len(b) || r.IntN(4) == 0:
			b = slices.Insert(b, i, other)
		case r.IntN(4) == 0:
			b = slices.Delete(b, i, i+1)
		case r.IntN(6) == 0:
			b = b[:i]
		default:
			b[i] = other
		}
	}
	return string(b)
}

// Wi2, Wi3, Wi4: fields of many shapes, and bytes that are nearly theirs.
func TestAgainstModel(t *testing.T) {
	r := rand.New(rand.NewPCG(4, 3))
	for range 20000 {
		shape := someShape(r, 8)
		if len(shape) > api.MaxShape {
			continue
		}
		l := someFields(r, shape)
		s := string(bytesOf(shape, l))
		if len(s) > api.MaxGram {
			refuses(t, shape, l, api.ErrLong)
			continue
		}
		thereAndBack(t, shape, l, s)
		for range 3 {
			check(t, shape, changed(r, s))
		}
	}
}

// Wi4, Wi5: Head of fields' bytes with any behind is they; each beginning of them ends too early.
func TestBeginnings(t *testing.T) {
	r := rand.New(rand.NewPCG(4, 4))
	for range 1000 {
		shape := someShape(r, 4)
		l := someFields(r, shape)
		s := string(bytesOf(shape, l))
		for _, rest := range []string{"\x00", "\x80", "\xff\xff", s, string(bytesOf("t", someFields(r, "t")))} {
			headIs(t, shape, s+rest, l, len(s), api.OK)
			if rest != "" {
				decodeIs(t, shape, s+rest, nil, len(s), api.ErrRest)
			}
		}
		for range 8 {
			if s == "" {
				break
			}
			s := s[:r.IntN(len(s))]
			if _, _, e := wire.Head(shape, s); e != api.ErrShort {
				t.Errorf("Head(%s, %x): %d, not ErrShort", shape, s, e)
			}
			check(t, shape, s)
		}
	}
}

// Wi5: bytes of two shapes, one behind the other, are those of the shapes joined.
func TestJoined(t *testing.T) {
	r := rand.New(rand.NewPCG(4, 5))
	for range 2000 {
		one, other := someShape(r, 4), someShape(r, 4)
		a, b := someFields(r, one), someFields(r, other)
		s, e := wire.Encode(one, a)
		rest, f := wire.Encode(other, b)
		if e != api.OK || f != api.OK {
			t.Fatalf("Encode: %d, %d", e, f)
		}
		thereAndBack(t, one+other, append(slices.Clone(a), b...), s+rest)
		_, n, _ := wire.Head(one, s+rest)
		decodeIs(t, other, (s + rest)[n:], b, 0, api.OK)
	}
}

// Wi4: unlike fields have unlike bytes, and none's are the beginning of others'.
func TestUnlike(t *testing.T) {
	var all []string
	bits := []uint64{0, 1, 1 << 63, 0x7ff0000000000000, 0x7ff8000000000000, 0xfff8000000000000, 0x7ff0000000000001, 0x7ff8000000000001}
	for _, f := range bits {
		for _, u := range []uint64{0, 1, 127, 128, 1 << 63} {
			for _, text := range []string{"", "\x00", "\x00\x00", "\x01", "\x80"} {
				for _, l := range []list{nil, {{{U: u}, {}}}, {{{}, {B: true}}}, {{{U: u}, {}}, {{}, {}}}} {
					s, e := wire.Encode("f(ub)t", fields{{F: math.Float64frombits(f)}, {L: l}, {T: text}})
					if e != api.OK {
						t.Fatalf("Encode: %d", e)
					}
					if l != nil || u == 0 {
						all = append(all, s)
					}
				}
			}
		}
	}
	slices.Sort(all)
	twins := 0
	for i := 1; i < len(all); i++ {
		if all[i] == all[i-1] { // {{{}, {B: true}}} stands there with each u
			twins++
		} else if strings.HasPrefix(all[i], all[i-1]) {
			t.Errorf("%x begins %x", all[i-1], all[i])
		}
	}
	if want := len(bits) * 5 * 4; twins != want {
		t.Errorf("%d twins, not %d", twins, want)
	}
}

// lists is all lists of an answer: of fields, and of elements.
func lists(l fields) (of []fields, in []list) {
	of = append(of, l)
	for _, f := range l {
		if len(f.L) > 0 {
			in = append(in, f.L)
		}
		for _, element := range f.L {
			moreOf, moreIn := lists(element)
			of, in = append(of, moreOf...), append(in, moreIn...)
		}
	}
	return of, in
}

// fill writes over lists, their spare room too.
func fill(l fields) {
	of, in := lists(l)
	for _, x := range in {
		x = x[:cap(x)]
		for i := range x {
			x[i] = fields{{U: 99}}
		}
	}
	for _, x := range of {
		x = x[:cap(x)]
		for i := range x {
			x[i] = api.Field{U: 99}
		}
	}
}

// R3: answers are new memory, and no two lists of one share any.
func TestAnswersAreNew(t *testing.T) {
	shape := "u(ut)((i)b)"
	l := fields{{U: 1}, {L: list{{{U: 2}, {T: "abcdefgh"}}, {{U: 3}, {}}, {{U: 4}, {}}}}, {L: list{{{L: list{{{I: 5}}, {{I: 6}}, {{I: 7}}}}, {}}, {{}, {B: true}}, {{L: list{{{I: 8}}}}, {}}}}}
	s, e := wire.Encode(shape, l)
	if e != api.OK {
		t.Fatalf("Encode: %d", e)
	}
	for _, read := range []func(shape, s string) (fields, int, api.Errno){wire.Head, wire.Decode} {
		one, _, _ := read(shape, s)
		other, _, _ := read(shape, s)
		seen := map[*api.Field]int{}
		seenIn := map[*fields]int{}
		for k, answer := range []fields{one, other} {
			of, in := lists(answer)
			for _, x := range of {
				for i := range x[:cap(x)] {
					seen[&x[:cap(x)][i]]++
				}
			}
			for _, x := range in {
				for i := range x[:cap(x)] {
					seenIn[&x[:cap(x)][i]]++
				}
			}
			for p, n := range seen {
				if n != 1 {
					t.Errorf("answer %d: a field stands in %d lists: %v", k, n, *p)
				}
			}
			for p, n := range seenIn {
				if n != 1 {
					t.Errorf("answer %d: an element stands in %d lists: %v", k, n, *p)
				}
			}
		}
		text := one[1].L[0][1].T
		if at, from := uintptr(unsafe.Pointer(unsafe.StringData(text))), uintptr(unsafe.Pointer(unsafe.StringData(s))); text != "abcdefgh" || at >= from && at < from+uintptr(len(s)) {
			t.Errorf("%q is a piece of what was read", text)
		}
		fill(one)
		if !same(other, l) {
			t.Errorf("another answer is %v now", other)
		}
		decodeIs(t, shape, s, l, 0, api.OK)
	}
}

// R3: what is handed in, and the room behind it, is not changed and not kept.
func TestArgumentsAreNotChanged(t *testing.T) {
	room := func() fields {
		inner := fields{{U: 2}, {T: "x"}, {U: 7, I: 7}}
		outer := list{inner[:2], {{U: 300}, {}}, {{B: true}}}
		return fields{{U: 1}, {L: outer[:2]}, {T: "y", F: 5}}
	}
	for _, shape := range []string{"u(ut)", "u(uu)", "u(u", "t(ut)"} {
		l, want := room(), room()
		wire.Encode(shape, l[:2])
		if !same(l, want) || !same(l[1].L[0][:3], want[1].L[0][:3]) || !same(l[1].L[:3][2], want[1].L[:3][2]) {
			t.Errorf("Encode(%s) changed what it was given: %v", shape, l)
		}
	}
	l := room()[:2]
	s, _ := wire.Encode("u(ut)", l)
	before := strings.Clone(s)
	fill(l)
	if s != before {
		t.Errorf("what Encode told is %x now, was %x", s, before)
	}
}

// R1, R2, R4: whatever is asked and wherever, a call ends, tells zero values beside an error, and the same again.
func TestAnyArguments(t *testing.T) {
	r := rand.New(rand.NewPCG(4, 6))
	for range 20000 {
		b := make([]byte, r.IntN(12))
		for i := range b {
			b[i] = "uifbt()x"[r.IntN(8)]
		}
		shape, other := string(b), someShape(r, 3)
		l := someFields(r, other)
		s := changed(r, string(bytesOf(other, l)))
		c := guard.Run(func() {
			told, e := wire.Encode(shape, l)
			again, f := wire.Encode(shape, l)
			if told != again || e != f || e != api.OK && told != "" {
				t.Errorf("Encode(%s, %v): %x, %d; %x, %d", shape, l, told, e, again, f)
			}
			if !isShape(shape) {
				unreadable(t, shape, s, 0, api.ErrShape)
				return
			}
			check(t, shape, s)
		})
		if c.Kind != api.CaughtNone {
			t.Fatalf("%s, %v, %x: panics: %v", shape, l, s, c)
		}
	}
}

// Ways: what is panicked with within is recovered there: a panic that is under way goes on.
func TestWithinAPanic(t *testing.T) {
	c := guard.Run(func() {
		defer func() {
			unreadable(t, "u", "\x80\x00", 0, api.ErrOver)
			refuses(t, "u", nil, api.ErrField)
			checkShape(t, "()")
		}()
		panic("x")
	})
	if c != (api.Caught{Kind: api.CaughtText, Text: "x"}) {
		t.Errorf("%v", c)
	}
}
