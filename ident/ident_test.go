package ident_test

import (
	"cmp"
	"hash/fnv"
	"math"
	"math/big"
	"math/rand/v2"
	"regexp"
	"slices"
	"strconv"
	"strings"
	"testing"

	"beacon/api"
	"beacon/ident"
)

const maxId = 1<<31 - 1

var (
	nameForm  = regexp.MustCompile(`\A[a-z](?:[a-z0-9-]{0,30}[a-z0-9])?\z`)
	wrongIds  = []int{0, -1, -17, maxId + 1, maxId + 2, 1 << 32, 1<<32 + 1, math.MaxInt, math.MinInt, math.MinInt + 1, -maxId}
	rightIds  = []int{1, 2, 9, 10, 17, 100, 1 << 16, 1 << 30, maxId - 1, maxId}
	wrongName = "wrong-"
)

func id(r *rand.Rand) int {
	if r.IntN(2) == 0 {
		return 1 + r.IntN(20)
	}
	return 1 + r.IntN(maxId)
}

// ids is n numbers, none of them twice.
func ids(r *rand.Rand, n int) []int {
	var l []int
	for len(l) < n {
		if k := id(r); !slices.Contains(l, k) {
			l = append(l, k)
		}
	}
	return l
}

func name(r *rand.Rand) string {
	const first, other, last = "abcdefghijklmnopqrstuvwxyz", "abcxyz0189-", "abcxyz0189"
	n := 1 + r.IntN(32)
	b := []byte{first[r.IntN(len(first))]}
	for len(b) < n {
		b = append(b, other[r.IntN(len(other))])
	}
	if n > 1 {
		b[n-1] = last[r.IntN(len(last))]
	}
	return string(b)
}

func names(r *rand.Rand, n int) []string {
	l := make([]string, n)
	for i := range l {
		l[i] = name(r)
	}
	return l
}

// sumOf, mixOf and scoreOf are built by other means than the program's.
func sumOf(s string) uint64 {
	h := fnv.New64a()
	h.Write([]byte(s))
	return h.Sum64()
}

func mixOf(x uint64) uint64 {
	two64 := new(big.Int).Lsh(big.NewInt(1), 64)
	step := func(x *big.Int, shift uint, times string) *big.Int {
		y := new(big.Int).Xor(x, new(big.Int).Rsh(x, shift))
		by, _ := new(big.Int).SetString(times, 10)
		return y.Mod(y.Mul(y, by), two64)
	}
	y := step(new(big.Int).SetUint64(x), 30, "13787848793156543929")
	z := step(y, 27, "10723151780598845931")
	return step(z, 31, "1").Uint64()
}

func scoreOf(id int, name string) uint64 { return mixOf(sumOf(name) ^ mixOf(uint64(id))) }

func orderOf(ids []int, name string) []int {
	l := slices.Clone(ids)
	slices.SortFunc(l, func(a, b int) int {
		return cmp.Or(cmp.Compare(scoreOf(b, name), scoreOf(a, name)), cmp.Compare(a, b))
	})
	return l
}

// Id1.
func TestCheckId(t *testing.T) {
	for _, k := range rightIds {
		if e := ident.CheckId(k); e != api.OK {
			t.Errorf("CheckId(%d): %d, not OK", k, e)
		}
	}
	for _, k := range wrongIds {
		if e := ident.CheckId(k); e != api.ErrId {
			t.Errorf("CheckId(%d): %d, not ErrId", k, e)
		}
	}
}

func checkName(t *testing.T, s string) {
	t.Helper()
	want := api.ErrName
	if nameForm.MatchString(s) {
		want = api.OK
	}
	if e := ident.CheckName(s); e != want {
		t.Errorf("CheckName(%q): %d, not %d", s, e, want)
	}
}

// Id1.
func TestCheckName(t *testing.T) {
	right := []string{"a", "z", "m", "a0", "z9", "a-b", "a--b", "a-0", "n17", "cc", strings.Repeat("z", 32), "a" + strings.Repeat("-", 30) + "0"}
	wrong := []string{"", "-", "--", "0", "9a", "-a", "a-", "a-b-", "A", "aB", "a b", " a", "a ", "a\n", "a\x00", "ä", "aä", "a\xff", "a_b", "a.b", "ａ", "а", "a٣", strings.Repeat("a", 33), strings.Repeat("a", 1<<16), "a" + strings.Repeat("-", 31), "a" + strings.Repeat("-", 31) + "0"}
	for _, s := range right {
		if e := ident.CheckName(s); e != api.OK {
			t.Errorf("CheckName(%q): %d, not OK", s, e)
		}
	}
	for _, s := range wrong {
		if e := ident.CheckName(s); e != api.ErrName {
			t.Errorf("CheckName(%.40q): %d, not ErrName", s, e)
		}
	}
	for b := range 256 {
		c := string([]byte{byte(b)})
		for _, s := range []string{c, c + "a", "a" + c, "a" + c + "a", c + c, strings.Repeat("a", 31) + c, strings.Repeat("a", 32) + c, strings.Repeat("b", 30) + c + "1"} {
			checkName(t, s)
		}
	}
	for n := range 40 {
		checkName(t, strings.Repeat("q", n))
	}
}

// Id1, Id6.
func TestTextAndParse(t *testing.T) {
	for _, k := range rightIds {
		want := "n" + strconv.Itoa(k)
		s, e := ident.Text(k)
		if s != want || e != api.OK {
			t.Errorf("Text(%d): %q, %d", k, s, e)
		}
		if back, e := ident.Parse(want); back != k || e != api.OK {
			t.Errorf("Parse(%q): %d, %d", want, back, e)
		}
	}
	for _, k := range wrongIds {
		if s, e := ident.Text(k); s != "" || e != api.ErrId {
			t.Errorf("Text(%d): %q, %d, not ErrId", k, s, e)
		}
	}
}

// Id1.
func TestParseOfNoText(t *testing.T) {
	wrong := []string{
		"", "n", "n0", "n00", "n07", "n007", "17", "N17", "nn17", "m17", "n 17", " n17", "n17 ", "n17\n", "n17\x00", "n+17", "n-17", "n--17", "n1_0", "n0x11", "n1e3", "n1.0", "n17n", "n１", "n٣", "nx", "n:", "n/", "n1:", "n1/", "-n1",
		"n2147483648", "n2147483649", "n3000000000", "n9999999999", "n4294967296", "n4294967297", "n02147483647", "n0000000001", "n10000000000",
		"n18446744073709551616", "n18446744073709551617", "n18446744073709551633", "n" + strings.Repeat("9", 100), "n1" + strings.Repeat("0", 1<<16),
	}
	for _, s := range wrong {
		if k, e := ident.Parse(s); k != 0 || e != api.ErrText {
			t.Errorf("Parse(%.40q): %d, %d, not ErrText", s, k, e)
		}
	}
	for b := range 256 {
		c := string([]byte{byte(b)})
		for _, s := range []string{c, c + "1", "n" + c, "n1" + c, "n" + c + "1"} {
			parseIsTextsOther(t, s)
		}
	}
}

// parseIsTextsOther: whatever Parse takes, Text writes it again.
func parseIsTextsOther(t *testing.T, s string) {
	t.Helper()
	k, e := ident.Parse(s)
	if e == api.OK {
		if back, f := ident.Text(k); back != s || f != api.OK {
			t.Errorf("Text of Parse(%q): %q, %d", s, back, f)
		}
		return
	}
	if k != 0 || e != api.ErrText {
		t.Errorf("Parse(%q): %d, %d, not ErrText", s, k, e)
	}
	if v, err := strconv.Atoi(strings.TrimPrefix(s, "n")); err == nil && ident.CheckId(v) == api.OK && s == "n"+strconv.Itoa(v) {
		t.Errorf("Parse(%q): %d", s, e)
	}
}

// Id6.
func TestTextAndParseAreEachOthersOther(t *testing.T) {
	r := rand.New(rand.NewPCG(1, 6))
	for range 2000 {
		k := id(r)
		s, e := ident.Text(k)
		if back, f := ident.Parse(s); e != api.OK || f != api.OK || back != k {
			t.Fatalf("Parse of Text(%d): %d, %d, %d", k, back, e, f)
		}
		parseIsTextsOther(t, "n"+strconv.FormatUint(r.Uint64N(1<<33), 10))
	}
}

// Id2.
func TestSum(t *testing.T) {
	if s := ident.Sum(""); s != 14695981039346656037 {
		t.Errorf("Sum of nothing: %d", s)
	}
	if s := ident.Sum("a"); s != 12638187200555641996 {
		t.Errorf("Sum of a: %d", s)
	}
	r := rand.New(rand.NewPCG(1, 2))
	for n := range 200 {
		b := make([]byte, n)
		for i := range b {
			b[i] = byte(r.Uint32())
		}
		if got, want := ident.Sum(string(b)), sumOf(string(b)); got != want {
			t.Errorf("Sum(%q): %d, not %d", b, got, want)
		}
	}
}

// Id2.
func TestMix(t *testing.T) {
	for _, x := range []struct{ x, want uint64 }{
		{0, 0}, {1, 6238072747940578789}, {2, 15839785061582574730}, {1 << 30, 3143522559155490559}, {1 << 63, 2720858781877447050}, {1<<64 - 1, 13029008266876403067}, {0x0123456789abcdef, 12880392674509918508},
	} {
		if got := ident.Mix(x.x); got != x.want {
			t.Errorf("Mix(%d): %d, not %d", x.x, got, x.want)
		}
	}
	r := rand.New(rand.NewPCG(2, 2))
	for i := range 64 {
		for _, x := range []uint64{1 << i, 1<<i - 1, r.Uint64(), r.Uint64() >> i} {
			if got, want := ident.Mix(x), mixOf(x); got != want {
				t.Errorf("Mix(%d): %d, not %d", x, got, want)
			}
		}
	}
}

// Id2.
func TestScore(t *testing.T) {
	for _, x := range []struct {
		id   int
		name string
		want uint64
	}{
		{1, "a", 2841994784060530217}, {2, "a", 16863095278060118146}, {3, "a", 18350418644738252722}, {17, "cc", 7233971617817134087}, {maxId, "z-9", 16948223966396740078}, {5, "abcdefghijklmnopqrstuvwxyz-01234", 14231841196693069500},
	} {
		if got, e := ident.Score(x.id, x.name); got != x.want || e != api.OK {
			t.Errorf("Score(%d, %q): %d, %d, not %d", x.id, x.name, got, e, x.want)
		}
	}
	r := rand.New(rand.NewPCG(3, 2))
	for range 300 {
		k, s := id(r), name(r)
		if got, e := ident.Score(k, s); got != scoreOf(k, s) || e != api.OK {
			t.Errorf("Score(%d, %q): %d, %d", k, s, got, e)
		}
	}
	for _, k := range wrongIds {
		if s, e := ident.Score(k, "a"); s != 0 || e != api.ErrId {
			t.Errorf("Score(%d, a): %d, %d, not ErrId", k, s, e)
		}
		if s, e := ident.Score(k, wrongName); s != 0 || e != api.ErrName {
			t.Errorf("Score(%d, %q): %d, %d, not ErrName", k, wrongName, s, e)
		}
	}
	if s, e := ident.Score(1, ""); s != 0 || e != api.ErrName {
		t.Errorf("Score(1, nothing): %d, %d, not ErrName", s, e)
	}
}

type wrongIdsAre struct {
	ids  []int
	want api.Errno
}

// wrongLists is lists that no draw may be made of: one that is no number goes ahead of twins.
func wrongLists() []wrongIdsAre {
	l := []wrongIdsAre{
		{[]int{1, 1}, api.ErrTwice}, {[]int{1, 2, 1}, api.ErrTwice}, {[]int{3, 1, 2, 3}, api.ErrTwice}, {[]int{maxId, 5, maxId}, api.ErrTwice}, {[]int{2, 2, 2}, api.ErrTwice}, {[]int{4, 3, 2, 2}, api.ErrTwice},
		{[]int{1, 1, 0}, api.ErrId}, {[]int{0, 1, 1}, api.ErrId}, {[]int{0, 0}, api.ErrId}, {[]int{5, 5, -5, -5}, api.ErrId},
	}
	for _, k := range wrongIds {
		l = append(l, wrongIdsAre{[]int{k}, api.ErrId}, wrongIdsAre{[]int{1, k, 2}, api.ErrId}, wrongIdsAre{[]int{7, 7, k}, api.ErrId})
	}
	return l
}

// Id3.
func TestDrawAndOrderRefuse(t *testing.T) {
	for _, x := range wrongLists() {
		if k, e := ident.Draw(x.ids, "a"); k != 0 || e != x.want {
			t.Errorf("Draw(%v): %d, %d, not %d", x.ids, k, e, x.want)
		}
		if l, e := ident.Order(x.ids, "a"); len(l) != 0 || e != x.want {
			t.Errorf("Order(%v): %v, %d, not %d", x.ids, l, e, x.want)
		}
		for _, s := range []string{wrongName, ""} {
			if k, e := ident.Draw(x.ids, s); k != 0 || e != api.ErrName {
				t.Errorf("Draw(%v, %q): %d, %d, not ErrName", x.ids, s, k, e)
			}
			if l, e := ident.Order(x.ids, s); len(l) != 0 || e != api.ErrName {
				t.Errorf("Order(%v, %q): %v, %d, not ErrName", x.ids, s, l, e)
			}
		}
	}
}

// Id3.
func TestDrawAndOrderOfNone(t *testing.T) {
	for _, none := range [][]int{nil, {}} {
		if k, e := ident.Draw(none, "a"); k != 0 || e != api.ErrNone {
			t.Errorf("Draw of none: %d, %d, not ErrNone", k, e)
		}
		if k, e := ident.Draw(none, "A"); k != 0 || e != api.ErrName {
			t.Errorf("Draw of none for A: %d, %d, not ErrName", k, e)
		}
		if l, e := ident.Order(none, "a"); len(l) != 0 || e != api.OK {
			t.Errorf("Order of none: %v, %d", l, e)
		}
		if l, e := ident.Order(none, "A"); len(l) != 0 || e != api.ErrName {
			t.Errorf("Order of none for A: %v, %d, not ErrName", l, e)
		}
	}
}

// Id3.
func TestOrder(t *testing.T) {
	for _, x := range []struct {
		name string
		want []int
	}{
		{"a", []int{3, 4, 2, 5, 1}}, {"b", []int{4, 5, 2, 1, 3}}, {"c", []int{4, 1, 5, 3, 2}}, {"d", []int{1, 5, 3, 2, 4}}, {"e", []int{4, 2, 5, 1, 3}}, {"f", []int{4, 2, 3, 1, 5}},
	} {
		l, e := ident.Order([]int{1, 2, 3, 4, 5}, x.name)
		if !slices.Equal(l, x.want) || e != api.OK {
			t.Errorf("Order for %s: %v, %d, not %v", x.name, l, e, x.want)
		}
		k, e := ident.Draw([]int{5, 4, 3, 2, 1}, x.name)
		if k != x.want[0] || e != api.OK {
			t.Errorf("Draw for %s: %d, %d, not %d", x.name, k, e, x.want[0])
		}
	}
}

// Id3, Id5: the order in which they are handed in is all the same; without the first one the next one is drawn.
func TestDrawIsTheFirstOfOrder(t *testing.T) {
	r := rand.New(rand.NewPCG(1, 5))
	for n := 1; n < 60; n++ {
		l, s := ids(r, n), name(r)
		want := orderOf(l, s)
		got, e := ident.Order(l, s)
		if !slices.Equal(got, want) || e != api.OK {
			t.Fatalf("Order(%v, %q): %v, %d, not %v", l, s, got, e, want)
		}
		r.Shuffle(n, func(i, k int) { l[i], l[k] = l[k], l[i] })
		if got, e := ident.Order(l, s); !slices.Equal(got, want) || e != api.OK {
			t.Fatalf("Order(%v, %q): %v, %d, not %v", l, s, got, e, want)
		}
		for i := range want {
			if k, e := ident.Draw(want[i:], s); k != want[i] || e != api.OK {
				t.Fatalf("Draw(%v, %q): %d, %d", want[i:], s, k, e)
			}
		}
	}
}

// Id3: each keeps about as many as the others.
func TestDrawIsSpread(t *testing.T) {
	r := rand.New(rand.NewPCG(2, 5))
	kept := map[int]int{}
	for range 4000 {
		k, _ := ident.Draw([]int{1, 2, 3, 4}, name(r))
		kept[k]++
	}
	for k := 1; k <= 4; k++ {
		if kept[k] < 800 || kept[k] > 1200 {
			t.Errorf("%d keeps %d of 4000", k, kept[k])
		}
	}
}

func movesOf(before, after []int, names []string) []string {
	var l []string
	for _, s := range names {
		if orderOf(before, s)[0] != orderOf(after, s)[0] {
			l = append(l, s)
		}
	}
	return l
}

// Id4.
func TestMoves(t *testing.T) {
	r := rand.New(rand.NewPCG(1, 4))
	for range 100 {
		before, after, l := ids(r, 1+r.IntN(12)), ids(r, 1+r.IntN(12)), names(r, r.IntN(30))
		l = append(l, l...)
		r.Shuffle(len(l), func(i, k int) { l[i], l[k] = l[k], l[i] })
		got, e := ident.Moves(before, after, l)
		if want := movesOf(before, after, l); !slices.Equal(got, want) || e != api.OK {
			t.Fatalf("Moves(%v, %v, %q): %q, %d, not %q", before, after, l, got, e, want)
		}
	}
	l := []string{"a", "b", "c", "d", "e", "f", "b", "a"}
	got, e := ident.Moves([]int{1, 2, 3, 4, 5}, []int{3, 5, 2, 1}, l)
	if want := []string{"b", "c", "e", "f", "b"}; !slices.Equal(got, want) || e != api.OK {
		t.Errorf("Moves: %q, %d, not %q", got, e, want)
	}
	if got, e := ident.Moves([]int{1, 2, 3}, []int{3, 1, 2}, l); len(got) != 0 || e != api.OK {
		t.Errorf("Moves to the same: %q, %d", got, e)
	}
}

// Id4: the third example: what moves is what 2 kept.
func TestMovesOfOneThatGoes(t *testing.T) {
	r := rand.New(rand.NewPCG(2, 4))
	l := names(r, 200)
	var want []string
	for _, s := range l {
		if k, _ := ident.Draw([]int{1, 2, 3}, s); k == 2 {
			want = append(want, s)
		}
	}
	got, e := ident.Moves([]int{1, 2, 3}, []int{1, 3}, l)
	if !slices.Equal(got, want) || e != api.OK || len(want) < 20 {
		t.Errorf("Moves: %q, %d, not %q", got, e, want)
	}
}

// Id4: ErrName, then what is wrong with before, then with after, then ErrNone.
func TestMovesRefuses(t *testing.T) {
	good := []string{"a"}
	for _, x := range []struct {
		before, after []int
		names         []string
		want          api.Errno
	}{
		{[]int{1}, []int{2}, []string{wrongName}, api.ErrName},
		{[]int{1}, []int{2}, []string{"a", ""}, api.ErrName},
		{[]int{1}, []int{2}, []string{"", "a"}, api.ErrName},
		{[]int{0}, []int{1, 1}, []string{"a", "B"}, api.ErrName},
		{[]int{1, 1}, []int{0}, []string{"a", "B"}, api.ErrName},
		{nil, nil, []string{"a", "B"}, api.ErrName},
		{[]int{1, 1, 0}, []int{2}, good, api.ErrId},
		{[]int{1, 1}, []int{2}, good, api.ErrTwice},
		{[]int{1, 1}, []int{0}, good, api.ErrTwice},
		{[]int{0}, []int{1, 1}, good, api.ErrId},
		{[]int{1}, []int{1, 1}, good, api.ErrTwice},
		{[]int{1}, []int{1, 1, maxId + 1}, good, api.ErrId},
		{nil, []int{1, 1}, good, api.ErrTwice},
		{nil, []int{0}, good, api.ErrId},
		{[]int{1, 1}, nil, good, api.ErrTwice},
		{[]int{0}, nil, good, api.ErrId},
		{nil, []int{1}, good, api.ErrNone},
		{[]int{1}, nil, good, api.ErrNone},
		{nil, nil, good, api.ErrNone},
		{[]int{}, []int{}, good, api.ErrNone},
		{[]int{0}, []int{1}, nil, api.ErrId},
		{[]int{1}, []int{0}, nil, api.ErrId},
		{[]int{2, 2}, []int{1}, nil, api.ErrTwice},
		{nil, []int{2, 2}, nil, api.ErrTwice},
		{nil, nil, nil, api.OK},
		{nil, []int{1}, []string{}, api.OK},
		{[]int{1}, nil, nil, api.OK},
		{[]int{1}, []int{2}, nil, api.OK},
	} {
		if got, e := ident.Moves(x.before, x.after, x.names); len(got) != 0 || e != x.want {
			t.Errorf("Moves(%v, %v, %q): %q, %d, not %d", x.before, x.after, x.names, got, e, x.want)
		}
	}
}

func drawn(t *testing.T, ids []int, name string) int {
	t.Helper()
	k, e := ident.Draw(ids, name)
	if e != api.OK {
		t.Fatalf("Draw(%v, %q): %d", ids, name, e)
	}
	return k
}

// Id5: few move, and only to those that come, or from those that go.
func TestFewMove(t *testing.T) {
	r := rand.New(rand.NewPCG(3, 5))
	for range 50 {
		all := ids(r, 2+r.IntN(10))
		few := all[:1+r.IntN(len(all)-1)]
		l := names(r, 40)
		come, e := ident.Moves(few, all, l)
		if e != api.OK {
			t.Fatal(e)
		}
		for _, s := range come {
			if slices.Contains(few, drawn(t, all, s)) {
				t.Errorf("%s moves to an old one of %v, %v", s, few, all)
			}
		}
		leave, e := ident.Moves(all, few, l)
		if !slices.Equal(leave, come) || e != api.OK {
			t.Errorf("Moves back: %q, not %q", leave, come)
		}
		for _, s := range leave {
			if slices.Contains(few, drawn(t, all, s)) {
				t.Errorf("%s moves from one that stays of %v, %v", s, few, all)
			}
		}
	}
}

// R3: nothing handed in is changed, nor what lies behind a list's end; an answer is new memory.
func TestListsAreLeftAlone(t *testing.T) {
	room := []int{5, 3, 4, 1, 2, 77, 76}
	given := room[:5]
	text := []string{"c", "b", "a", "zz"}
	one, _ := ident.Order(given, "a")
	two, _ := ident.Order(given, "a")
	moves, _ := ident.Moves(given, given[:2], text[:3])
	drawn(t, given, "b")
	one, moves = one[:cap(one)], moves[:cap(moves)]
	for i := range one {
		one[i] = -9
	}
	for i := range moves {
		moves[i] = "x"
	}
	if !slices.Equal(room, []int{5, 3, 4, 1, 2, 77, 76}) || !slices.Equal(text, []string{"c", "b", "a", "zz"}) {
		t.Errorf("changed: %v, %q", room, text)
	}
	if !slices.Equal(two, []int{3, 4, 2, 5, 1}) {
		t.Errorf("two answers share memory: %v", two)
	}
	if again, _ := ident.Order(given, "a"); !slices.Equal(again, two) {
		t.Errorf("Order again: %v, not %v", again, two)
	}
}

// R1: long lists come to their end soon.
func TestLongLists(t *testing.T) {
	l := make([]int, 1<<18)
	for i := range l {
		l[i] = maxId - i
	}
	order, e := ident.Order(l, "long")
	if first := drawn(t, l, "long"); e != api.OK || len(order) != len(l) || order[0] != first {
		t.Errorf("Order of %d: %d of them, %d", len(l), len(order), e)
	}
	l[0] = l[len(l)-1]
	if _, e := ident.Draw(l, "long"); e != api.ErrTwice {
		t.Errorf("Draw of twins far from each other: %d, not ErrTwice", e)
	}
}
