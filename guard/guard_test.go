package guard_test

import (
	"errors"
	"fmt"
	"math"
	"math/rand/v2"
	"runtime"
	"slices"
	"strings"
	"testing"

	"beacon/api"
	"beacon/guard"
)

// Errors of many kinds.

type plain struct{ text string }

func (p plain) Error() string { return p.text }

// wrap has one error within.
type wrap struct {
	text  string
	inner error
}

func (w *wrap) Error() string { return w.text }
func (w *wrap) Unwrap() error { return w.inner }

// many has several errors within.
type many []error

func (m many) Error() string   { return fmt.Sprint("many ", len(m)) }
func (m many) Unwrap() []error { return m }

// posing says by As what it is; within it is an Errno.
type posing struct {
	fault *api.Fault
	code  api.Errno
}

func (p posing) Error() string { return "posing" }
func (p posing) Unwrap() error { return p.code }
func (p posing) As(target any) bool {
	f, ok := target.(**api.Fault)
	if ok {
		*f = p.fault
	}
	return ok
}

// lying sets what it is asked for, and then says that it did not.
type lying struct{}

func (lying) Error() string { return "lying" }
func (lying) As(target any) bool {
	switch x := target.(type) {
	case **api.Fault:
		*x = &api.Fault{Code: 5, Place: 5}
	case *api.Errno:
		*x = 5
	}
	return false
}

// bad panics in As.
type bad struct{}

func (bad) Error() string { return "bad" }
func (b bad) As(any) bool { panic(b) }

// machine is an error as those of the runtime are, with a Fault within.
type machine struct{ inner error }

func (m machine) Error() string { return "machine" }
func (m machine) RuntimeError() {}
func (m machine) Unwrap() error { return m.inner }

// pointed is one of the runtime's if it is a pointer, which may be nil.
type pointed struct{ text string }

func (p *pointed) Error() string { return p.text }
func (p *pointed) RuntimeError() {}

// other has the runtime's method, and is no error.
type other struct{}

func (other) RuntimeError() {}

// odd is an error whose method RuntimeError is another one.
type odd struct{}

func (odd) Error() string       { return "odd" }
func (odd) RuntimeError() error { return nil }

// word is no string, though it is made as one.
type word string

// told is an error that is made as a string is.
type told string

func (t told) Error() string { return "told " + string(t) }

var (
	nilFault *api.Fault
	nilWrap  *wrap
	nilPlain *plain
	nilErrno *api.Errno
)

func fault(code api.Errno, place int) *api.Fault { return &api.Fault{Code: code, Place: place} }

func text(s string) api.Caught { return api.Caught{Kind: api.CaughtText, Text: s} }

func failed(s string) api.Caught { return api.Caught{Kind: api.CaughtError, Text: s} }

func errno(code api.Errno) api.Caught { return api.Caught{Kind: api.CaughtErrno, Code: code} }

func atFault(code api.Errno, place int) api.Caught {
	return api.Caught{Kind: api.CaughtFault, Code: code, Place: place}
}

var (
	none     = api.Caught{}
	atOther  = api.Caught{Kind: api.CaughtOther}
	ofMaking = api.Caught{Kind: api.CaughtRuntime}
)

type said struct {
	name  string
	value any
	want  api.Caught
}

// sayings are values to panic with, and what is made of them.
func sayings() []said {
	code := api.ErrNode
	return []said{
		{"a text", "x", text("x")},
		{"an empty text", "", text("")},
		{"a text of odd bytes", "a\x00\xff\n", text("a\x00\xff\n")},
		{"a text that is made of one", word("x"), atOther},
		{"bytes", []byte("x"), atOther},
		{"a number", 5, atOther},
		{"nought", 0, atOther},
		{"NaN", math.NaN(), atOther},
		{"a truth", true, atOther},
		{"a struct", struct{ Text string }{"x"}, atOther},
		{"a list", []int{1}, atOther},
		{"a map", map[int]int{}, atOther},
		{"a function", func() {}, atOther},
		{"a pointer", new(int), atOther},
		{"what was caught", api.Caught{Kind: api.CaughtText, Text: "x"}, atOther},
		{"a Fault as a value", api.Fault{Code: 3, Place: 4}, atOther},

		{"an Errno", api.ErrNode, errno(api.ErrNode)},
		{"OK", api.OK, errno(api.OK)},
		{"an Errno below 0", api.Errno(-7), errno(-7)},
		{"the least Errno", api.Errno(math.MinInt), errno(math.MinInt)},
		{"an Errno within", &wrap{"w", api.ErrLink}, errno(api.ErrLink)},
		{"an Errno far within", &wrap{"w", &wrap{"v", fmt.Errorf("u %w", api.ErrLink)}}, errno(api.ErrLink)},
		{"two Errnos", errors.Join(api.ErrLink, api.ErrNode), errno(api.ErrLink)},
		{"two Errnos within", many{plain{"p"}, &wrap{"w", api.ErrTwice}, api.ErrNode}, errno(api.ErrTwice)},
		{"nil errors ahead of an Errno", many{nil, nil, api.ErrTwice}, errno(api.ErrTwice)},
		{"a pointer to an Errno", &code, failed("beacon error")},

		{"a Fault", fault(3, 4), atFault(3, 4)},
		{"a Fault of nothing", fault(0, 0), atFault(0, 0)},
		{"a Fault below 0", fault(-1, -2), atFault(-1, -2)},
		{"a Fault with an error within", &api.Fault{Code: api.ErrLink, Place: 3, Inner: plain{"p"}}, atFault(api.ErrLink, 3)},
		{"a Fault with an Errno within", &api.Fault{Code: 7, Place: 8, Inner: api.ErrNode}, atFault(7, 8)},
		{"a Fault with a Fault within", &api.Fault{Code: 7, Place: 8, Inner: fault(1, 2)}, atFault(7, 8)},
		{"a Fault with the runtime's within", &api.Fault{Code: 7, Inner: machine{}}, atFault(7, 0)},
		{"a Fault within", fmt.Errorf("u %w", &wrap{"w", fault(3, 4)}), atFault(3, 4)},
		{"two Faults", errors.Join(fault(3, 4), fault(5, 6)), atFault(3, 4)},
		{"two Faults, the deeper first", errors.Join(&wrap{"w", fault(3, 4)}, fault(5, 6)), atFault(3, 4)},
		{"an Errno ahead of a Fault", errors.Join(api.ErrNode, fault(3, 4)), atFault(3, 4)},
		{"a Fault ahead of an Errno", errors.Join(fault(3, 4), api.ErrNode), atFault(3, 4)},

		{"a nil Fault", nilFault, atOther},
		{"a nil Fault within", &wrap{"w", nilFault}, failed("w")},
		{"a nil Fault alone in many", many{nilFault}, failed("many 1")},
		{"a nil Fault ahead of one", many{nilFault, fault(3, 4)}, atFault(3, 4)},
		{"a Fault ahead of a nil one", many{fault(3, 4), nilFault}, atFault(3, 4)},
		{"a nil Fault ahead of deeper ones", many{&wrap{"w", nilFault}, nil, many{}, many{plain{"p"}, nilFault}, &wrap{"v", many{fault(3, 4), fault(5, 6)}}, fault(7, 8)}, atFault(3, 4)},
		{"a nil Fault ahead of an Errno", many{nilFault, api.ErrNode}, errno(api.ErrNode)},
		{"a nil Fault with errors about", many{plain{"p"}, nilFault, &wrap{"w", nil}}, failed("many 3")},

		{"one that says it is a Fault", posing{fault(3, 4), 9}, atFault(3, 4)},
		{"one that says it is a nil Fault", posing{nil, 9}, errno(9)},
		{"one that says it is a nil Fault, ahead of one", many{posing{nil, 9}, fault(3, 4)}, atFault(3, 4)},
		{"one that says it is a Fault, behind a nil one", many{nilFault, posing{fault(3, 4), 9}}, atFault(3, 4)},
		{"one that sets, and says no", lying{}, failed("lying")},
		{"one that sets, and says no, ahead of a nil Fault", many{lying{}, nilFault}, failed("many 2")},
		{"one whose As panics", bad{}, failed("bad")},
		{"one whose As panics, within", &wrap{"w", bad{}}, failed("w")},
		{"one whose As panics, behind a nil Fault", many{nilFault, bad{}}, failed("many 2")},

		{"an error", errors.New("e"), failed("e")},
		{"an error without a text", errors.New(""), failed("")},
		{"an error that is no pointer", plain{"p"}, failed("p")},
		{"an error that is made of a text", told("t"), failed("told t")},
		{"an error with another one within", &wrap{"w", plain{"p"}}, failed("w")},
		{"errors", errors.Join(plain{"p"}, plain{"q"}), failed("p\nq")},
		{"no errors", many{}, failed("many 0")},
		{"errors that are nil", many(nil), failed("many 0")},
		{"an error with another method RuntimeError", odd{}, failed("odd")},
		{"a nil pointer with its value's Error", nilPlain, atOther},
		{"a nil pointer whose methods read it", nilWrap, atOther},
		{"a nil pointer to an Errno", nilErrno, atOther},

		{"one like the runtime's", machine{}, ofMaking},
		{"one like the runtime's, a Fault within", machine{fault(3, 4)}, ofMaking},
		{"one like the runtime's, a pointer", &pointed{"p"}, ofMaking},
		{"one like the runtime's, a nil pointer", (*pointed)(nil), ofMaking},
		{"one like the runtime's, within", &wrap{"w", machine{}}, failed("w")},
		{"one like the runtime's within, with an Errno", &wrap{"w", machine{api.ErrNode}}, errno(api.ErrNode)},
		{"no error, with the runtime's method", other{}, atOther},
		{"nothing", nil, ofMaking},
	}
}

func panics(value any) func() { return func() { panic(value) } }

// ended is what a call panicked with, and whether it did.
func ended(f func()) (value any, panicked bool) {
	panicked = true
	defer func() {
		if panicked {
			value = recover()
		}
	}()
	f()
	panicked = false
	return nil, false
}

// Gd1, the table: what a value that is panicked with is caught as.
func TestRunOfValues(t *testing.T) {
	for _, x := range sayings() {
		if c := guard.Run(panics(x.value)); c != x.want {
			t.Errorf("%s: %+v, want %+v", x.name, c, x.want)
		}
	}
}

// Gd1: what Go's runtime panics with.
func TestRunOfRuntime(t *testing.T) {
	var (
		list  = []int{1, 2, 3}
		five  = 5
		null  int
		table map[string]int
		point *said
		value any = "x"
		empty any
		call  func()
		ends  = make(chan int)
		face  fmt.Stringer
	)
	close(ends)
	for _, x := range []struct {
		name string
		f    func()
	}{
		{"an index", func() { list[five]++ }},
		{"an index below 0", func() { list[null-1]++ }},
		{"a part of a list", func() { list = list[five:] }},
		{"a nil map", func() { table["x"] = 1 }},
		{"a division", func() { five = five / null }},
		{"a rest", func() { five = five % null }},
		{"an assertion", func() { five = value.(int) }},
		{"an assertion to an interface", func() { face = value.(fmt.Stringer) }},
		{"an assertion of nothing", func() { five = empty.(int) }},
		{"a nil pointer", func() { point.name = "x" }},
		{"a nil function", func() { call() }},
		{"a nil interface", func() { _ = face.String() }},
		{"a channel that is closed twice", func() { close(ends) }},
		{"a list that is too long", func() { list = make([]int, null-1) }},
		{"an array of a list", func() { five = [4]int(list)[0] }},
		{"keys that can't be compared", func() { value = map[any]int{any(list): 1} }},
		{"panic(nil)", func() { panic(nil) }},
	} {
		if c := guard.Run(x.f); c != ofMaking {
			t.Errorf("%s: %+v, want CaughtRuntime", x.name, c)
		}
	}
}

// Gd1: f is called once; of none nothing is; a call that comes to its end is caught as none.
func TestRunOfCalls(t *testing.T) {
	n := 0
	if c := guard.Run(func() { n++ }); c != none || n != 1 {
		t.Errorf("Run = %+v, called %d times", c, n)
	}
	if c := guard.Run(func() { n++; panic("x") }); c != text("x") || n != 2 {
		t.Errorf("Run = %+v, called %d times", c, n)
	}
	if c := guard.Run(nil); c != none {
		t.Errorf("Run(nil) = %+v", c)
	}
	own := func() {
		defer func() { recover() }()
		panic("x")
	}
	if c := guard.Run(own); c != none {
		t.Errorf("Run of what recovers itself = %+v", c)
	}
	again := func() {
		defer func() { panic("b") }()
		panic("a")
	}
	if c := guard.Run(again); c != text("b") {
		t.Errorf("Run of what panics twice = %+v", c)
	}
}

// Gd1: nothing is left of a panic that was caught, and one that goes on about Run is none of its own.
func TestRunLeavesNothing(t *testing.T) {
	value, panicked := ended(func() {
		guard.Run(panics("x"))
		if v := recover(); v != nil {
			t.Errorf("left: %v", v)
		}
	})
	if panicked {
		t.Errorf("goes on: %v", value)
	}
	for _, f := range []func(){nil, func() {}, panics("inner")} {
		value, panicked = ended(func() {
			defer func() { guard.Run(f) }()
			panic("outer")
		})
		if !panicked || value != "outer" {
			t.Errorf("Run about a panic: %v, %v; want outer", value, panicked)
		}
		var c api.Caught
		value, panicked = ended(func() {
			defer guard.Run(f)
			defer func() { c = guard.Run(f) }()
			panic("outer")
		})
		if want := guard.Run(f); !panicked || value != "outer" || c != want {
			t.Errorf("Run put off: %v, %v, %+v; want outer, %+v", value, panicked, c, want)
		}
	}
}

// R1: chains that are long, or deep, are gone through; nil Faults do not make that slow.
func TestRunOfLongChains(t *testing.T) {
	for _, x := range []struct {
		last error
		want api.Caught
	}{
		{fault(3, 4), atFault(3, 4)},
		{api.ErrNode, errno(api.ErrNode)},
		{nilFault, failed("w")},
		{many{nilFault, api.ErrNode}, errno(api.ErrNode)},
		{many{nilFault, fault(3, 4)}, atFault(3, 4)},
	} {
		long, deep := x.last, x.last
		for range 300000 {
			long = &wrap{"w", long}
		}
		for range 20000 {
			deep = many{nil, deep}
		}
		deep = &wrap{"w", deep}
		if c := guard.Run(panics(long)); c != x.want {
			t.Errorf("long: %+v, want %+v", c, x.want)
		}
		if c := guard.Run(panics(deep)); c != x.want {
			t.Errorf("deep: %+v, want %+v", c, x.want)
		}
	}
}

// tree is an error of many within, and the errors of its chain, in the order of errors.As.
func tree(r *rand.Rand, deep int) (error, []error) {
	leaves := []error{nilFault, fault(api.Errno(r.IntN(9)), r.IntN(9)), api.Errno(r.IntN(9)), plain{"p"}, machine{}}
	switch kind := r.IntN(9); {
	case deep == 0 || kind < 3:
		e := leaves[r.IntN(len(leaves))]
		return e, []error{e}
	case kind < 5:
		inner, chain := tree(r, deep-1)
		e := &wrap{"w", inner}
		return e, append([]error{e}, chain...)
	case kind < 6:
		inner, chain := tree(r, deep-1)
		e := &api.Fault{Code: 77, Place: 7, Inner: inner}
		return e, append([]error{e}, chain...)
	}
	m := many{}
	var chain []error
	for range r.IntN(4) {
		inner, within := tree(r, deep-1)
		m, chain = append(m, inner), append(chain, within...)
	}
	return m, append([]error{m}, chain...)
}

// ofChain is what the table says of an error and its chain, gone through one by one.
func ofChain(chain []error) api.Caught {
	if _, ok := chain[0].(runtime.Error); ok {
		return ofMaking
	}
	for _, e := range chain {
		if f, ok := e.(*api.Fault); ok && f != nil {
			return atFault(f.Code, f.Place)
		}
	}
	for _, e := range chain {
		if n, ok := e.(api.Errno); ok {
			return errno(n)
		}
	}
	if chain[0] == error(nilFault) {
		return atOther
	}
	return failed(chain[0].Error())
}

// Gd1: errors of many shapes, against their chains written out.
func TestRunOfTrees(t *testing.T) {
	r := rand.New(rand.NewPCG(1, 2))
	for range 20000 {
		e, chain := tree(r, 5)
		if c, want := guard.Run(panics(e)), ofChain(chain); c != want {
			t.Fatalf("%#v: %+v, want %+v", e, c, want)
		}
	}
}

// Gd1: Must panics with the Errno itself, but of OK not.
func TestMust(t *testing.T) {
	if v, panicked := ended(func() { guard.Must(api.OK) }); panicked {
		t.Errorf("Must(OK) panics with %v", v)
	}
	for _, e := range []api.Errno{1, api.ErrArg, api.ErrNode, -1, 9999, math.MaxInt, math.MinInt} {
		if v, panicked := ended(func() { guard.Must(e) }); !panicked || v != any(e) {
			t.Errorf("Must(%d): %#v, %v", int(e), v, panicked)
		}
		if c := guard.Run(func() { guard.Must(e) }); c != errno(e) {
			t.Errorf("Run of Must(%d) = %+v", int(e), c)
		}
	}
}

// Gd1: Check panics with a Fault of these, a new one each time, but where it is ok not.
func TestCheck(t *testing.T) {
	var last *api.Fault
	for _, code := range []api.Errno{api.OK, api.ErrArg, api.ErrLink, -1, math.MinInt} {
		for _, place := range []int{0, 1, -1, math.MaxInt, math.MinInt} {
			if v, panicked := ended(func() { guard.Check(true, code, place) }); panicked {
				t.Errorf("Check(true, %d, %d) panics with %v", int(code), place, v)
			}
			v, _ := ended(func() { guard.Check(false, code, place) })
			f, ok := v.(*api.Fault)
			if !ok || f == nil || *f != (api.Fault{Code: code, Place: place}) || f == last {
				t.Errorf("Check(false, %d, %d): %#v", int(code), place, v)
			}
			last = f
			if c := guard.Run(func() { guard.Check(false, code, place) }); c != atFault(code, place) {
				t.Errorf("Run of Check(false, %d, %d) = %+v", int(code), place, c)
			}
		}
	}
}

// tryOf asks Try for a value of some type: as it is told, and where it panics behind it.
func tryOf[T comparable](t *testing.T, value T) {
	t.Helper()
	var zero T
	n := 0
	if got, c := guard.Try(func() T { n++; return value }); got != value || c != none || n != 1 {
		t.Errorf("Try = %v, %+v, called %d times; want %v", got, c, n, value)
	}
	late := func() (told T) {
		told = value
		panic("x")
	}
	if got, c := guard.Try(late); got != zero || c != text("x") {
		t.Errorf("Try of a panic = %v, %+v", got, c)
	}
	saved := func() (told T) {
		defer func() { recover() }()
		told = value
		panic("x")
	}
	if got, c := guard.Try(saved); got != value || c != none {
		t.Errorf("Try of what recovers itself = %v, %+v; want %v", got, c, value)
	}
	if got, c := guard.Try[T](nil); got != zero || c != none {
		t.Errorf("Try(nil) = %v, %+v", got, c)
	}
}

// Gd1: Try is for results of all types.
func TestTry(t *testing.T) {
	tryOf(t, 7)
	tryOf(t, "x")
	tryOf(t, 1.5)
	tryOf(t, api.ErrNode)
	tryOf(t, fault(1, 2))
	tryOf(t, [2]int{1, 2})
	tryOf[error](t, api.ErrNode)
	tryOf[any](t, 5)
	for _, x := range sayings() {
		if n, c := guard.Try(func() int { panic(x.value) }); n != 0 || c != x.want {
			t.Errorf("Try of %s = %d, %+v, want 0, %+v", x.name, n, c, x.want)
		}
	}
	list := []int{1, 2}
	if l, c := guard.Try(func() []int { return list }); c != none || &l[0] != &list[0] {
		t.Errorf("Try = %v, %+v: what f tells is told", l, c)
	}
	if l, c := guard.Try(func() []int { return append(list, list[2]) }); c != ofMaking || l != nil {
		t.Errorf("Try = %v, %+v", l, c)
	}
}

// plan is functions that come to their end (two of so many), panic, or are none; what each ends with; and what was called, in order.
func plan(r *rand.Rand, n, of int) (l []func(), ends []api.Caught, called *[]int) {
	called = new([]int)
	all := sayings()
	for i := range n {
		switch r.IntN(of) {
		case 0:
			l, ends = append(l, nil), append(ends, none)
		case 1:
			l, ends = append(l, func() { *called = append(*called, i) }), append(ends, none)
		default:
			x := all[r.IntN(len(all))]
			l = append(l, func() { *called = append(*called, i); panic(x.value) })
			ends = append(ends, x.want)
		}
	}
	return l, ends, called
}

// notNil is the places of those that are no nil functions.
func notNil(l []func()) []int {
	var places []int
	for i, f := range l {
		if f != nil {
			places = append(places, i)
		}
	}
	return places
}

// Gd2: All calls each, in order, whatever the others ended with.
func TestAll(t *testing.T) {
	for _, l := range [][]func(){nil, {}} {
		if ends := guard.All(l); len(ends) != 0 {
			t.Errorf("All of none = %v", ends)
		}
	}
	r := rand.New(rand.NewPCG(3, 4))
	for range 2000 {
		l, ends, called := plan(r, r.IntN(8), 4)
		places := notNil(l)
		if got := guard.All(l); !slices.Equal(got, ends) {
			t.Fatalf("All = %+v, want %+v", got, ends)
		}
		if !slices.Equal(*called, places) {
			t.Fatalf("called %v, want %v", *called, places)
		}
		if !slices.Equal(notNil(l), places) {
			t.Fatalf("the list was changed")
		}
	}
	if l := guard.All(make([]func(), 1000000)); len(l) != 1000000 || slices.ContainsFunc(l, func(c api.Caught) bool { return c != none }) {
		t.Errorf("All of many: %d", len(l))
	}
}

// Gd2: First calls up to the first that comes to its end.
func TestFirst(t *testing.T) {
	for _, l := range [][]func(){nil, {}} {
		if at, ends := guard.First(l); at != -1 || len(ends) != 0 {
			t.Errorf("First of none = %d, %v", at, ends)
		}
	}
	if at, ends := guard.First([]func(){nil, panics("x")}); at != 0 || len(ends) != 0 {
		t.Errorf("First of a nil function = %d, %v", at, ends)
	}
	if at, ends := guard.First([]func(){panics("x"), panics(api.OK)}); at != -1 || !slices.Equal(ends, []api.Caught{text("x"), errno(0)}) {
		t.Errorf("First of panics = %d, %v", at, ends)
	}
	r := rand.New(rand.NewPCG(5, 6))
	for range 2000 {
		l, ends, called := plan(r, r.IntN(8), 10)
		places := notNil(l)
		want, ahead, reached := slices.Index(ends, none), ends, len(l)
		if want >= 0 {
			ahead, reached = ends[:want], want+1
		}
		at, got := guard.First(l)
		if at != want || !slices.Equal(got, ahead) {
			t.Fatalf("First = %d, %+v, want %d, %+v", at, got, want, ahead)
		}
		if !slices.Equal(*called, notNil(l[:reached])) {
			t.Fatalf("called %v of %v up to %d", *called, places, reached)
		}
		if !slices.Equal(notNil(l), places) {
			t.Fatalf("the list was changed")
		}
	}
	long := make([]func(), 100000)
	for i := range long {
		long[i] = panics(i)
	}
	if at, ends := guard.First(long); at != -1 || len(ends) != len(long) {
		t.Errorf("First of many = %d, %d ends", at, len(ends))
	}
}

// allKinds is each kind that a call may end with, but CaughtNone.
func allKinds() []int {
	return []int{api.CaughtErrno, api.CaughtFault, api.CaughtError, api.CaughtRuntime, api.CaughtText, api.CaughtOther}
}

// same is whether two values that were panicked with are the same one; those that can't be compared are held by their texts.
func same(a, b any) (is bool) {
	defer func() {
		if recover() != nil {
			is = fmt.Sprintf("%#v", a) == fmt.Sprintf("%#v", b)
		}
	}()
	return a == b || a != a && b != b
}

// Gd3: Only tells of its kinds alone; else the panic goes on with the same value.
func TestOnly(t *testing.T) {
	r := rand.New(rand.NewPCG(7, 8))
	for _, x := range sayings() {
		for range 30 {
			kinds := allKinds()
			r.Shuffle(len(kinds), func(i, k int) { kinds[i], kinds[k] = kinds[k], kinds[i] })
			kinds = append(kinds[:r.IntN(len(kinds)+1)], 99, -1)
			before := slices.Clone(kinds)
			var c api.Caught
			v, panicked := ended(func() { c = guard.Only(kinds, panics(x.value)) })
			if !slices.Equal(kinds, before) {
				t.Fatalf("%s: kinds are %v, were %v", x.name, kinds, before)
			}
			if slices.Contains(kinds, x.want.Kind) {
				if panicked || c != x.want {
					t.Errorf("Only(%v, %s) = %+v, panicked %v", kinds, x.name, c, panicked)
				}
				continue
			}
			_, null := v.(*runtime.PanicNilError)
			if !panicked || !same(v, x.value) && !(null && x.value == nil) {
				t.Errorf("Only(%v, %s) panicked with %#v, %v", kinds, x.name, v, panicked)
			}
		}
	}
}

// Gd3: what the runtime made goes on as the same thing, by as many Onlys as there are.
func TestOnlyGoesOn(t *testing.T) {
	var first any
	broken := func() {
		defer func() {
			first = recover()
			panic(first)
		}()
		var m map[int]int
		m[1] = 2
	}
	f := broken
	for range 100 {
		inner := f
		f = func() { guard.Only([]int{api.CaughtText}, inner) }
	}
	if v, panicked := ended(f); !panicked || v != first {
		t.Errorf("panicked with %v, want %v", v, first)
	}
	if c := guard.Only([]int{api.CaughtRuntime}, f); c != ofMaking {
		t.Errorf("Only = %+v", c)
	}
}

// Gd3: f is called once; what comes to its end is told, whatever the kinds.
func TestOnlyOfCalls(t *testing.T) {
	for _, kinds := range [][]int{nil, {}, {api.CaughtNone}, {api.CaughtText}, allKinds()} {
		n := 0
		if c := guard.Only(kinds, func() { n++ }); c != none || n != 1 {
			t.Errorf("Only(%v) = %+v, called %d times", kinds, c, n)
		}
		if c := guard.Only(kinds, nil); c != none {
			t.Errorf("Only(%v, nil) = %+v", kinds, c)
		}
	}
	for _, kinds := range [][]int{nil, {}, {api.CaughtNone}, {api.CaughtOther + 1}} {
		n := 0
		if v, panicked := ended(func() { guard.Only(kinds, func() { n++; panic("x") }) }); !panicked || v != "x" || n != 1 {
			t.Errorf("Only(%v) of x: %v, %v, called %d times", kinds, v, panicked, n)
		}
	}
}

// Gd4, the example: the third of three panics; and then an Undo, too.
func TestStepsOfThree(t *testing.T) {
	var done []string
	do := func(s string) func() { return func() { done = append(done, s) } }
	last := guard.Step{Do: func() { done = append(done, "c"); panic(api.ErrArg) }, Undo: do("C")}
	for _, x := range []struct {
		undo func()
		want api.Caught
		done string
	}{
		{do("B"), errno(api.ErrArg), "a b c B A"},
		{func() { panic("u") }, text("u"), "a b c A"},
		{nil, errno(api.ErrArg), "a b c A"},
	} {
		done = nil
		c, places := guard.Steps([]guard.Step{{Do: do("a"), Undo: do("A")}, {Do: do("b"), Undo: x.undo}, last, {Do: do("d"), Undo: do("D")}})
		if c != x.want || !slices.Equal(places, []int{1, 0}) || strings.Join(done, " ") != x.done {
			t.Errorf("Steps = %+v, %v, done %v; want %+v, done %s", c, places, done, x.want, x.done)
		}
	}
}

// Gd4: all that come to their end undo nothing; none is no step; the first one that panics has none ahead of it.
func TestStepsEdges(t *testing.T) {
	n := 0
	count := func() { n++ }
	for _, l := range [][]guard.Step{nil, {}, {{}}, {{Undo: panics("x")}}, {{Do: count, Undo: panics("x")}, {}, {Undo: panics("y")}}} {
		if c, places := guard.Steps(l); c != none || len(places) != 0 {
			t.Errorf("Steps = %+v, %v", c, places)
		}
	}
	if n != 1 {
		t.Errorf("a Do was called %d times", n)
	}
	if c, places := guard.Steps([]guard.Step{{Do: panics(5), Undo: count}, {Do: count, Undo: count}}); c != atOther || len(places) != 0 || n != 1 {
		t.Errorf("Steps = %+v, %v, %d", c, places, n)
	}
	long := make([]guard.Step, 100000)
	long = append(long, guard.Step{Do: panics("x")})
	c, places := guard.Steps(long)
	if c != text("x") || len(places) != 100000 || places[0] != 99999 || places[99999] != 0 {
		t.Errorf("Steps of many = %+v, %d places", c, len(places))
	}
}

// Gd4: Steps against what the chapter says, one by one.
func TestSteps(t *testing.T) {
	r := rand.New(rand.NewPCG(9, 10))
	for range 3000 {
		n := r.IntN(8)
		does, ends, did := plan(r, n, 10)
		if r.IntN(3) > 0 { // so that several come ahead of the one that panics
			does, ends, did = plan(r, n, 2)
			does, ends = append(does, panics("do")), append(ends, text("do"))
		}
		undoes, undone, undid := plan(r, len(does), 4)
		var l []guard.Step
		for i := range does {
			l = append(l, guard.Step{Do: does[i], Undo: undoes[i]})
		}
		stop := slices.IndexFunc(ends, func(c api.Caught) bool { return c != none })
		want, wantPlaces, wantUndid := none, []int{}, []int{}
		for i := stop - 1; i >= 0; i-- {
			wantPlaces = append(wantPlaces, i)
			if undoes[i] != nil {
				wantUndid = append(wantUndid, i)
			}
		}
		if stop >= 0 {
			want = ends[stop]
		}
		for _, i := range wantPlaces {
			if undone[i] != none {
				want = undone[i]
			}
		}
		c, places := guard.Steps(l)
		if c != want || !slices.Equal(places, wantPlaces) || !slices.Equal(*undid, wantUndid) {
			t.Fatalf("Steps = %+v, %v, undid %v; want %+v, %v, %v", c, places, *undid, want, wantPlaces, wantUndid)
		}
		if stop >= 0 && slices.ContainsFunc(*did, func(i int) bool { return i > stop }) || !slices.IsSorted(*did) {
			t.Fatalf("did %v, stopped at %d", *did, stop)
		}
	}
}

// R3: nothing that is handed in is changed, nor what lies behind a list's end; and answers share nothing.
func TestAnswersAreNew(t *testing.T) {
	room := []guard.Step{{}, {Do: panics("x")}, {}, {Undo: panics("y")}}
	_, places := guard.Steps(room[:2])
	_, again := guard.Steps(room[:2])
	places[0] = 7
	if again[0] != 0 || room[0].Do != nil || room[1].Do == nil || room[2].Do != nil || room[2].Undo != nil || room[3].Undo == nil {
		t.Errorf("Steps: %v, %v", again, room)
	}
	kinds := []int{api.CaughtText, 1, 2, 3}
	guard.Only(kinds[:1], panics("x"))
	if !slices.Equal(kinds, []int{api.CaughtText, 1, 2, 3}) {
		t.Errorf("Only: kinds are %v", kinds)
	}
	l := []func(){panics("x"), panics(5), nil}
	ends, others := guard.All(l[:2]), guard.All(l[:2])
	_, ahead := guard.First(l[:2])
	ends[0], ahead[1] = none, none
	if others[0] != text("x") || others[1] != atOther || l[2] != nil || !slices.Equal(notNil(l), []int{0, 1}) {
		t.Errorf("All: %v", others)
	}
}

// Gd5: what an inner call catches, the outer one does not see; Run of Only of all kinds is what Run is.
func TestWithin(t *testing.T) {
	for _, x := range sayings() {
		f := panics(x.value)
		behind := 0
		inner := func() {
			guard.Run(f)
			behind++
			guard.Try(func() int { panic(x.value) })
			behind++
			guard.All([]func(){f, f})
			behind++
			guard.First([]func(){f, f})
			behind++
			guard.Steps([]guard.Step{{Undo: f}, {Do: f}})
			behind++
			guard.Only(allKinds(), f)
			behind++
		}
		if c := guard.Run(inner); c != none || behind != 6 {
			t.Errorf("%s: the outer one sees %+v, %d done", x.name, c, behind)
		}
		if c := guard.Only(nil, inner); c != none || behind != 12 {
			t.Errorf("%s: the outer one sees %+v, %d done", x.name, c, behind)
		}
		var told api.Caught
		if c := guard.Run(func() { told = guard.Only(allKinds(), f) }); c != none || told != x.want {
			t.Errorf("%s: Run of Only of all kinds: %+v, %+v", x.name, c, told)
		}
		if c := guard.Run(func() { guard.Only(nil, f) }); c != x.want {
			t.Errorf("%s: Run of Only of no kinds: %+v", x.name, c)
		}
	}
	if c := guard.Run(func() { guard.Only([]int{api.CaughtText}, panics(5)) }); c != atOther {
		t.Errorf("Run of Only: %+v", c)
	}
}

// Gd5: calls that stand deep within calls.
func TestDeepWithin(t *testing.T) {
	f := panics("x")
	for i := range 1000 {
		inner := f
		f = func() {
			if c := guard.Run(inner); i == 0 && c != text("x") || i > 0 && c != atFault(1, i-1) {
				t.Errorf("%d: %+v", i, c)
			}
			guard.Check(false, 1, i)
		}
	}
	if c := guard.Run(f); c != atFault(1, 999) {
		t.Errorf("Run = %+v", c)
	}
}
