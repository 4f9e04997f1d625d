package slabs

import (
	"fmt"
	"reflect"
	"runtime"
	"slices"
	"strconv"
	"testing"

	"ferryhouse/api"
)

// made is a slab with that room.
func made[T any](t *testing.T, room int) *Slab[T] {
	t.Helper()
	s, e := New[T](room)
	if s == nil || e != api.OK {
		t.Fatalf("New(%d) = %v, %d; want a slab, %d", room, s, e, api.OK)
	}
	return s
}

// filled is a slab with that room, and as many things: each is the name of its number.
func filled(t *testing.T, room int) *Slab[string] {
	t.Helper()
	s := made[string](t, room)
	for n := range room {
		puts(t, s, name(n), n)
	}
	return s
}

func name(n int) string { return "thing " + strconv.Itoa(n) }

// upTo are the numbers from 0 on, below n.
func upTo(n int) (l []int) {
	for i := range n {
		l = append(l, i)
	}
	return l
}

// without is that list without these numbers.
func without(l []int, out ...int) []int {
	return slices.DeleteFunc(slices.Clone(l), func(n int) bool { return slices.Contains(out, n) })
}

// notThere are slabs that New did not make.
func notThere[T any]() map[string]*Slab[T] {
	refused, _ := New[T](0)
	return map[string]*Slab[T]{"nil": nil, "a slab of noughts": {}, "what New answers beside an error": refused}
}

// puts fails unless Put answers that number.
func puts[T any](t *testing.T, s *Slab[T], x T, want int) {
	t.Helper()
	if n, e := s.Put(x); n != want || e != api.OK {
		t.Errorf("Put(%v) = %d, %d; want %d, %d", x, n, e, want, api.OK)
	}
}

// refuses fails unless Put answers that error, and nothing else.
func refuses[T any](t *testing.T, s *Slab[T], x T, want api.Errno) {
	t.Helper()
	if n, e := s.Put(x); n != 0 || e != want {
		t.Errorf("Put(%v) = %d, %d; want 0, %d", x, n, e, want)
	}
}

// gets fails unless that thing has the number.
func gets[T comparable](t *testing.T, s *Slab[T], n int, want T) {
	t.Helper()
	if x, e := s.Get(n); x != want || e != api.OK {
		t.Errorf("Get(%d) = %v, %d; want %v, %d", n, x, e, want, api.OK)
	}
}

// lacks fails unless Get, Set and Free of the number answer that error, and Get a zero value.
func lacks[T comparable](t *testing.T, s *Slab[T], n int, x T, want api.Errno) {
	t.Helper()
	var nothing T
	if got, e := s.Get(n); got != nothing || e != want {
		t.Errorf("Get(%d) = %v, %d; want %v, %d", n, got, e, nothing, want)
	}
	if e := s.Set(n, x); e != want {
		t.Errorf("Set(%d) = %d; want %d", n, e, want)
	}
	if e := s.Free(n); e != want {
		t.Errorf("Free(%d) = %d; want %d", n, e, want)
	}
}

// frees fails unless each number is freed, when it is its turn.
func frees[T any](t *testing.T, s *Slab[T], l ...int) {
	t.Helper()
	for _, n := range l {
		if e := s.Free(n); e != api.OK {
			t.Errorf("Free(%d) = %d; want %d", n, e, api.OK)
		}
	}
}

// has fails unless just these numbers are had, and nothing stands behind the list of them.
func has[T any](t *testing.T, s *Slab[T], want []int) {
	t.Helper()
	l := s.Numbers()
	if !slices.Equal(l, want) || s.Len() != len(want) {
		t.Errorf("Numbers, Len = %v, %d; want %v, %d", l, s.Len(), want, len(want))
	}
	if cap(l) != len(l) {
		t.Errorf("behind %d numbers there is room for %d more", len(l), cap(l)-len(l))
	}
}

// P17.1

func TestNewOfARoom(t *testing.T) {
	for _, room := range []int{1, 2, 63, 64, 65, 128, 4095, 4096} {
		s := made[int](t, room)
		has(t, s, nil)
		if s.Numbers() != nil {
			t.Errorf("New(%d): an empty list instead of none", room)
		}
		for _, n := range []int{0, room - 1} {
			lacks(t, s, n, 1, api.ErrNone)
		}
		has(t, s, nil)
	}
}

func TestNewRefuses(t *testing.T) {
	least := -1 << 63
	for _, room := range []int{least, -4096, -64, -1, 0, 4097, 4160, 1 << 20, 1<<63 - 1} {
		if s, e := New[string](room); s != nil || e != api.ErrArg {
			t.Errorf("New(%d) = %v, %d; want none, %d", room, s, e, api.ErrArg)
		}
	}
}

// P17.2

func TestTheExample(t *testing.T) {
	s := made[byte](t, 2)
	puts(t, s, 'x', 0)
	puts(t, s, 'y', 1)
	refuses(t, s, 'z', api.ErrLimit)
	frees(t, s, 0)
	puts(t, s, 'z', 0)
	gets(t, s, 0, 'z')
	lacks(t, s, 2, 'w', api.ErrNone)
	has(t, s, []int{0, 1})
	gets(t, s, 1, 'y')
}

func TestPutUpToTheRoom(t *testing.T) {
	for _, room := range []int{1, 2, 3, 63, 64, 65, 127, 128, 129, 200, 4095, 4096} {
		s := filled(t, room)
		has(t, s, upTo(room))
		for range 2 {
			refuses(t, s, "one more", api.ErrLimit)
		}
		has(t, s, upTo(room))
		for n := range room {
			gets(t, s, n, name(n))
		}
		for _, n := range []int{room, room + 1, room + 63, room + 64, 1 << 40} {
			lacks(t, s, n, "none", api.ErrNone)
		}
	}
}

func TestPutTakesTheLeastNumber(t *testing.T) {
	for _, free := range [][]int{{0}, {199}, {63, 64}, {64, 63}, {199, 0, 100}, {5, 4, 3, 2, 1}, {127, 128, 65, 62}} {
		s := filled(t, 200)
		frees(t, s, free...)
		has(t, s, without(upTo(200), free...))
		slices.Sort(free)
		for _, n := range free {
			puts(t, s, "new", n)
			gets(t, s, n, "new")
		}
		refuses(t, s, "one more", api.ErrLimit)
		has(t, s, upTo(200))
	}
}

func TestPutIntoOneThatIsNotFull(t *testing.T) {
	s := made[string](t, 300)
	for n := range 100 {
		puts(t, s, name(n), n)
	}
	frees(t, s, 70, 20)
	puts(t, s, "first", 20)
	puts(t, s, "second", 70)
	puts(t, s, "third", 100)
	has(t, s, upTo(101))
}

// all numbers are free again, whatever went ahead.
func TestEmptiedAndFilledAgain(t *testing.T) {
	s := filled(t, 130)
	for range 3 {
		frees(t, s, upTo(130)...)
		has(t, s, nil)
		if o := made[string](t, 130); !reflect.DeepEqual(s, o) {
			t.Errorf("what was emptied is %v; want a new one, %v", s, o)
		}
		for n := range 130 {
			lacks(t, s, n, "none", api.ErrNone)
		}
		for n := range 130 {
			puts(t, s, name(n), n)
		}
		has(t, s, upTo(130))
	}
}

// a thing that is a zero value is one as good as others.
func TestThingsOfNought(t *testing.T) {
	s := made[int](t, 2)
	puts(t, s, 0, 0)
	puts(t, s, 0, 1)
	refuses(t, s, 0, api.ErrLimit)
	gets(t, s, 0, 0)
	frees(t, s, 0)
	lacks(t, s, 0, 0, api.ErrNone)
	has(t, s, []int{1})

	p := made[*int](t, 1)
	puts(t, p, nil, 0)
	gets(t, p, 0, nil)
	has(t, p, []int{0})

	f := made[error](t, 1)
	puts(t, f, nil, 0)
	gets(t, f, 0, nil)
	has(t, f, []int{0})
}

// things may be of any type, of one whose values can't be held against each other too.
func TestThingsOfAnyType(t *testing.T) {
	s := made[func() int](t, 2)
	puts(t, s, func() int { return 7 }, 0)
	puts(t, s, nil, 1)
	if f, e := s.Get(0); f() != 7 || e != api.OK {
		t.Errorf("Get(0) = %d, %d; want 7, %d", f(), e, api.OK)
	}
	if f, e := s.Get(1); f != nil || e != api.OK {
		t.Errorf("Get(1): it is nil: %t, %d; want true, %d", f == nil, e, api.OK)
	}

	l := made[[]api.Key](t, 1)
	puts(t, l, []api.Key{{1}, {2}}, 0)
	if x, e := l.Get(0); !slices.Equal(x, []api.Key{{1}, {2}}) || e != api.OK {
		t.Errorf("Get(0) = %v, %d", x, e)
	}
	if x, e := l.Get(1); x != nil || e != api.ErrNone {
		t.Errorf("Get(1) = %v, %d; want none, %d", x, e, api.ErrNone)
	}

	e := made[struct{}](t, 65)
	for n := range 65 {
		puts(t, e, struct{}{}, n)
	}
	refuses(t, e, struct{}{}, api.ErrLimit)
	frees(t, e, 64)
	has(t, e, upTo(64))

	in := made[*Slab[int]](t, 1)
	puts(t, in, made[int](t, 3), 0)
	inner, _ := in.Get(0)
	puts(t, inner, 5, 0)
	inner, _ = in.Get(0)
	gets(t, inner, 0, 5)
}

// P17.3

func TestGetSetFree(t *testing.T) {
	s := filled(t, 130)
	for _, n := range []int{0, 62, 63, 64, 127, 128, 129} {
		if e := s.Set(n, "another"); e != api.OK {
			t.Errorf("Set(%d) = %d; want %d", n, e, api.OK)
		}
		for range 2 {
			gets(t, s, n, "another")
		}
		has(t, s, upTo(130))
		frees(t, s, n)
		for range 2 {
			lacks(t, s, n, "none", api.ErrNone)
		}
		has(t, s, without(upTo(130), n))
		puts(t, s, name(n), n)
		gets(t, s, n, name(n))
	}
	for n := range 130 {
		gets(t, s, n, name(n))
	}
}

func TestNumbersThatNothingHas(t *testing.T) {
	least := -1 << 63
	for _, room := range []int{1, 64, 70, 128, 4096} {
		full, empty := filled(t, room), made[string](t, room)
		for _, n := range []int{least, -4096, -65, -64, -63, -1, room, room + 1, room + 57, room + 64, 4096, 1 << 32, 1<<63 - 1} {
			lacks(t, full, n, "none", api.ErrNone)
			lacks(t, empty, n, "none", api.ErrNone)
		}
		has(t, full, upTo(room))
		has(t, empty, nil)
	}
}

// what Set sets aside, and what was freed, comes back nowhere.
func TestNothingIsLeftOfWhatWent(t *testing.T) {
	s := filled(t, 3)
	s.Set(1, "another")
	frees(t, s, 1, 2)
	for _, n := range []int{1, 2} {
		if x, e := s.Get(n); x != "" || e != api.ErrNone {
			t.Errorf("Get(%d) = %q, %d; want nothing, %d", n, x, e, api.ErrNone)
		}
	}
	puts(t, s, "", 1)
	gets(t, s, 1, "")
}

// a thing that went is not kept: nobody but who holds it keeps it in memory.
func TestWhatWentIsNotKept(t *testing.T) {
	type big [1 << 16]byte
	var gone [3]chan struct{}
	s := made[*big](t, 3)
	for n := range gone {
		gone[n] = make(chan struct{})
		x := new(big)
		runtime.AddCleanup(x, func(done chan struct{}) { close(done) }, gone[n])
		puts(t, s, x, n)
	}
	s.Set(0, nil)
	frees(t, s, 1)
	for n, want := range []bool{true, true, false} {
		if is := collected(gone[n], want); is != want {
			t.Errorf("the thing of number %d is out of memory: %t; want %t", n, is, want)
		}
	}
	frees(t, s, 2, 0)
	if !collected(gone[2], true) {
		t.Error("the last thing stays in memory")
	}
	runtime.KeepAlive(s)
}

// collected tells whether the memory of a thing was given back; if that is awaited, it looks often.
func collected(gone chan struct{}, awaited bool) bool {
	tries := 3
	if awaited {
		tries = 2000
	}
	for range tries {
		runtime.GC()
		select {
		case <-gone:
			return true
		default:
			runtime.Gosched()
		}
	}
	return false
}

// P17.4

func TestNumbersRise(t *testing.T) {
	s := filled(t, 200)
	frees(t, s, 150, 3, 64, 63, 199, 0)
	want := without(upTo(200), 150, 3, 64, 63, 199, 0)
	has(t, s, want)
	puts(t, s, "new", 0)
	has(t, s, append([]int{0}, want...))
}

func TestOneThingFarOff(t *testing.T) {
	for _, n := range []int{0, 63, 64, 2000, 4095} {
		s := filled(t, 4096)
		frees(t, s, without(upTo(4096), n)...)
		has(t, s, []int{n})
		gets(t, s, n, name(n))
	}
}

func TestNumbersAreTheirOwn(t *testing.T) {
	s := filled(t, 5)
	l, other := s.Numbers(), s.Numbers()
	for i := range l {
		l[i] = 99
	}
	_ = append(l[:2], 77, 77, 77, 77)
	has(t, s, upTo(5))
	if !slices.Equal(other, upTo(5)) {
		t.Errorf("another list became %v", other)
	}
	frees(t, s, 0)
	if !slices.Equal(other, upTo(5)) {
		t.Errorf("an earlier list became %v", other)
	}
}

// R3

func TestWhatIsNotThere(t *testing.T) {
	for what, s := range notThere[string]() {
		t.Run(what, func(t *testing.T) {
			for range 2 {
				refuses(t, s, "x", api.ErrNil)
				for _, n := range []int{-1, 0, 1, 4096} {
					lacks(t, s, n, "x", api.ErrNil)
				}
				has(t, s, nil)
				if s.Numbers() != nil {
					t.Error("an empty list instead of none")
				}
			}
		})
	}
}

// P17.5, R5

func TestAskingChangesNothing(t *testing.T) {
	full, alike := filled(t, 70), filled(t, 70)
	refuses(t, full, "one more", api.ErrLimit)
	if !reflect.DeepEqual(full, alike) {
		t.Errorf("there is %v; want %v", full, alike)
	}
	s, o := filled(t, 70), filled(t, 70)
	frees(t, s, 64, 9)
	frees(t, o, 64, 9)
	for _, n := range []int{-1, 9, 64, 70} {
		lacks(t, s, n, "x", api.ErrNone)
	}
	gets(t, s, 3, name(3))
	has(t, s, without(upTo(70), 64, 9))
	if !reflect.DeepEqual(s, o) {
		t.Errorf("there is %v; want %v", s, o)
	}
}

func TestSlabsApart(t *testing.T) {
	a, b := filled(t, 66), filled(t, 66)
	frees(t, a, 0, 65)
	a.Set(1, "another")
	puts(t, a, "new", 0)
	has(t, a, upTo(65))
	has(t, b, upTo(66))
	for n := range 66 {
		gets(t, b, n, name(n))
	}
}

// each thing stays by its number, while others come and go around it.
func TestAThingStays(t *testing.T) {
	s := filled(t, 256)
	for turn := range 8 {
		for n := range 256 {
			if n%8 == turn {
				frees(t, s, n)
			}
		}
		for n := range 256 {
			if n%8 > turn {
				gets(t, s, n, name(n))
			} else {
				lacks(t, s, n, "none", api.ErrNone)
			}
		}
	}
	has(t, s, nil)
}

// draw answers numbers below n by a fixed rule.
func draw(seed uint32) func(n int) int {
	return func(n int) int {
		seed = seed*1664525 + 1013904223
		return int(seed>>8) % n
	}
}

// drawer is a slab as a map, out of which all is found by looking at each number.
type drawer struct {
	room   int
	things map[int]string
}

func (d drawer) put(x string) (int, api.Errno) {
	if len(d.things) >= d.room {
		return 0, api.ErrLimit
	}
	n := 0
	for {
		if _, taken := d.things[n]; !taken {
			d.things[n] = x
			return n, api.OK
		}
		n++
	}
}

func (d drawer) get(n int) (string, api.Errno) {
	if x, has := d.things[n]; has {
		return x, api.OK
	}
	return "", api.ErrNone
}

func (d drawer) set(n int, x string) api.Errno {
	_, e := d.get(n)
	if e == api.OK {
		d.things[n] = x
	}
	return e
}

func (d drawer) free(n int) api.Errno {
	_, e := d.get(n)
	delete(d.things, n)
	return e
}

func (d drawer) numbers() (l []int) {
	for n := range d.things {
		l = append(l, n)
	}
	slices.Sort(l)
	return l
}

// step does one thing with both, and tells what; it fails if they answer otherwise.
func step(t *testing.T, s *Slab[string], d drawer, next func(n int) int, grow int) string {
	t.Helper()
	n, x := next(d.room+2)-1, name(next(1000))
	what, got, want := "", "", ""
	switch kind := next(10); {
	case kind < grow:
		i, e := s.Put(x)
		j, f := d.put(x)
		what, got, want = "Put", fmt.Sprint(i, e), fmt.Sprint(j, f)
	case kind == 8:
		i, e := s.Get(n)
		j, f := d.get(n)
		what, got, want = "Get", fmt.Sprint(i, e), fmt.Sprint(j, f)
	case kind == 9:
		what, got, want = "Set", fmt.Sprint(s.Set(n, x)), fmt.Sprint(d.set(n, x))
	default:
		what, got, want = "Free", fmt.Sprint(s.Free(n)), fmt.Sprint(d.free(n))
	}
	if got != want {
		t.Errorf("room %d: %s of %d, %s: %s; want %s", d.room, what, n, x, got, want)
	}
	if got == fmt.Sprint(0, api.ErrLimit) || got == fmt.Sprint("", api.ErrNone) || got == fmt.Sprint(api.ErrNone) {
		what += " refused"
	}
	return what
}

func TestAgainstADrawer(t *testing.T) {
	next := draw(17)
	told := map[string]int{}
	for _, room := range []int{1, 2, 7, 63, 64, 65, 100, 128, 129, 200} {
		s, d := made[string](t, room), drawer{room, map[int]string{}}
		for i := range 4000 {
			grow := 2 + i/400%2*5 // by turns it empties and fills
			told[step(t, s, d, next, grow)]++
			if i%16 != 0 {
				continue
			}
			has(t, s, d.numbers())
			for n := range room {
				x, e := s.Get(n)
				if y, f := d.get(n); x != y || e != f {
					t.Fatalf("room %d: Get(%d) = %q, %d; want %q, %d", room, n, x, e, y, f)
				}
			}
		}
	}
	for _, what := range []string{"Put", "Put refused", "Get", "Get refused", "Set", "Set refused", "Free", "Free refused"} {
		if told[what] < 500 {
			t.Errorf("%s was drawn only %d times", what, told[what])
		}
	}
}
