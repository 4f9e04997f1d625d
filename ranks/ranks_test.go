package ranks

import (
	"fmt"
	"math"
	"math/big"
	"slices"
	"testing"

	"ferryhouse/api"
)

func rank(priority, number uint64) api.Rank { return api.Rank{Priority: priority, Number: number} }

// one is an id with its rank.
type one struct {
	rank api.Rank
	id   int
}

// before tells whether one goes ahead of another one, by numbers of any width: a difference in front outweighs all behind it.
func before(a, b one) bool {
	return weight(a).Cmp(weight(b)) < 0
}

// weight is less for whom goes ahead.
func weight(x one) *big.Int {
	w := new(big.Int).SetUint64(x.rank.Priority)
	w.Neg(w).Lsh(w, 64)
	w.Add(w, new(big.Int).SetUint64(x.rank.Number)).Lsh(w, 64)
	return w.Add(w, big.NewInt(int64(x.id)))
}

// lined are these, those that go ahead first: each is put in where the first one stands that it goes ahead of.
func lined(all []one) (l []one) {
	for _, x := range all {
		at := 0
		for at < len(l) && before(l[at], x) {
			at++
		}
		l = slices.Insert(l, at, x)
	}
	return l
}

func ids(all []one) (l []int) {
	for _, x := range all {
		l = append(l, x.id)
	}
	return l
}

// pushed is a heap onto which these were pushed, in that order.
func pushed(t *testing.T, all []one) *Heap {
	t.Helper()
	h := New()
	for _, x := range all {
		pushes(t, h, x)
	}
	return h
}

// notThere are heaps that New did not make.
func notThere() map[string]*Heap { return map[string]*Heap{"nil": nil, "a heap of noughts": {}} }

// pushes fails unless Push takes it.
func pushes(t *testing.T, h *Heap, x one) {
	t.Helper()
	if e := h.Push(x.rank, x.id); e != api.OK {
		t.Errorf("Push(%v, %d) = %d; want %d", x.rank, x.id, e, api.OK)
	}
}

// refuses fails unless Push answers that error.
func refuses(t *testing.T, h *Heap, x one, want api.Errno) {
	t.Helper()
	if e := h.Push(x.rank, x.id); e != want {
		t.Errorf("Push(%v, %d) = %d; want %d", x.rank, x.id, e, want)
	}
}

// drops fails unless Drop answers the id's rank.
func drops(t *testing.T, h *Heap, x one) {
	t.Helper()
	if r, e := h.Drop(x.id); r != x.rank || e != api.OK {
		t.Errorf("Drop(%d) = %v, %d; want %v, %d", x.id, r, e, x.rank, api.OK)
	}
}

// lacks fails unless Drop answers that error, and nothing else.
func lacks(t *testing.T, h *Heap, id int, want api.Errno) {
	t.Helper()
	if r, e := h.Drop(id); r != (api.Rank{}) || e != want {
		t.Errorf("Drop(%d) = %v, %d; want noughts, %d", id, r, e, want)
	}
}

// stands fails unless one end answers that.
func stands(t *testing.T, what string, end func() (api.Rank, int, bool), want one, there bool) {
	t.Helper()
	if r, id, ok := end(); r != want.rank || id != want.id || ok != there {
		t.Errorf("%s = %v, %d, %t; want %v, %d, %t", what, r, id, ok, want.rank, want.id, there)
	}
}

// has fails unless the heap has just these, of which those that go ahead come first.
func has(t *testing.T, h *Heap, want []one) {
	t.Helper()
	l := h.List()
	if !slices.Equal(l, ids(want)) || h.Len() != len(want) {
		t.Errorf("List, Len = %v, %d; want %v, %d", l, h.Len(), ids(want), len(want))
	}
	if cap(l) != len(l) {
		t.Errorf("behind %d ids there is room for %d more", len(l), cap(l)-len(l))
	}
	if len(want) == 0 {
		stands(t, "Top", h.Top, one{}, false)
		stands(t, "Bottom", h.Bottom, one{}, false)
		return
	}
	stands(t, "Top", h.Top, want[0], true)
	stands(t, "Bottom", h.Bottom, want[len(want)-1], true)
}

// samples are some with many ranks alike, and ids that don't rise with them.
func samples() []one {
	return []one{
		{rank(5, 1), 10}, {rank(9, 2), 20}, {rank(5, 0), 30}, {rank(9, 2), -4}, {rank(0, 0), 0},
		{rank(5, 1), 9}, {rank(math.MaxUint64, math.MaxUint64), 3}, {rank(0, math.MaxUint64), math.MaxInt},
		{rank(0, math.MaxUint64), math.MinInt}, {rank(1<<63, 7), 1}, {rank(5, 1), 11}, {rank(math.MaxUint64, 0), 4},
	}
}

// edges are numbers about which a comparison that is too narrow, or signed, goes wrong.
func edges() []uint64 {
	return []uint64{0, 1, 2, 255, 256, 1<<31 - 1, 1 << 31, 1<<32 - 1, 1 << 32, 1<<53 + 1, 1 << 53, 1<<63 - 1, 1 << 63, math.MaxUint64 - 1, math.MaxUint64}
}

// P18.1

func TestAhead(t *testing.T) {
	for _, c := range []struct {
		a, b api.Rank
		want bool
	}{
		{rank(9, 2), rank(5, 1), true},
		{rank(5, 1), rank(9, 2), false},
		{rank(5, 0), rank(5, 1), true},
		{rank(5, 1), rank(5, 0), false},
		{rank(5, 1), rank(5, 1), false},
		{rank(0, 0), rank(0, 0), false},
		{rank(math.MaxUint64, math.MaxUint64), rank(0, 0), true},
		{rank(0, 0), rank(math.MaxUint64, math.MaxUint64), false},
		{rank(1<<63, 0), rank(1<<63-1, 0), true},
		{rank(0, 1<<63-1), rank(0, 1<<63), true},
	} {
		if got := Ahead(c.a, c.b); got != c.want {
			t.Errorf("Ahead(%v, %v) = %t; want %t", c.a, c.b, got, c.want)
		}
	}
}

// grid are ranks of all edges.
func grid() (l []api.Rank) {
	for _, p := range edges() {
		for _, n := range edges() {
			l = append(l, rank(p, n))
		}
	}
	return l
}

func TestAheadOfAllEdges(t *testing.T) {
	for _, a := range grid() {
		for _, b := range grid() {
			if got, want := Ahead(a, b), before(one{rank: a}, one{rank: b}); got != want {
				t.Errorf("Ahead(%v, %v) = %t; want %t", a, b, got, want)
			}
			both := Ahead(a, b) && Ahead(b, a)
			if none := !Ahead(a, b) && !Ahead(b, a); both || none != (a == b) {
				t.Errorf("of %v and %v both go ahead (%t), or none (%t)", a, b, both, none)
			}
		}
	}
}

// P18.2

func TestNewHasNone(t *testing.T) {
	h, o := New(), New()
	has(t, h, nil)
	if h.List() != nil {
		t.Error("an empty list instead of none")
	}
	for _, id := range []int{math.MinInt, -1, 0, 1, math.MaxInt} {
		lacks(t, h, id, api.ErrNone)
	}
	pushes(t, h, one{rank(1, 1), 0})
	has(t, o, nil)
}

func TestTheExample(t *testing.T) {
	h := pushed(t, []one{{rank(5, 1), 10}, {rank(9, 2), 20}, {rank(5, 0), 30}})
	stands(t, "Top", h.Top, one{rank(9, 2), 20}, true)
	stands(t, "Bottom", h.Bottom, one{rank(5, 1), 10}, true)
	if l := h.List(); !slices.Equal(l, []int{20, 30, 10}) {
		t.Errorf("List = %v; want 20 30 10", l)
	}
	refuses(t, h, one{rank(1, 1), 10}, api.ErrThere)
	drops(t, h, one{rank(9, 2), 20})
	stands(t, "Top", h.Top, one{rank(5, 0), 30}, true)
	lacks(t, h, 20, api.ErrNone)
	has(t, h, []one{{rank(5, 0), 30}, {rank(5, 1), 10}})
}

func TestPushOfWhatIsThere(t *testing.T) {
	all := lined(samples())
	h := pushed(t, samples())
	for _, x := range all {
		for _, r := range []api.Rank{x.rank, rank(math.MaxUint64, 0), rank(0, math.MaxUint64), rank(5, 1)} {
			refuses(t, h, one{r, x.id}, api.ErrThere)
		}
		has(t, h, all)
	}
	for i, x := range all { // each has the rank that it was first pushed with
		drops(t, h, x)
		has(t, h, all[i+1:])
	}
}

func TestDropOfEachOne(t *testing.T) {
	all := lined(samples())
	for i, x := range all {
		h := pushed(t, samples())
		drops(t, h, x)
		rest := slices.Concat(all[:i], all[i+1:])
		for range 2 {
			lacks(t, h, x.id, api.ErrNone)
			has(t, h, rest)
		}
		pushes(t, h, x)
		has(t, h, all)
		refuses(t, h, x, api.ErrThere)
	}
}

// who comes back has the new rank, and nothing of the one that it had.
func TestPushedAgainWithAnotherRank(t *testing.T) {
	for _, x := range samples() {
		for _, r := range []api.Rank{rank(math.MaxUint64, 0), rank(6, 6), rank(0, math.MaxUint64)} {
			h := pushed(t, samples())
			drops(t, h, x)
			pushes(t, h, one{r, x.id})
			others := slices.DeleteFunc(samples(), func(o one) bool { return o.id == x.id })
			has(t, h, lined(append(others, one{r, x.id})))
			drops(t, h, one{r, x.id})
			has(t, h, lined(others))
		}
	}
}

func TestDropOfWhatIsNotThere(t *testing.T) {
	h := pushed(t, samples())
	for _, id := range []int{math.MinInt + 1, -10, -5, -3, -1, 2, 5, 8, 12, 19, 31, 1 << 32, math.MaxInt - 1} {
		lacks(t, h, id, api.ErrNone)
	}
	has(t, h, lined(samples()))
}

// P18.3

func TestOneAlone(t *testing.T) {
	for _, x := range append(samples(), one{rank(0, 0), 0}) {
		h := New()
		for range 3 {
			pushes(t, h, x)
			has(t, h, []one{x})
			drops(t, h, x)
			has(t, h, nil)
			lacks(t, h, x.id, api.ErrNone)
		}
	}
}

func TestTheSameRank(t *testing.T) {
	for _, r := range []api.Rank{rank(0, 0), rank(1, 1), rank(math.MaxUint64, math.MaxUint64)} {
		want := []one{{r, math.MinInt}, {r, -3}, {r, -1}, {r, 0}, {r, 5}, {r, 9}, {r, math.MaxInt}}
		for turn := range want {
			all := slices.Concat(want[turn:], want[:turn])
			has(t, pushed(t, all), want)
			slices.Reverse(all)
			has(t, pushed(t, all), want)
		}
	}
}

func TestAskingChangesNothing(t *testing.T) {
	h := pushed(t, samples())
	for range 5 {
		has(t, h, lined(samples()))
	}
}

// P18.4

func TestListsAreTheirOwn(t *testing.T) {
	all := lined(samples())
	h := pushed(t, samples())
	l, other := h.List(), h.List()
	for i := range l {
		l[i] = 99
	}
	_ = append(l[:2], 77, 77, 77, 77)
	has(t, h, all)
	drops(t, h, all[0])
	pushes(t, h, one{rank(5, 5), 99})
	if !slices.Equal(other, ids(all)) {
		t.Errorf("an earlier list became %v; want %v", other, ids(all))
	}
}

func TestListOfAllLengths(t *testing.T) {
	h := New()
	var all []one
	for n := range 300 {
		has(t, h, lined(all))
		x := one{rank(uint64(n*7%10), uint64(n*3%4)), n * 11 % 300}
		pushes(t, h, x)
		all = append(all, x)
	}
	for _, x := range lined(all) {
		drops(t, h, x)
		all = slices.DeleteFunc(all, func(o one) bool { return o.id == x.id })
		has(t, h, lined(all))
	}
}

// P18.5

// orders yields all orders of a list.
func orders(l []one, yield func([]one)) {
	if len(l) == 0 {
		yield(nil)
		return
	}
	for i, x := range l {
		orders(slices.Concat(l[:i], l[i+1:]), func(rest []one) { yield(append([]one{x}, rest...)) })
	}
}

// taken drops from an end till nothing is there, and answers who came, in order.
func taken(t *testing.T, h *Heap, end func() (api.Rank, int, bool)) (l []one) {
	t.Helper()
	for range h.Len() {
		r, id, _ := end()
		drops(t, h, one{r, id})
		l = append(l, one{r, id})
	}
	has(t, h, nil)
	return l
}

func TestAllOrdersAreTheSame(t *testing.T) {
	all := samples()[:6]
	want := lined(all)
	back := slices.Clone(want)
	slices.Reverse(back)
	many := 0
	orders(all, func(l []one) {
		many++
		h, o := pushed(t, l), pushed(t, l)
		has(t, h, want)
		if got := taken(t, h, h.Top); !slices.Equal(got, want) {
			t.Errorf("pushed as %v, from the top: %v; want %v", l, got, want)
		}
		if got := taken(t, o, o.Bottom); !slices.Equal(got, back) {
			t.Errorf("pushed as %v, from the bottom: %v; want %v", l, got, back)
		}
	})
	if many != 720 {
		t.Errorf("%d orders; want 720", many)
	}
}

func TestAllDroppedInAnyOrder(t *testing.T) {
	all := samples()[:6]
	orders(all, func(l []one) {
		h := pushed(t, all)
		for i, x := range l {
			drops(t, h, x)
			has(t, h, lined(l[i+1:]))
		}
	})
}

func TestManyFromBothEnds(t *testing.T) {
	const many = 5000
	next := draw(18)
	h := New()
	for n := range many {
		pushes(t, h, one{rank(uint64(next(40)), uint64(next(50))), n * 2777 % many})
	}
	l := h.List()
	for low, high := 0, many; low < high; {
		what, end, want := "Top", h.Top, l[low]
		if next(2) == 0 {
			what, end, want = "Bottom", h.Bottom, l[high-1]
			high--
		} else {
			low++
		}
		r, id, ok := end()
		if id != want || !ok {
			t.Fatalf("%s = %d, %t; want %d, true", what, id, ok, want)
		}
		drops(t, h, one{r, id})
	}
	has(t, h, nil)
}

// R3

func TestWhatIsNotThere(t *testing.T) {
	for what, h := range notThere() {
		t.Run(what, func(t *testing.T) {
			for range 2 {
				has(t, h, nil)
				if h.List() != nil {
					t.Error("an empty list instead of none")
				}
				for _, id := range []int{math.MinInt, -1, 0, 1, math.MaxInt} {
					refuses(t, h, one{rank(1, 1), id}, api.ErrNil)
					lacks(t, h, id, api.ErrNil)
				}
			}
		})
	}
}

// R5

func TestHeapsApart(t *testing.T) {
	a, b := pushed(t, samples()), New()
	var others []one
	for i, x := range samples() { // the same ids, with other ranks
		others = append(others, one{rank(uint64(i%3), uint64(i%4)), x.id})
		pushes(t, b, others[i])
	}
	has(t, a, lined(samples()))
	has(t, b, lined(others))
	taken(t, a, a.Top)
	has(t, b, lined(others))
	taken(t, b, b.Bottom)
	has(t, a, nil)
}

// who was dropped is not kept: neither side has anything behind those that are there.
func TestWhoWasDroppedIsNotKept(t *testing.T) {
	h := pushed(t, samples())
	for i, x := range samples() {
		drops(t, h, x)
		left := len(samples()) - i - 1
		for _, s := range h.sides {
			if len(s.entries) != left || len(h.ids) != left {
				t.Errorf("%d and %d are there; want %d", len(s.entries), len(h.ids), left)
			}
			for _, kept := range s.entries[left:cap(s.entries)] {
				if kept != nil {
					t.Errorf("%v is kept behind %d others", *kept, left)
				}
			}
		}
	}
}

// draw answers numbers below n by a fixed rule.
func draw(seed uint32) func(n int) int {
	return func(n int) int {
		seed = seed*1664525 + 1013904223
		return int(seed>>8) % n
	}
}

// step does one thing with a heap and with a list of those that it has, and tells what; it fails if they answer otherwise.
func step(t *testing.T, h *Heap, all *[]one, next func(n int) int, grow int) string {
	t.Helper()
	x := one{rank(edges()[next(15)], uint64(next(4))), next(60) - 30}
	at := slices.IndexFunc(*all, func(o one) bool { return o.id == x.id })
	what, got, want := "", "", ""
	switch push := next(10) < grow; {
	case push && at < 0:
		*all = append(*all, x)
		what, got, want = "Push", fmt.Sprint(h.Push(x.rank, x.id)), fmt.Sprint(api.OK)
	case push:
		what, got, want = "Push refused", fmt.Sprint(h.Push(x.rank, x.id)), fmt.Sprint(api.ErrThere)
	case at < 0:
		what, got, want = "Drop refused", fmt.Sprint(h.Drop(x.id)), fmt.Sprint(api.Rank{}, api.ErrNone)
	default:
		what, got, want = "Drop", fmt.Sprint(h.Drop(x.id)), fmt.Sprint((*all)[at].rank, api.OK)
		*all = slices.Delete(*all, at, at+1)
	}
	if got != want {
		t.Errorf("%s of %v, %d: %s; want %s", what, x.rank, x.id, got, want)
	}
	return what
}

func TestAgainstALine(t *testing.T) {
	next := draw(181)
	told := map[string]int{}
	for turn := range 10 {
		h := New()
		var all []one
		for i := range 600 {
			told[step(t, h, &all, next, 2+i/100%2*5)]++ // by turns it empties and fills
			if (i+turn)%3 == 0 {
				has(t, h, lined(all))
			}
		}
	}
	for _, what := range []string{"Push", "Push refused", "Drop", "Drop refused"} {
		if told[what] < 400 {
			t.Errorf("%s was drawn only %d times", what, told[what])
		}
	}
}
