package recents

import (
	"slices"
	"testing"

	"ferryhouse/api"
)

// hash is the one of a number; those of other numbers are others, and none is of noughts.
func hash(n int) api.Hash { return api.Hash{byte(n), byte(n >> 8), byte(n >> 16), 31: 9} }

// hashes are those of the numbers from one up to, but without, another.
func hashes(from, to int) (l []api.Hash) {
	for n := from; n < to; n++ {
		l = append(l, hash(n))
	}
	return l
}

// notThere are queues that New did not make.
func notThere() map[string]*Queue {
	return map[string]*Queue{"nil": nil, "a queue of noughts": {}}
}

// taken fails unless Push takes the hash, and none falls.
func taken(t *testing.T, q *Queue, h api.Hash) {
	t.Helper()
	if fallen, fell, e := q.Push(h); fallen != (api.Hash{}) || fell || e != api.OK {
		t.Errorf("Push of %v = %v, %t, %d; want none, false, %d", h, fallen, fell, e, api.OK)
	}
}

// pushes fails unless Push takes the hash, and that one falls.
func pushes(t *testing.T, q *Queue, h, want api.Hash) {
	t.Helper()
	if fallen, fell, e := q.Push(h); fallen != want || !fell || e != api.OK {
		t.Errorf("Push of %v = %v, %t, %d; want %v, true, %d", h, fallen, fell, e, want, api.OK)
	}
}

// refused fails unless Push answers that error, and nothing else.
func refused(t *testing.T, q *Queue, h api.Hash, want api.Errno) {
	t.Helper()
	if fallen, fell, e := q.Push(h); fallen != (api.Hash{}) || fell || e != want {
		t.Errorf("Push of %v = %v, %t, %d; want none, false, %d", h, fallen, fell, e, want)
	}
}

// lacks fails if the hash is one of the queue's.
func lacks(t *testing.T, q *Queue, h api.Hash) {
	t.Helper()
	if age, has := q.Age(h); age != 0 || has {
		t.Errorf("Age of %v = %d, %t; want 0, false", h, age, has)
	}
}

// holds fails unless the queue has just these hashes, the oldest one first.
func holds(t *testing.T, q *Queue, want []api.Hash) {
	t.Helper()
	if q.Len() != len(want) {
		t.Errorf("Len = %d; want %d", q.Len(), len(want))
	}
	for i, h := range want {
		if age, has := q.Age(h); age != len(want)-1-i || !has {
			t.Errorf("Age of the one of place %d of %d = %d, %t", i, len(want), age, has)
		}
	}
}

// filled is a queue onto which these were pushed.
func filled(t *testing.T, l []api.Hash) *Queue {
	t.Helper()
	q := New()
	for i, h := range l {
		if i < api.MaxRecents {
			taken(t, q, h)
		} else {
			pushes(t, q, h, l[i-api.MaxRecents])
		}
	}
	return q
}

// latest are those of a list that are there when all of it was pushed.
func latest(l []api.Hash) []api.Hash { return l[max(0, len(l)-api.MaxRecents):] }

// P12.1

func TestNewHasNone(t *testing.T) {
	q, o := New(), New()
	holds(t, q, nil)
	lacks(t, q, api.Hash{})
	lacks(t, q, hash(1))
	taken(t, q, hash(1))
	holds(t, o, nil)
	lacks(t, o, hash(1))
}

// TestCopyIsItsOwn copies queues of all numbers of hashes, and of the latest hash at all places, and pushes onto all of them.
func TestCopyIsItsOwn(t *testing.T) {
	for many := range 2*api.MaxRecents + 3 {
		l := hashes(0, many)
		q := filled(t, l)
		o := q.Copy()
		if o == q || o == nil {
			t.Fatalf("a copy of %d hashes is the queue itself, or none", many)
		}
		p := o.Copy()
		holds(t, o, latest(l))
		q.Push(hash(1000))
		o.Push(hash(1001))
		o.Push(hash(1002))
		holds(t, q, latest(append(hashes(0, many), hash(1000))))
		holds(t, o, latest(append(hashes(0, many), hash(1001), hash(1002))))
		holds(t, p, latest(l))
		lacks(t, q, hash(1001))
		lacks(t, o, hash(1000))
		lacks(t, p, hash(1000))
		lacks(t, p, hash(1001))
		for _, h := range latest(l) {
			refused(t, p, h, api.ErrThere)
		}
	}
}

// P12.2

func TestTheExample(t *testing.T) {
	a, b := hash(1), hash(2)
	q := New()
	taken(t, q, a)
	taken(t, q, b)
	holds(t, q, []api.Hash{a, b})
	refused(t, q, a, api.ErrThere)
	refused(t, q, b, api.ErrThere)
	holds(t, q, []api.Hash{a, b})
}

// TestTheOldestOneFalls pushes so many that the array is gone round some times.
func TestTheOldestOneFalls(t *testing.T) {
	l := hashes(0, 5*api.MaxRecents+7)
	q := New()
	for i, h := range l {
		if i < api.MaxRecents {
			taken(t, q, h)
		} else {
			pushes(t, q, h, l[i-api.MaxRecents])
			lacks(t, q, l[i-api.MaxRecents])
		}
		holds(t, q, latest(l[:i+1]))
		lacks(t, q, hash(i+1))
		lacks(t, q, api.Hash{})
	}
	for _, h := range l[:len(l)-api.MaxRecents] {
		lacks(t, q, h)
	}
}

// TestOneThatIsThere pushes once more what is there, the oldest one (which would fall) and the newest one among it.
func TestOneThatIsThere(t *testing.T) {
	for _, many := range []int{1, 2, 3, api.MaxRecents - 1, api.MaxRecents, api.MaxRecents + 1, 2*api.MaxRecents - 1, 2 * api.MaxRecents, 2*api.MaxRecents + 5} {
		l := latest(hashes(0, many))
		q := filled(t, hashes(0, many))
		for _, h := range l {
			refused(t, q, h, api.ErrThere)
			holds(t, q, l)
		}
		if many < api.MaxRecents {
			taken(t, q, hash(1000))
		} else {
			pushes(t, q, hash(1000), l[0])
		}
		holds(t, q, latest(append(hashes(0, many), hash(1000))))
	}
}

func TestOneThatFellComesAgain(t *testing.T) {
	l := hashes(0, api.MaxRecents+1)
	q := filled(t, l)
	refused(t, q, l[1], api.ErrThere)
	for i, h := range hashes(0, api.MaxRecents+1) { // each one fell just ahead of it
		pushes(t, q, h, l[i+1])
		l = append(l, h)
		holds(t, q, latest(l))
		lacks(t, q, l[i+1])
	}
}

// TestHashOfNoughts: it is a hash as others are, though it looks like none.
func TestHashOfNoughts(t *testing.T) {
	for _, ahead := range []int{0, 1, 70, api.MaxRecents - 1, api.MaxRecents, api.MaxRecents + 1} {
		l := hashes(0, ahead)
		q := filled(t, l)
		lacks(t, q, api.Hash{})
		l = append(l, api.Hash{})
		if ahead < api.MaxRecents {
			taken(t, q, api.Hash{})
		} else {
			pushes(t, q, api.Hash{}, l[ahead-api.MaxRecents])
		}
		for i, h := range hashes(1000, 1000+api.MaxRecents) {
			if age, has := q.Age(api.Hash{}); age != i || !has {
				t.Errorf("Age of noughts behind %d more = %d, %t", i, age, has)
			}
			refused(t, q, api.Hash{}, api.ErrThere)
			holds(t, q, latest(l))
			fallen, fell, e := q.Push(h)
			l = append(l, h)
			full := len(l) > api.MaxRecents
			if full && fallen != l[len(l)-1-api.MaxRecents] || fell != full || e != api.OK {
				t.Errorf("Push of %d behind noughts = %v, %t, %d", i, fallen, fell, e)
			}
		}
		lacks(t, q, api.Hash{})
		pushes(t, q, api.Hash{}, hash(1000))
	}
}

// TestHashesOneBitOff: all bits of a hash count.
func TestHashesOneBitOff(t *testing.T) {
	h := hash(77)
	for i := range h {
		for bit := range 8 {
			other := h
			other[i] ^= 1 << bit
			q := filled(t, []api.Hash{h})
			lacks(t, q, other)
			taken(t, q, other)
			holds(t, q, []api.Hash{h, other})
		}
	}
}

// P12.1 to P12.3, of queues that are not there

func TestWhatIsNotThere(t *testing.T) {
	for name, q := range notThere() {
		for range 2 {
			for _, h := range []api.Hash{{}, hash(1), hash(1)} {
				refused(t, q, h, api.ErrNil)
				lacks(t, q, h)
			}
		}
		if many := q.Len(); many != 0 {
			t.Errorf("%s: Len = %d", name, many)
		}
		if o := q.Copy(); o != nil {
			t.Errorf("%s: Copy = %v", name, o)
		}
	}
}

// P12.3

// TestAskingChangesNothing asks for ages, lengths and copies, and pushes what is there.
func TestAskingChangesNothing(t *testing.T) {
	for _, many := range []int{0, 1, 9, api.MaxRecents, api.MaxRecents + 9} {
		q := filled(t, hashes(0, many))
		was := *q
		for n := range many + 3 {
			q.Age(hash(n))
			q.Len()
			q.Copy()
		}
		for _, h := range latest(hashes(0, many)) {
			q.Push(h)
		}
		if *q != was {
			t.Errorf("asking changed a queue of %d", many)
		}
	}
}

// P12.4

// TestEachPushMakesOthersOlder follows each hash from its push to its fall.
func TestEachPushMakesOthersOlder(t *testing.T) {
	q := New()
	var all []api.Hash
	for n := range 3*api.MaxRecents + 2 {
		was := map[api.Hash]int{}
		for _, h := range all {
			if age, has := q.Age(h); has {
				was[h] = age
			}
		}
		fallen, fell, _ := q.Push(hash(n))
		if age, has := q.Age(hash(n)); age != 0 || !has {
			t.Errorf("what was pushed has the age %d, %t", age, has)
		}
		if fell != (len(was) == api.MaxRecents) || fell && was[fallen] != api.MaxRecents-1 {
			t.Errorf("of %d one of the age %d fell: %t", len(was), was[fallen], fell)
		}
		for h, age := range was {
			older, has := q.Age(h)
			if fell && h == fallen {
				lacks(t, q, h)
			} else if older != age+1 || !has {
				t.Errorf("one of the age %d has the age %d, %t", age, older, has)
			}
		}
		all = append(all, hash(n))
	}
}

// stack is what a queue must be, built otherwise: a list, the newest one first.
type stack []api.Hash

// push answers the stack with one more, and what Push must answer.
func (s stack) push(h api.Hash) (stack, api.Hash, bool, api.Errno) {
	if slices.Contains(s, h) {
		return s, api.Hash{}, false, api.ErrThere
	}
	more := append(stack{h}, s...)
	if len(more) <= 150 {
		return more, api.Hash{}, false, api.OK
	}
	return more[:150], more[150], true, api.OK
}

// draw answers numbers below n by a fixed rule.
func draw(seed uint32) func(n int) int {
	return func(n int) int {
		seed = seed*1664525 + 1013904223
		return int(seed>>8) % n
	}
}

// TestAgainstAStack has queues and their copies take, and answer, what stacks do.
func TestAgainstAStack(t *testing.T) {
	next := draw(12)
	told := map[string]int{}
	for range 12 {
		all, stacks := []*Queue{New()}, []stack{nil}
		for range 3000 {
			i, h := next(len(all)), hash(next(260))
			switch next(40) {
			case 0:
				if len(all) < 4 {
					all, stacks = append(all, all[i].Copy()), append(stacks, stacks[i])
				}
			case 1, 2, 3, 4, 5, 6, 7, 8:
				age := slices.Index(stacks[i], h)
				if got, has := all[i].Age(h); has != (age >= 0) || got != max(age, 0) {
					t.Errorf("Age = %d, %t; want %d", got, has, age)
				}
				told["age"]++
			case 9:
				want := slices.Clone(stacks[i])
				slices.Reverse(want)
				holds(t, all[i], want)
			default:
				var want api.Hash
				var falls bool
				var e api.Errno
				stacks[i], want, falls, e = stacks[i].push(h)
				fallen, fell, got := all[i].Push(h)
				if fallen != want || fell != falls || got != e {
					t.Errorf("Push = %v, %t, %d; want %v, %t, %d", fallen, fell, got, want, falls, e)
				}
				if fell {
					told["fallen"]++
				}
				told[e.Error()]++
			}
		}
	}
	for _, what := range []string{"age", "fallen", api.OK.Error(), api.ErrThere.Error()} {
		if told[what] < 1000 {
			t.Errorf("%s was drawn only %d times", what, told[what])
		}
	}
}
