package accounts

import (
	"bytes"
	"maps"
	"math/big"
	"slices"
	"testing"

	"ferryhouse/api"
)

const most = 1<<64 - 1

// key is the one of a number; those of other numbers are others, and none is of noughts.
func key(n int) api.Key { return api.Key{byte(n >> 8), byte(n), 31: 9} }

// account is the one of a number; those of other numbers are others, and none is blank.
func account(n int) api.Account {
	return api.Account{Coins: uint64(n) + 1, Owner: api.Key{3: byte(n)}, Space: uint64(n % 7)}
}

// holdings are those of the numbers from one up to, but without, another: by rising keys.
func holdings(from, to int) (l []api.Holding) {
	for n := from; n < to; n++ {
		l = append(l, api.Holding{Key: key(n), Account: account(n)})
	}
	return l
}

// notThere are stores that New did not make.
func notThere() map[string]*Store {
	return map[string]*Store{"nil": nil, "a store of noughts": {}}
}

// strangers are accounts of which only one part is none of a blank one's, and by one bit.
func strangers() (l []api.Account) {
	for bit := range 64 {
		l = append(l, api.Account{Coins: 1 << bit}, api.Account{Space: 1 << bit})
	}
	for i := range (api.Key{}) {
		for bit := range 8 {
			var owner api.Key
			owner[i] = 1 << bit
			l = append(l, api.Account{Owner: owner})
		}
	}
	return l
}

// put fails unless Put answers OK, and Get what was put.
func put(t *testing.T, s *Store, k api.Key, a api.Account) {
	t.Helper()
	if e := s.Put(k, a); e != api.OK {
		t.Errorf("Put of %v = %d; want %d", k, e, api.OK)
	}
	if got := s.Get(k); got != a {
		t.Errorf("Get of %v = %v; want %v", k, got, a)
	}
}

// filled is a store into which these were put, in this order.
func filled(t *testing.T, l ...api.Holding) *Store {
	t.Helper()
	s := New()
	for _, h := range l {
		put(t, s, h.Key, h.Account)
	}
	return s
}

// coins fails unless the coins of a store are that sum.
func coins(t *testing.T, s *Store, want *big.Int) {
	t.Helper()
	hi, lo := s.Coins()
	got := new(big.Int).SetUint64(hi)
	got.Lsh(got, 64).Add(got, new(big.Int).SetUint64(lo))
	if got.Cmp(want) != 0 {
		t.Errorf("Coins = %d, %d; want %v", hi, lo, want)
	}
}

// sum is that of the coins of these.
func sum(l []api.Holding) *big.Int {
	all := new(big.Int)
	for _, h := range l {
		all.Add(all, new(big.Int).SetUint64(h.Account.Coins))
	}
	return all
}

// holds fails unless the store has just these accounts (by rising keys, and none blank), whatever is asked.
func holds(t *testing.T, s *Store, want []api.Holding) {
	t.Helper()
	l := s.List()
	if !slices.Equal(l, want) {
		t.Errorf("List = %v; want %v", l, want)
	}
	if cap(l) != len(l) {
		t.Errorf("List of %d has room for %d", len(l), cap(l))
	}
	for _, h := range want {
		if a := s.Get(h.Key); a != h.Account {
			t.Errorf("Get of %v = %v; want %v", h.Key, a, h.Account)
		}
	}
	coins(t, s, sum(want))
}

// same fails unless Same tells that, from both ends.
func same(t *testing.T, name string, s, o *Store, want bool) {
	t.Helper()
	if got := s.Same(o); got != want {
		t.Errorf("%s: Same = %t", name, got)
	}
	if got := o.Same(s); got != want {
		t.Errorf("%s, the other way round: Same = %t", name, got)
	}
}

// P13.1

func TestNewIsBlank(t *testing.T) {
	s, o := New(), New()
	if s == nil || s == o {
		t.Fatal("New is no store, or always one")
	}
	for _, k := range []api.Key{{}, {3}, {31: 255}, key(1)} {
		if a := s.Get(k); a != (api.Account{}) {
			t.Errorf("Get of %v = %v", k, a)
		}
	}
	holds(t, s, nil)
	same(t, "two new ones", s, o, true)
	put(t, s, key(1), account(1))
	holds(t, o, nil)
	if a := o.Get(key(1)); a != (api.Account{}) {
		t.Errorf("another store's account = %v", a)
	}
}

func TestCopyIsItsOwn(t *testing.T) {
	for _, many := range []int{0, 1, 2, 8, 9, 300} {
		l := holdings(0, many)
		s := filled(t, l...)
		o := s.Copy()
		p := o.Copy()
		if o == nil || o == s || p == o || p == s {
			t.Fatalf("a copy of %d is the store itself, or none", many)
		}
		same(t, "a copy", s, o, true)
		same(t, "a copy's copy", s, p, true)
		put(t, s, key(1000), account(5))
		put(t, o, key(1001), account(6))
		holds(t, s, append(holdings(0, many), api.Holding{Key: key(1000), Account: account(5)}))
		holds(t, o, append(holdings(0, many), api.Holding{Key: key(1001), Account: account(6)}))
		holds(t, p, l)
		for _, h := range l {
			put(t, s, h.Key, api.Account{})
			put(t, o, h.Key, account(900))
		}
		holds(t, s, []api.Holding{{Key: key(1000), Account: account(5)}})
		holds(t, p, l)
		for _, h := range l {
			if a := o.Get(h.Key); a != account(900) {
				t.Errorf("Get of a copy = %v", a)
			}
		}
	}
}

// P13.2

func TestTheExample(t *testing.T) {
	a, b := key(1), key(2)
	s := New()
	put(t, s, a, api.Account{Coins: 5})
	put(t, s, b, api.Account{Coins: 7})
	put(t, s, a, api.Account{})
	holds(t, s, []api.Holding{{Key: b, Account: api.Account{Coins: 7}}})
	if hi, lo := s.Coins(); hi != 0 || lo != 7 {
		t.Errorf("Coins = %d, %d; want 0, 7", hi, lo)
	}
}

// TestPutReplaces has one account after the other by one key: no part of an earlier one is left.
func TestPutReplaces(t *testing.T) {
	s := filled(t, holdings(0, 3)...)
	for _, a := range append(strangers(), api.Account{Coins: most, Owner: api.Key{1, 31: 2}, Space: most}, account(1)) {
		put(t, s, key(1), a)
		holds(t, s, []api.Holding{{Key: key(0), Account: account(0)}, {Key: key(1), Account: a}, {Key: key(2), Account: account(2)}})
	}
}

// TestKeysOneBitOff: all bits of a key count.
func TestKeysOneBitOff(t *testing.T) {
	k := key(300)
	s := filled(t, api.Holding{Key: k, Account: account(1)})
	for i := range k {
		for bit := range 8 {
			other := k
			other[i] ^= 1 << bit
			if a := s.Get(other); a != (api.Account{}) {
				t.Errorf("Get of %v = %v", other, a)
			}
			put(t, s, other, account(2))
			if a := s.Get(k); a != account(1) {
				t.Errorf("Get of %v = %v", k, a)
			}
			put(t, s, other, api.Account{})
			holds(t, s, []api.Holding{{Key: k, Account: account(1)}})
		}
	}
}

// TestAnyKey: those of noughts, and of the known programs, have accounts as others do.
func TestAnyKey(t *testing.T) {
	l := []api.Holding{{Key: api.Key{}, Account: account(4)}, {Key: api.Key{3}, Account: account(2)}, {Key: api.Key(bytes.Repeat([]byte{255}, 32)), Account: account(9)}}
	s := filled(t, l...)
	holds(t, s, l)
	put(t, s, api.Key{}, api.Account{})
	holds(t, s, l[1:])
}

// P13.2, P13.3: what is blank

// TestBlankOnesAreNotThere puts blank accounts where some are, and where none is.
func TestBlankOnesAreNotThere(t *testing.T) {
	s := New()
	for range 2 {
		put(t, s, key(1), api.Account{})
		holds(t, s, nil)
		same(t, "of a blank account", s, New(), true)
	}
	s = filled(t, holdings(0, 9)...)
	put(t, s, key(20), api.Account{})
	holds(t, s, holdings(0, 9))
	for n := range 9 {
		put(t, s, key(n), api.Account{})
		holds(t, s, holdings(n+1, 9))
		same(t, "without some", s, filled(t, holdings(n+1, 9)...), true)
	}
	put(t, s, key(3), account(3))
	holds(t, s, holdings(3, 4))
}

// TestOnePartIsEnough: an account with an owner alone, or with some space alone, is not blank.
func TestOnePartIsEnough(t *testing.T) {
	for _, a := range strangers() {
		s := filled(t, api.Holding{Key: key(1), Account: a})
		holds(t, s, []api.Holding{{Key: key(1), Account: a}})
		same(t, "one part", s, New(), false)
		put(t, s, key(1), api.Account{})
		holds(t, s, nil)
	}
}

// P13.3

// TestListRises has keys that differ at one byte only, which is above 127 too, and ones of which an earlier byte counts more than all later ones.
func TestListRises(t *testing.T) {
	var keys []api.Key
	for i := range (api.Key{}) {
		for _, b := range []byte{1, 2, 127, 128, 255} {
			var alone, late api.Key
			alone[i] = b
			late[i] = b
			for j := i + 1; j < len(late); j++ {
				late[j] = 255
			}
			keys = append(keys, alone, late)
		}
	}
	s, want := New(), []api.Holding(nil)
	for n, k := range keys {
		put(t, s, k, account(n))
	}
	slices.SortFunc(keys, func(a, b api.Key) int { return bytes.Compare(a[:], b[:]) })
	for _, k := range slices.Compact(keys) {
		want = append(want, api.Holding{Key: k, Account: s.Get(k)})
	}
	for range 20 { // the map is gone through otherwise each time
		holds(t, s, want)
	}
}

func TestListIsItsOwn(t *testing.T) {
	s := filled(t, holdings(0, 20)...)
	l, m := s.List(), s.List()
	for i := range l {
		l[i] = api.Holding{Key: api.Key{250}, Account: api.Account{Coins: 251}}
	}
	_ = append(l[:3], holdings(100, 105)...)
	if !slices.Equal(m, holdings(0, 20)) {
		t.Errorf("two lists share their memory: %v", m)
	}
	holds(t, s, holdings(0, 20))
	put(t, s, key(3), account(77))
	if !slices.Equal(m, holdings(0, 20)) {
		t.Errorf("what was listed changed: %v", m)
	}
}

func TestListOfMany(t *testing.T) {
	for _, many := range []int{1, 2, 7, 8, 9, 100, 5000} {
		l := holdings(0, many)
		s := New()
		for i := range l { // not in the order of their keys
			h := l[i*3989%many]
			put(t, s, h.Key, h.Account)
		}
		holds(t, s, l)
	}
}

// TestCoinsHaveTwoHalves has sums at, and about, what has room in the low half.
func TestCoinsHaveTwoHalves(t *testing.T) {
	for _, c := range []struct {
		each   []uint64
		hi, lo uint64
	}{
		{nil, 0, 0},
		{[]uint64{0}, 0, 0},
		{[]uint64{most}, 0, most},
		{[]uint64{most - 1, 1}, 0, most},
		{[]uint64{most, 1}, 1, 0},
		{[]uint64{1, most}, 1, 0},
		{[]uint64{1 << 63, 1 << 63}, 1, 0},
		{[]uint64{most, most}, 1, most - 1},
		{[]uint64{most, most, 2}, 2, 0},
		{[]uint64{most, 0, most, 1}, 1, most},
		{slices.Repeat([]uint64{most}, 300), 299, most - 299},
	} {
		s := New()
		for n, coins := range c.each {
			put(t, s, key(n), api.Account{Coins: coins, Owner: api.Key{200}, Space: most})
		}
		if hi, lo := s.Coins(); hi != c.hi || lo != c.lo {
			t.Errorf("Coins of %d accounts = %d, %d; want %d, %d", len(c.each), hi, lo, c.hi, c.lo)
		}
	}
}

// TestCoinsFollow: they are those that are there now, not those that ever were.
func TestCoinsFollow(t *testing.T) {
	s := New()
	for n := range 50 {
		put(t, s, key(n%5), api.Account{Coins: most - uint64(n)})
	}
	holds(t, s, s.List())
	for n := range 5 {
		put(t, s, key(n), api.Account{Space: 1})
	}
	coins(t, s, new(big.Int))
}

// TestSameHangsOnAllOfThem has stores which differ by one part of one account, by its key, or by its being there.
func TestSameHangsOnAllOfThem(t *testing.T) {
	for _, many := range []int{0, 1, 5, 100} {
		l := holdings(0, many)
		s, o := filled(t, l...), filled(t, l...)
		same(t, "the store itself", s, s, true)
		same(t, "one of the same accounts", s, o, true)
		put(t, o, key(500), account(500))
		same(t, "one account more", s, o, false)
		put(t, s, key(501), account(500))
		same(t, "as many, of another key", s, o, false)
		put(t, s, key(500), account(500))
		put(t, o, key(501), account(500))
		same(t, "both of both keys", s, o, true)
		for _, a := range strangers() {
			put(t, o, key(500), a)
			same(t, "another account", s, o, false)
		}
		put(t, o, key(500), account(500))
		same(t, "as it was", s, o, true)
		put(t, o, key(500), account(501))
		put(t, s, key(501), account(501))
		same(t, "the same accounts, of each other's keys", s, o, false)
	}
}

// P13.1 to P13.3, of stores that are not there

func TestWhatIsNotThere(t *testing.T) {
	some := filled(t, holdings(0, 3)...)
	for name, s := range notThere() {
		for range 2 {
			for _, a := range []api.Account{{}, account(1)} {
				if e := s.Put(key(1), a); e != api.ErrNil {
					t.Errorf("%s: Put = %d; want %d", name, e, api.ErrNil)
				}
			}
			if a := s.Get(key(1)); a != (api.Account{}) {
				t.Errorf("%s: Get = %v", name, a)
			}
			if l := s.List(); l != nil {
				t.Errorf("%s: List = %v", name, l)
			}
			if hi, lo := s.Coins(); hi != 0 || lo != 0 {
				t.Errorf("%s: Coins = %d, %d", name, hi, lo)
			}
			if o := s.Copy(); o != nil {
				t.Errorf("%s: Copy = %v", name, o)
			}
		}
		for other, o := range notThere() {
			same(t, name+", and "+other, s, o, true)
		}
		same(t, name+", and a new one", s, New(), false)
		same(t, name+", and one of some", s, some, false)
	}
	holds(t, some, holdings(0, 3))
}

// TestAskingChangesNothing asks for whatever there is, and for what is not.
func TestAskingChangesNothing(t *testing.T) {
	s := filled(t, holdings(0, 30)...)
	o := filled(t, holdings(10, 40)...)
	was := maps.Clone(s.accounts)
	for n := range 60 {
		s.Get(key(n))
		s.List()
		s.Coins()
		s.Copy()
		s.Same(o)
		o.Same(s)
		s.Same(nil)
	}
	if !maps.Equal(s.accounts, was) {
		t.Error("asking changed a store")
	}
	holds(t, s, holdings(0, 30))
	holds(t, o, holdings(10, 40))
}

// P13.4

// draw answers numbers below n by a fixed rule.
func draw(seed uint32) func(n int) int {
	return func(n int) int {
		seed = seed*1664525 + 1013904223
		return int(seed>>8) % n
	}
}

// TestAnyOrder puts the same accounts in orders that are drawn, with earlier ones, and blank ones, of the same keys ahead of them.
func TestAnyOrder(t *testing.T) {
	next := draw(13)
	l := holdings(0, 40)
	want := filled(t, l...)
	for range 100 {
		s := New()
		for range 100 {
			put(t, s, key(next(40)), []api.Account{{}, account(next(100))}[next(2)])
		}
		order := slices.Clone(l)
		for i := range order {
			j := next(i + 1)
			order[i], order[j] = order[j], order[i]
		}
		for _, h := range order {
			put(t, s, h.Key, h.Account)
		}
		same(t, "in another order", s, want, true)
		holds(t, s, l)
	}
}

// TestAListMakesTheSame puts what List answers into new stores, from both ends.
func TestAListMakesTheSame(t *testing.T) {
	next := draw(7)
	for many := range 60 {
		s := New()
		for range many {
			put(t, s, key(next(30)), []api.Account{{}, account(next(30)), {Coins: most}, {Space: 1}, {Owner: api.Key{1}}}[next(5)])
		}
		l := s.List()
		same(t, "of its list", s, filled(t, l...), true)
		slices.Reverse(l)
		same(t, "of its list, turned round", s, filled(t, l...), true)
	}
}

// shelf is what a store must be, built otherwise: a list, by rising keys, none blank.
type shelf []api.Holding

// put answers the shelf with that as the key's account.
func (l shelf) put(k api.Key, a api.Account) shelf {
	less := slices.DeleteFunc(slices.Clone(l), func(h api.Holding) bool { return h.Key == k })
	if a.Coins == 0 && a.Owner == (api.Key{}) && a.Space == 0 {
		return less
	}
	more := append(less, api.Holding{Key: k, Account: a})
	slices.SortFunc(more, func(a, b api.Holding) int { return bytes.Compare(a.Key[:], b.Key[:]) })
	return more
}

// TestAgainstAShelf has stores and their copies take, and answer, what shelves do.
func TestAgainstAShelf(t *testing.T) {
	next := draw(31)
	told := map[bool]int{}
	for range 40 {
		all, shelves := []*Store{New()}, []shelf{nil}
		for range 1000 {
			i, j := next(len(all)), next(len(all))
			switch next(12) {
			case 0:
				if len(all) < 4 {
					all, shelves = append(all, all[i].Copy()), append(shelves, shelves[i])
				}
			case 1:
				holds(t, all[i], shelves[i])
			case 2, 3, 4:
				want := slices.Equal(shelves[i], shelves[j])
				same(t, "drawn ones", all[i], all[j], want)
				if i != j {
					told[want]++
				}
			default:
				k, a := key(next(3)), []api.Account{{}, {}, {}, {Coins: 1}, {Coins: most}, {Owner: api.Key{4}}, {Space: 2}}[next(7)]
				put(t, all[i], k, a)
				shelves[i] = shelves[i].put(k, a)
			}
		}
	}
	if told[true] < 100 || told[false] < 100 {
		t.Errorf("stores that are the same, and that are not, were drawn %v times", told)
	}
}
