package ledgers

import (
	"maps"
	"math/big"
	"reflect"
	"slices"
	"testing"

	"ferryhouse/accounts"
	"ferryhouse/api"
	"ferryhouse/roles"
	"ferryhouse/runs"
)

const most = 1<<64 - 1

var (
	p    = api.Key{'p'}
	q    = api.Key{'q'}
	x    = api.Key{31: 'x'}
	mine = api.Key{7, 31: 5}
)

// coins are an account's of System's, that has no space.
func coins(n uint64) api.Account { return api.Account{Coins: n} }

// numbers are a tag's bytes, and those of numbers behind it, the lowest first.
func numbers(tag byte, l ...uint64) []byte {
	b := []byte{tag, 0, 0, 0}
	for _, n := range l {
		for range 8 {
			b = append(b, byte(n))
			n >>= 8
		}
	}
	return b
}

// moving is an instruction by which so many coins are moved; the place of System is behind those of both.
func moving(n uint64) api.Instr {
	return api.Instr{Program: 2, Accounts: []byte{0, 1}, Data: numbers(2, n)}
}

// move is a transaction of one from whom coins are moved to another one, step by step.
func move(from, to api.Key, fee uint64, steps ...uint64) api.Ready {
	l := []api.Role{{Key: from, Signs: true, Writes: true}, {Key: to, Writes: true}, {Key: roles.System()}}
	r := api.Ready{Roles: l, Budget: api.Budget{Units: 1000, Bad: -1}, Fee: fee}
	for _, n := range steps {
		r.Tx.M.Instrs = append(r.Tx.M.Instrs, moving(n))
	}
	return r
}

// strange is a transaction that may not be run: a program of its is none of the roles.
func strange(from, to api.Key, fee uint64) api.Ready {
	r := move(from, to, fee, 1)
	r.Tx.M.Instrs[0].Program = 3
	return r
}

// store has these accounts.
func store(l ...api.Holding) *accounts.Store {
	s := accounts.New()
	for _, h := range l {
		s.Put(h.Key, h.Account)
	}
	return s
}

// has is a store of so many coins of p and of q.
func has(a, b uint64) *accounts.Store {
	return store(api.Holding{Key: p, Account: coins(a)}, api.Holding{Key: q, Account: coins(b)})
}

// missingOnes are stores that are not there.
func missingOnes() map[string]*accounts.Store {
	return map[string]*accounts.Store{"nothing": nil, "one that New did not make": {}, "a copy of nothing": (*accounts.Store)(nil).Copy()}
}

// stands fails unless the store has just these accounts.
func stands(t *testing.T, name string, s *accounts.Store, l ...api.Holding) {
	t.Helper()
	if !s.Same(store(l...)) {
		t.Errorf("%s: there is %v; want %v", name, s.List(), l)
	}
}

// twin is a ready one like that, all of whose memory is its own.
func twin(r api.Ready) api.Ready {
	r.Roles = slices.Clone(r.Roles)
	r.Tx.M.Instrs = slices.Clone(r.Tx.M.Instrs)
	for i := range r.Tx.M.Instrs {
		in := &r.Tx.M.Instrs[i]
		in.Accounts, in.Data = slices.Clone(in.Accounts), slices.Clone(in.Data)
	}
	return r
}

func twins(l []api.Ready) []api.Ready {
	out := slices.Clone(l)
	for i := range out {
		out[i] = twin(out[i])
	}
	return out
}

// own answers an outcome like that, and spoils that one's memory.
func own(o api.Outcome) api.Outcome {
	was := o
	was.Changed = slices.Clone(o.Changed)
	for i := range o.Changed {
		o.Changed[i] = api.Holding{Key: mine, Account: api.Account{Coins: 1, Owner: mine, Space: 1}}
	}
	return was
}

// commit answers what Commit does; it fails if Commit changes what it was handed, or keeps it.
func commit(t *testing.T, name string, s *accounts.Store, o api.Outcome) api.Errno {
	t.Helper()
	o0 := o
	o0.Changed = slices.Clone(o.Changed)
	e := Commit(s, o)
	if !reflect.DeepEqual(o, o0) {
		t.Errorf("%s: Commit changes what it was handed", name)
	}
	then := s.Copy()
	own(o)
	if !s.Same(then) {
		t.Errorf("%s: Commit keeps what it was handed", name)
	}
	copy(o.Changed, o0.Changed)
	return e
}

// apply answers what Apply does; it fails if Apply changes what it was handed but for the store, or answers memory that is not its own, or more than an error, or with an error changes the store.
func apply(t *testing.T, name string, s *accounts.Store, r api.Ready) (api.Outcome, api.Errno) {
	t.Helper()
	s0, r0 := s.Copy(), twin(r)
	o, e := Apply(s, r)
	if e != api.OK && (!reflect.DeepEqual(o, api.Outcome{}) || !s.Same(s0)) {
		t.Errorf("%s: Apply = %v beside %d; there is %v", name, o, e, s.List())
	}
	if cap(o.Changed) != len(o.Changed) {
		t.Errorf("%s: Apply has room for %d behind %d", name, cap(o.Changed), len(o.Changed))
	}
	then := s.Copy()
	was := own(o)
	if !s.Same(then) || !reflect.DeepEqual(r, r0) {
		t.Errorf("%s: Apply keeps, or changes, what it was handed, or answers what it keeps", name)
	}
	return was, e
}

// fold answers what Fold does; it fails if Fold changes what it was handed but for the store, or answers memory that is not its own.
func fold(t *testing.T, name string, s *accounts.Store, l []api.Ready) ([]api.Outcome, uint64, api.Errno) {
	t.Helper()
	l0 := twins(l)
	out, fees, e := Fold(s, l)
	if cap(out) != len(out) || out != nil && len(out) == 0 {
		t.Errorf("%s: Fold = %d, with room for %d", name, len(out), cap(out))
	}
	then := s.Copy()
	var was []api.Outcome
	for i, o := range out {
		if cap(o.Changed) != len(o.Changed) {
			t.Errorf("%s: Fold has room for %d behind %d", name, cap(o.Changed), len(o.Changed))
		}
		was = append(was, own(o))
		out[i] = api.Outcome{Fee: 1, Units: 1}
	}
	if !s.Same(then) || !reflect.DeepEqual(l, l0) {
		t.Errorf("%s: Fold keeps, or changes, what it was handed, or answers what it keeps", name)
	}
	return was, fees, e
}

// folds fails unless Fold answers that, and leaves such a store.
func folds(t *testing.T, name string, s *accounts.Store, l []api.Ready, want []api.Outcome, wantFees uint64, wantE api.Errno, then ...api.Holding) {
	t.Helper()
	out, fees, e := fold(t, name, s, l)
	if e != wantE || fees != wantFees || !reflect.DeepEqual(out, want) {
		t.Errorf("%s: Fold = %v, %d, %d; want %v, %d, %d", name, out, fees, e, want, wantFees, wantE)
	}
	stands(t, name, s, then...)
}

// moved is the outcome of a move of one step that does not fail, with these coins of both.
func moved(from, to api.Key, fee, a, b uint64) api.Outcome {
	return api.Outcome{At: -1, Units: 150, Fee: fee, Changed: []api.Holding{{Key: from, Account: coins(a)}, {Key: to, Account: coins(b)}}}
}

// failed is likewise, where it fails at its first step.
func failed(why api.Errno, from, to api.Key, fee, a, b uint64) api.Outcome {
	o := moved(from, to, fee, a, b)
	o.Fail, o.At = why, 0
	return o
}

func TestExample(t *testing.T) {
	r := move(p, q, 5000, 3000)
	s := has(20000, 0)
	o, e := apply(t, "the example", s, r)
	if want := moved(p, q, 5000, 12000, 3000); e != api.OK || !reflect.DeepEqual(o, want) {
		t.Errorf("Apply = %v, %d; want %v", o, e, want)
	}
	stands(t, "the example", s, api.Holding{Key: p, Account: coins(12000)}, api.Holding{Key: q, Account: coins(3000)})
	want := []api.Outcome{moved(p, q, 5000, 12000, 3000), moved(p, q, 5000, 4000, 6000)}
	folds(t, "the example, thrice", has(20000, 0), []api.Ready{r, r, r}, want, 10000, api.ErrFee, api.Holding{Key: p, Account: coins(4000)}, api.Holding{Key: q, Account: coins(6000)})
}

// P16.1

func TestCommitWithoutStore(t *testing.T) {
	for name, s := range missingOnes() {
		for _, o := range []api.Outcome{{}, {Changed: []api.Holding{}}, {Changed: []api.Holding{{Key: p, Account: coins(1)}}}, {Fail: api.ErrFunds}} {
			if e := commit(t, name, s, o); e != api.ErrNil {
				t.Errorf("%s: Commit = %d", name, e)
			}
		}
	}
}

func TestCommit(t *testing.T) {
	whole := api.Account{Coins: most, Owner: mine, Space: most}
	s := has(9, 5)
	if e := commit(t, "two", s, api.Outcome{Changed: []api.Holding{{Key: x, Account: whole}, {Key: p, Account: coins(8)}}}); e != api.OK {
		t.Errorf("Commit = %d", e)
	}
	stands(t, "two", s, api.Holding{Key: p, Account: coins(8)}, api.Holding{Key: q, Account: coins(5)}, api.Holding{Key: x, Account: whole})
	if e := commit(t, "blank ones", s, api.Outcome{Changed: []api.Holding{{Key: x}, {Key: q}, {Key: mine}}}); e != api.OK || len(s.List()) != 1 {
		t.Errorf("Commit = %d; there is %v", e, s.List())
	}
	stands(t, "blank ones", s, api.Holding{Key: p, Account: coins(8)})
}

// TestCommitNothing changes nothing; a store without accounts is there.
func TestCommitNothing(t *testing.T) {
	for _, l := range [][]api.Holding{nil, {}} {
		for _, s := range []*accounts.Store{accounts.New(), has(9, 5)} {
			was := s.Copy()
			if e := commit(t, "nothing", s, api.Outcome{Units: 5, Fee: 7, Space: 9, Changed: l}); e != api.OK || !s.Same(was) {
				t.Errorf("Commit = %d; there is %v", e, s.List())
			}
		}
	}
}

// TestCommitInOrder has keys that stand there often: the last one counts.
func TestCommitInOrder(t *testing.T) {
	var l []api.Holding
	for i := range 30 {
		l = append(l, api.Holding{Key: []api.Key{p, q, x}[i%3], Account: coins(uint64(i))})
	}
	s := has(9, 5)
	if e := commit(t, "often", s, api.Outcome{Changed: l}); e != api.OK {
		t.Errorf("Commit = %d", e)
	}
	stands(t, "often", s, l[27], l[28], l[29])
	commit(t, "blank, then not", s, api.Outcome{Changed: []api.Holding{{Key: p}, {Key: p, Account: coins(3)}, {Key: q, Account: coins(3)}, {Key: q}}})
	stands(t, "blank, then not", s, api.Holding{Key: p, Account: coins(3)}, l[29])
}

// TestCommitAsksForNoMore: whatever is told besides, accounts stand as it says, those of programs too.
func TestCommitAsksForNoMore(t *testing.T) {
	for _, o := range []api.Outcome{{Fail: api.ErrFunds, At: 3}, {At: -1, Units: most, Fee: most, Space: most}, {Fail: -5, At: -5}} {
		o.Changed = []api.Holding{{Account: coins(most)}, {Key: roles.Budget(), Account: coins(1)}}
		s := accounts.New()
		if e := commit(t, "whatever", s, o); e != api.OK {
			t.Errorf("Commit = %d", e)
		}
		stands(t, "whatever", s, o.Changed...)
	}
}

// P16.2

// TestApplyWithoutStore has all that is amiss besides, too.
func TestApplyWithoutStore(t *testing.T) {
	for name, s := range missingOnes() {
		for _, r := range []api.Ready{{}, move(p, q, 0, 1), move(p, q, 5, 1), strange(p, q, 0)} {
			if _, e := apply(t, name, s, r); e != api.ErrNil {
				t.Errorf("%s: Apply = %d", name, e)
			}
		}
	}
}

// TestApplyUnpaid: who does not pay is heard of ahead of what may not be run.
func TestApplyUnpaid(t *testing.T) {
	read, somebody := move(p, q, 1, 1), has(9, 5)
	read.Roles[0].Writes = false
	somebody.Put(p, api.Account{Coins: 9, Owner: mine})
	for name, k := range map[string]struct {
		s *accounts.Store
		r api.Ready
	}{
		"too few":     {has(9, 5), move(p, q, 10, 1)},
		"nobody":      {accounts.New(), move(p, q, 1)},
		"no roles":    {has(9, 5), api.Ready{}},
		"read":        {has(9, 5), read},
		"somebody's":  {somebody, move(p, q, 0, 1)},
		"too strange": {has(9, 5), strange(p, q, 10)},
	} {
		if _, e := apply(t, name, k.s, k.r); e != api.ErrFee {
			t.Errorf("%s: Apply = %d", name, e)
		}
	}
}

// TestApplyStrange: nobody pays for what may not be run.
func TestApplyStrange(t *testing.T) {
	for _, fee := range []uint64{0, 5, 9} {
		if _, e := apply(t, "strange", has(9, 5), strange(p, q, fee)); e != api.ErrArg {
			t.Errorf("fee %d: Apply = %d", fee, e)
		}
	}
	late := move(p, q, 1, 1, 1, 1)
	late.Tx.M.Instrs[2].Program = 200
	if _, e := apply(t, "strange at last", has(9, 5), late); e != api.ErrArg {
		t.Errorf("strange at last: Apply = %d", e)
	}
}

// TestApplyFailed: who fails pays, and nothing else happened.
func TestApplyFailed(t *testing.T) {
	s := has(20, 5)
	o, e := apply(t, "too much", s, move(p, q, 3, 18))
	if want := failed(api.ErrFunds, p, q, 3, 17, 5); e != api.OK || !reflect.DeepEqual(o, want) {
		t.Errorf("Apply = %v, %d; want %v", o, e, want)
	}
	stands(t, "too much", s, api.Holding{Key: p, Account: coins(17)}, api.Holding{Key: q, Account: coins(5)})
	o, e = apply(t, "too much at last", s, move(p, q, 17, 0, 0, 1))
	want := failed(api.ErrFunds, p, q, 17, 0, 5)
	want.At, want.Units = 2, 450
	if e != api.OK || !reflect.DeepEqual(o, want) {
		t.Errorf("Apply = %v, %d; want %v", o, e, want)
	}
	stands(t, "too much at last", s, api.Holding{Key: q, Account: coins(5)})
}

// TestApplySpace has an account made, and filled: a store without accounts of its needs none.
func TestApplySpace(t *testing.T) {
	r := move(p, q, 3)
	r.Roles[1].Signs = true
	r.Tx.M.Instrs = []api.Instr{{Program: 2, Accounts: []byte{0, 1}, Data: append(numbers(0, 4, 70), mine[:]...)}, moving(5)}
	s := has(20, 0)
	o, e := apply(t, "made", s, r)
	made := api.Account{Coins: 9, Owner: mine, Space: 70}
	want := moved(p, q, 3, 8, 0)
	want.Units, want.Space, want.Changed[1].Account = 300, 70, made
	if e != api.OK || !reflect.DeepEqual(o, want) {
		t.Errorf("Apply = %v, %d; want %v", o, e, want)
	}
	stands(t, "made", s, api.Holding{Key: p, Account: coins(8)}, api.Holding{Key: q, Account: made})
}

// TestApplyReads: what is only read is not committed.
func TestApplyReads(t *testing.T) {
	r := api.Ready{Roles: []api.Role{{Key: p, Writes: true}, {Key: q, Signs: true}, {Key: x}}, Fee: 2}
	s := has(20, 7)
	o, e := apply(t, "read", s, r)
	if want := (api.Outcome{At: -1, Fee: 2, Changed: []api.Holding{{Key: p, Account: coins(18)}}}); e != api.OK || !reflect.DeepEqual(o, want) {
		t.Errorf("Apply = %v, %d; want %v", o, e, want)
	}
	stands(t, "read", s, api.Holding{Key: p, Account: coins(18)}, api.Holding{Key: q, Account: coins(7)})
}

// TestApplyTwice: a key that is written by two roles stands as the last one of them says.
func TestApplyTwice(t *testing.T) {
	s := has(20, 0)
	o, e := apply(t, "twice", s, api.Ready{Roles: []api.Role{{Key: p, Writes: true}, {Key: p, Writes: true}}, Fee: 2})
	if e != api.OK || !slices.Equal(o.Changed, []api.Holding{{Key: p, Account: coins(18)}, {Key: p, Account: coins(20)}}) {
		t.Errorf("Apply = %v, %d", o, e)
	}
	stands(t, "twice", s, api.Holding{Key: p, Account: coins(20)})
	apply(t, "written, then read", s, api.Ready{Roles: []api.Role{{Key: p, Writes: true}, {Key: p}}, Fee: 2})
	stands(t, "written, then read", s, api.Holding{Key: p, Account: coins(18)})
}

// P16.3

// TestFoldWithoutStore: whatever is told.
func TestFoldWithoutStore(t *testing.T) {
	for name, s := range missingOnes() {
		for _, l := range [][]api.Ready{nil, {}, {{}}, {move(p, q, 0, 1)}, {strange(p, q, 0), move(p, q, 1)}} {
			if out, fees, e := fold(t, name, s, l); e != api.ErrNil || out != nil || fees != 0 {
				t.Errorf("%s: Fold = %v, %d, %d", name, out, fees, e)
			}
		}
	}
}

func TestFoldNothing(t *testing.T) {
	for _, l := range [][]api.Ready{nil, {}} {
		folds(t, "nothing", has(9, 5), l, nil, 0, api.OK, has(9, 5).List()...)
		folds(t, "nothing, nobody", accounts.New(), l, nil, 0, api.OK)
	}
}

// TestFoldStepByStep: each has what those ahead of it left.
func TestFoldStepByStep(t *testing.T) {
	l := []api.Ready{move(p, q, 1, 9), move(q, x, 2, 7), move(x, p, 3, 4), move(p, q, 0, 5), move(p, x, 1, 3)}
	folds(t, "round", has(10, 0), l, []api.Outcome{
		moved(p, q, 1, 0, 9), moved(q, x, 2, 0, 7), moved(x, p, 3, 0, 4), failed(api.ErrFunds, p, q, 0, 4, 0), moved(p, x, 1, 0, 3),
	}, 7, api.OK, api.Holding{Key: x, Account: coins(3)})
}

// TestFoldGoesOnWhereOneFails: a failure is no error, and its fee counts.
func TestFoldGoesOnWhereOneFails(t *testing.T) {
	l := []api.Ready{move(p, q, 4, 99), move(p, q, 3, 99), move(p, q, 2, 1)}
	folds(t, "failures", has(10, 0), l, []api.Outcome{
		failed(api.ErrFunds, p, q, 4, 6, 0), failed(api.ErrFunds, p, q, 3, 3, 0), moved(p, q, 2, 0, 1),
	}, 9, api.OK, api.Holding{Key: q, Account: coins(1)})
}

// TestFoldStops has one with an error at each place, and behind it those that would be well, and another one with another error.
func TestFoldStops(t *testing.T) {
	for many := range 6 {
		for at := range many + 1 {
			for why, bad := range map[api.Errno]api.Ready{api.ErrFee: move(x, q, 1, 1), api.ErrArg: strange(p, q, 1)} {
				l := slices.Repeat([]api.Ready{move(p, q, 2, 3)}, many)
				l = append(slices.Insert(l, at, bad), strange(p, q, 1), move(x, q, 1))
				var want []api.Outcome
				a, b := uint64(100), uint64(0)
				for range at {
					a, b = a-5, b+3
					want = append(want, moved(p, q, 2, a, b))
				}
				folds(t, "one with an error", has(100, 0), l, want, 2*uint64(at), why, has(a, b).List()...)
			}
		}
	}
}

// TestFoldFees has sums about the greatest number: held there, whatever comes behind, and where it stops, too.
func TestFoldFees(t *testing.T) {
	for _, k := range []struct {
		l    []uint64
		want uint64
	}{
		{[]uint64{most}, most},
		{[]uint64{most - 1, 1}, most},
		{[]uint64{most - 1, 2}, most},
		{[]uint64{most - 3, 1, 1}, most - 1},
		{[]uint64{1 << 63, 1 << 63}, most},
		{[]uint64{1 << 63, 1<<63 - 1}, most},
		{[]uint64{1 << 63, 1<<63 - 2}, most - 1},
		{[]uint64{most, most, most}, most},
		{[]uint64{most, 1, 0, 7}, most},
		{[]uint64{1 << 32, 1 << 32}, 1 << 33},
	} {
		for _, bad := range []bool{false, true} {
			s := accounts.New()
			var l []api.Ready
			var want []api.Outcome
			for i, fee := range k.l { // nobody could pay all of them: each is another one's
				who := api.Key{1, byte(i)}
				s.Put(who, coins(fee))
				l = append(l, move(who, x, fee))
				want = append(want, api.Outcome{At: -1, Fee: fee, Changed: []api.Holding{{Key: who}, {Key: x}}})
			}
			e := api.OK
			if bad {
				l, e = append(l, move(q, x, 1)), api.ErrFee
			}
			folds(t, "fees", s, l, want, k.want, e)
		}
	}
}

// TestFoldKeepsNothing: the same again, of the same store, makes the same.
func TestFoldKeepsNothing(t *testing.T) {
	l := []api.Ready{move(p, q, 1, 9), move(q, p, 2, 99)}
	first, fees, _ := fold(t, "first", has(50, 50), l)
	fold(t, "between", has(3, 0), []api.Ready{move(p, q, 2, 1), move(p, q, 2, 1)})
	folds(t, "once more", has(50, 50), l, first, fees, api.OK, has(40, 57).List()...)
}

func draw(seed *uint32, n int) int {
	*seed = *seed*1664525 + 1013904223
	return int(*seed>>8) % n
}

// purses is a second store, for coins of System's accounts alone; a fold of moves on it is worked out without runs.
type purses map[api.Key]*big.Int

func (m purses) of(k api.Key) *big.Int {
	if m[k] == nil {
		m[k] = new(big.Int)
	}
	return m[k]
}

// slow is a second Fold, of what move and strange answer: coins go from purse to purse, and back where it fails.
func (m purses) slow(l []api.Ready) (out []api.Outcome, fees uint64, e api.Errno) {
	sum := new(big.Int)
	for _, r := range l {
		from, to := m.of(r.Roles[0].Key), m.of(r.Roles[1].Key)
		fee := new(big.Int).SetUint64(r.Fee)
		if from.Cmp(fee) < 0 {
			e = api.ErrFee
			break
		}
		if slices.ContainsFunc(r.Tx.M.Instrs, func(in api.Instr) bool { return in.Program > 2 }) {
			e = api.ErrArg
			break
		}
		from.Sub(from, fee)
		sum.Add(sum, fee)
		o := slowMoves(from, to, r)
		o.Changed = []api.Holding{{Key: r.Roles[0].Key, Account: coins(from.Uint64())}, {Key: r.Roles[1].Key, Account: coins(to.Uint64())}}
		out = append(out, o)
	}
	if !sum.IsUint64() {
		return out, most, e
	}
	return out, sum.Uint64(), e
}

// slowMoves moves coins by all steps, and then, if one is too much, moves those back that were moved.
func slowMoves(from, to *big.Int, r api.Ready) api.Outcome {
	o := api.Outcome{At: -1, Fee: r.Fee}
	gone := new(big.Int)
	for i, in := range r.Tx.M.Instrs {
		o.Units += 150
		n := big.NewInt(int64(in.Data[4]))
		if from.Cmp(n) < 0 {
			o.Fail, o.At = api.ErrFunds, i
			from.Add(from, gone)
			to.Sub(to, gone)
			return o
		}
		from.Sub(from, n)
		to.Add(to, n)
		gone.Add(gone, n)
	}
	return o
}

// drawnMove is one from one of few to another one of them.
func drawnMove(seed *uint32) api.Ready {
	keys := []api.Key{p, q, x, mine}
	i := draw(seed, 4)
	from, to := keys[i], keys[(i+1+draw(seed, 3))%4]
	fee := uint64(draw(seed, 6))
	if draw(seed, 40) == 0 {
		return strange(from, to, fee)
	}
	var steps []uint64
	for range draw(seed, 4) {
		steps = append(steps, uint64(draw(seed, 25)))
	}
	return move(from, to, fee, steps...)
}

// TestDrawn holds folds of many moves against the second Fold; coins and fees stay what they were, together.
func TestDrawn(t *testing.T) {
	seed := uint32(16)
	ends, fails := map[api.Errno]int{}, 0
	for range 8000 {
		s, m := accounts.New(), purses{}
		for _, k := range []api.Key{p, q, x, mine} {
			n := draw(&seed, 60)
			s.Put(k, coins(uint64(n)))
			m[k] = big.NewInt(int64(n))
		}
		var l []api.Ready
		for range draw(&seed, 12) {
			l = append(l, drawnMove(&seed))
		}
		_, was := s.Coins()
		out, fees, e := fold(t, "drawn", s, l)
		want, wantFees, wantE := m.slow(l)
		if e != wantE || fees != wantFees || !reflect.DeepEqual(out, want) {
			t.Fatalf("Fold of %v = %v, %d, %d; want %v, %d, %d", l, out, fees, e, want, wantFees, wantE)
		}
		for k, n := range m {
			if s.Get(k) != coins(n.Uint64()) {
				t.Fatalf("Fold of %v leaves %v for %v; want %v", l, s.Get(k), k, n)
			}
		}
		if _, is := s.Coins(); is+fees != was {
			t.Fatalf("Fold of %v: %d coins and %d fees; there were %d", l, is, fees, was)
		}
		ends[e]++
		for _, o := range out {
			if o.Fail != api.OK {
				fails++
			}
		}
	}
	if ends[api.OK] < 500 || ends[api.ErrFee] < 500 || ends[api.ErrArg] < 500 || fails < 5000 {
		t.Errorf("drawn: %v, %d failures", ends, fails)
	}
}

// TestFoldIsApply: Fold of a list is Apply of each, up to the first one that has an error.
func TestFoldIsApply(t *testing.T) {
	seed := uint32(163)
	for range 3000 {
		s := store(api.Holding{Key: p, Account: coins(uint64(draw(&seed, 50)))}, api.Holding{Key: q, Account: coins(uint64(draw(&seed, 50)))}, api.Holding{Key: x, Account: api.Account{Coins: 4, Owner: mine, Space: 3}})
		o := s.Copy()
		var l []api.Ready
		for range draw(&seed, 9) {
			l = append(l, drawnMove(&seed))
		}
		out, _, e := fold(t, "as applied", s, l)
		var want []api.Outcome
		wantE := api.OK
		for i := 0; i < len(l) && wantE == api.OK; i++ {
			var one api.Outcome
			if one, wantE = apply(t, "each", o, l[i]); wantE == api.OK {
				want = append(want, one)
			}
		}
		if e != wantE || !reflect.DeepEqual(out, want) || !s.Same(o) {
			t.Fatalf("Fold of %v = %v, %d, and leaves %v; Apply of each: %v, %d, %v", l, out, e, s.List(), want, wantE, o.List())
		}
	}
}

// P16.4

// apart answers transactions none of which conflicts with another one, all of which are paid, and a store for them. All of them read x; several move, several fail.
func apart(seed *uint32) ([]api.Ready, *accounts.Store) {
	s := store(api.Holding{Key: x, Account: api.Account{Coins: 8, Owner: mine}})
	var l []api.Ready
	for i := range 1 + draw(seed, 8) {
		from, to := api.Key{1, byte(i)}, api.Key{2, byte(i)}
		s.Put(from, coins(uint64(10+draw(seed, 40))))
		s.Put(to, coins(uint64(draw(seed, 2)*draw(seed, 40))))
		r := move(from, to, uint64(draw(seed, 10)), uint64(draw(seed, 30)), uint64(draw(seed, 20)))
		r.Roles = append(r.Roles, api.Role{Key: x})
		l = append(l, r)
	}
	return l, s
}

// order is the places of so many, in some order.
func order(seed *uint32, many int) []int {
	var l []int
	for i := range many {
		l = slices.Insert(l, draw(seed, i+1), i)
	}
	return l
}

// TestApart: those that don't conflict may be loaded all at once, run in any order, and committed in any order.
func TestApart(t *testing.T) {
	seed := uint32(164)
	fails := 0
	for range 3000 {
		l, s := apart(&seed)
		for i := range l {
			for j := range i {
				if roles.Conflict(l[i].Roles, l[j].Roles) {
					t.Fatalf("%v and %v conflict", l[i], l[j])
				}
			}
		}
		o := s.Copy()
		want, _, e := fold(t, "apart", s, l)
		if e != api.OK {
			t.Fatalf("Fold of %v: %d", l, e)
		}
		loaded, out := make([][]api.Account, len(l)), make([]api.Outcome, len(l))
		for i, r := range l {
			loaded[i], _ = runs.Load(o, r)
		}
		for _, i := range order(&seed, len(l)) {
			out[i], _ = runs.Run(l[i], loaded[i])
		}
		for _, i := range order(&seed, len(l)) {
			commit(t, "apart", o, out[i])
			if out[i].Fail != api.OK {
				fails++
			}
		}
		if !reflect.DeepEqual(out, want) || !s.Same(o) {
			t.Fatalf("%v: apart they make %v, and %v; Fold %v, and %v", l, out, o.List(), want, s.List())
		}
	}
	if fails < 1000 {
		t.Errorf("drawn: %d failures", fails)
	}
}

// TestApartInAnyOrder: they may be folded in any order.
func TestApartInAnyOrder(t *testing.T) {
	seed := uint32(165)
	for range 1000 {
		l, s := apart(&seed)
		o := s.Copy()
		want, wantFees, _ := fold(t, "apart", s, l)
		places := order(&seed, len(l))
		var others []api.Ready
		for _, i := range places {
			others = append(others, l[i])
		}
		out, fees, e := fold(t, "in another order", o, others)
		if e != api.OK || fees != wantFees || !s.Same(o) {
			t.Fatalf("%v: Fold = %d, %d; want %d", places, fees, e, wantFees)
		}
		for at, i := range places {
			if !reflect.DeepEqual(out[at], want[i]) {
				t.Fatalf("%v: Fold = %v; want %v", places, out, want)
			}
		}
	}
}

// TestFoldBehindFold: Fold of a list, and of another one behind it, is Fold of both, wherever the second one stops.
func TestFoldBehindFold(t *testing.T) {
	seed := uint32(166)
	ends := map[api.Errno]int{}
	for range 2000 {
		s := has(uint64(60+draw(&seed, 80)), uint64(60+draw(&seed, 80)))
		var l []api.Ready
		for range 1 + draw(&seed, 8) {
			l = append(l, drawnMove(&seed))
		}
		whole := s.Copy()
		want, wantFees, wantE := fold(t, "both", whole, l)
		ends[wantE]++
		for at := range len(want) + 1 {
			o := s.Copy()
			first, a, e := fold(t, "first", o, l[:at])
			second, b, then := fold(t, "second", o, l[at:])
			if e != api.OK || then != wantE || a+b != wantFees || !reflect.DeepEqual(append(first, second...), want) || !o.Same(whole) {
				t.Fatalf("%v, %d ahead: Fold = %v, %d, %d, then %v, %d, %d; want %v, %d, %d", l, at, first, a, e, second, b, then, want, wantFees, wantE)
			}
		}
	}
	if len(slices.Collect(maps.Keys(ends))) != 3 {
		t.Errorf("drawn: %v", ends)
	}
}

// TestOtherStores: what is done to one store is not done to another one. (R5)
func TestOtherStores(t *testing.T) {
	s, other := has(20, 0), has(20, 0)
	o := s.Copy()
	apply(t, "one", s, move(p, q, 1, 1))
	fold(t, "one", s, []api.Ready{move(p, q, 1, 1)})
	commit(t, "one", s, api.Outcome{Changed: []api.Holding{{Key: x, Account: coins(1)}}})
	stands(t, "one", s, api.Holding{Key: p, Account: coins(16)}, api.Holding{Key: q, Account: coins(2)}, api.Holding{Key: x, Account: coins(1)})
	if !o.Same(has(20, 0)) || !other.Same(o) {
		t.Errorf("others have %v and %v", o.List(), other.List())
	}
}
