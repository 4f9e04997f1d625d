package runs

import (
	"math/big"
	"reflect"
	"slices"
	"testing"

	"ferryhouse/accounts"
	"ferryhouse/api"
	"ferryhouse/roles"
	"ferryhouse/systems"
)

const most = 1<<64 - 1

var (
	p       = api.Key{'p'}
	q       = api.Key{'q'}
	x       = api.Key{31: 'x'}
	mine    = api.Key{7, 31: 5}
	unknown = api.Key{8}
)

// bytes are those of a tag, and of numbers, the lowest first.
func bytes(tag byte, numbers ...uint64) []byte {
	b := []byte{tag, 0, 0, 0}
	for _, n := range numbers {
		for range 8 {
			b = append(b, byte(n))
			n >>= 8
		}
	}
	return b
}

// The places of the programs among the roles that trio answers.
const (
	ofSystem  = 3
	ofBudget  = 4
	ofUnknown = 5
)

// Instructions for trio. Of System: to make an account, to assign one, to move coins, to take space.
func making(coins, space uint64, owner api.Key, at ...byte) api.Instr {
	return api.Instr{Program: ofSystem, Accounts: at, Data: append(bytes(0, coins, space), owner[:]...)}
}
func assigning(owner api.Key, at ...byte) api.Instr {
	return api.Instr{Program: ofSystem, Accounts: at, Data: append(bytes(1), owner[:]...)}
}
func moving(coins uint64, from, to byte) api.Instr {
	return api.Instr{Program: ofSystem, Accounts: []byte{from, to}, Data: bytes(2, coins)}
}
func spacing(space uint64, at byte) api.Instr {
	return api.Instr{Program: ofSystem, Accounts: []byte{at}, Data: bytes(8, space)}
}
func words() api.Instr { return api.Instr{Program: ofBudget, Data: []byte{9, 9}} }
func other() api.Instr { return api.Instr{Program: ofUnknown} }

// trio is a transaction of these instructions: p and q sign and are written, x is read; then come three programs.
func trio(in ...api.Instr) api.Ready {
	l := []api.Role{{Key: p, Signs: true, Writes: true}, {Key: q, Signs: true, Writes: true}, {Key: x}, {Key: roles.System()}, {Key: roles.Budget()}, {Key: unknown}}
	return api.Ready{Tx: api.Tx{M: api.Message{Instrs: in}}, Roles: l, Budget: api.Budget{Units: 1000, Bad: -1}, Fee: 5000}
}

// coins are accounts of System's without space, of so many; they are six, as trio has roles.
func coins(l ...uint64) []api.Account {
	out := make([]api.Account, 6)
	for i, n := range l {
		out[i].Coins = n
	}
	return out
}

// twin is a ready one like that, all of whose memory is its own.
func twin(r api.Ready) api.Ready {
	r.Roles = slices.Clone(r.Roles)
	r.Tx.M.Instrs = slices.Clone(r.Tx.M.Instrs)
	for i := range r.Tx.M.Instrs {
		in := &r.Tx.M.Instrs[i]
		in.Accounts, in.Data = slices.Clone(in.Accounts), slices.Clone(in.Data)
	}
	return r
}

// store has these accounts.
func store(l ...api.Holding) *accounts.Store {
	s := accounts.New()
	for _, h := range l {
		s.Put(h.Key, h.Account)
	}
	return s
}

// load answers what Load does; it fails if Load changes the store, or what it was handed, or answers memory that is not its own, or more than an error.
func load(t *testing.T, name string, s *accounts.Store, r api.Ready) ([]api.Account, api.Errno) {
	t.Helper()
	s0, r0 := s.Copy(), twin(r)
	l, e := Load(s, r)
	if e != api.OK && l != nil {
		t.Errorf("%s: Load = %v beside %d", name, l, e)
	}
	if e == api.OK && (len(l) != len(r.Roles) || cap(l) != len(l)) {
		t.Errorf("%s: Load for %d roles = %d, with room for %d", name, len(r.Roles), len(l), cap(l))
	}
	was := slices.Clone(l)
	for i := range l {
		l[i] = api.Account{Coins: 1, Owner: mine, Space: 1}
	}
	if !s.Same(s0) || !reflect.DeepEqual(r, r0) {
		t.Errorf("%s: Load changes what it was handed", name)
	}
	return was, e
}

// run answers what Run does; it fails if Run changes what it was handed, or answers memory that is not its own, or more than an error.
func run(t *testing.T, name string, r api.Ready, l []api.Account) (api.Outcome, api.Errno) {
	t.Helper()
	r0, l0 := twin(r), slices.Clone(l)
	o, e := Run(r, l)
	if e != api.OK && !reflect.DeepEqual(o, api.Outcome{}) {
		t.Errorf("%s: Run = %v beside %d", name, o, e)
	}
	if cap(o.Changed) != len(o.Changed) {
		t.Errorf("%s: Run has room for %d behind %d", name, cap(o.Changed), len(o.Changed))
	}
	was := o
	was.Changed = slices.Clone(o.Changed)
	for i := range o.Changed {
		o.Changed[i] = api.Holding{Key: mine, Account: api.Account{Coins: 1, Owner: mine, Space: 1}}
	}
	if !reflect.DeepEqual(r, r0) || !slices.Equal(l, l0) {
		t.Errorf("%s: Run changes what it was handed", name)
	}
	return was, e
}

// comes fails unless that comes of it.
func comes(t *testing.T, name string, r api.Ready, l []api.Account, want api.Outcome) {
	t.Helper()
	o, e := run(t, name, r, l)
	if e != api.OK || !reflect.DeepEqual(o, want) {
		t.Errorf("%s: Run = %v, %d; want %v", name, o, e, want)
	}
}

// well is what comes of a trio that does not fail, with these accounts of p and q.
func well(units, space uint64, a, b api.Account) api.Outcome {
	return api.Outcome{At: -1, Units: units, Fee: 5000, Space: space, Changed: []api.Holding{{Key: p, Account: a}, {Key: q, Account: b}}}
}

// ill is what comes of a trio that fails, of these accounts.
func ill(why api.Errno, at int, units uint64, l []api.Account) api.Outcome {
	o := well(units, 0, l[0], l[1])
	o.Fail, o.At = why, at
	return o
}

// P15.1

func TestExample(t *testing.T) {
	s := store(api.Holding{Key: p, Account: api.Account{Coins: 20000}})
	r := trio(moving(3000, 0, 1))
	r.Budget.Units = 400000
	l, e := load(t, "the example", s, r)
	if e != api.OK || !slices.Equal(l, coins(15000)) {
		t.Errorf("Load = %v, %d", l, e)
	}
	comes(t, "the example", r, l, well(150, 0, api.Account{Coins: 12000}, api.Account{Coins: 3000}))
}

// TestLoadWithoutStore has all that is amiss besides, too.
func TestLoadWithoutStore(t *testing.T) {
	unwritten := trio()
	unwritten.Roles[0].Writes = false
	for name, s := range map[string]*accounts.Store{"nothing": nil, "one that New did not make": {}, "a copy of nothing": (*accounts.Store)(nil).Copy()} {
		for _, r := range []api.Ready{{}, trio(), {Roles: []api.Role{{Key: p, Writes: true}}}, unwritten} {
			if _, e := load(t, name, s, r); e != api.ErrNil {
				t.Errorf("%s: Load = %d", name, e)
			}
		}
	}
}

// TestLoadFromEmptyStore: one without accounts is there.
func TestLoadFromEmptyStore(t *testing.T) {
	if _, e := load(t, "a fee", accounts.New(), trio()); e != api.ErrFee {
		t.Errorf("Load = %d", e)
	}
	r := trio()
	r.Fee = 0
	if l, e := load(t, "no fee", accounts.New(), r); e != api.OK || !slices.Equal(l, coins()) {
		t.Errorf("Load = %v, %d", l, e)
	}
}

func TestLoadWithoutRoles(t *testing.T) {
	s := store(api.Holding{Account: api.Account{Coins: most}})
	for name, l := range map[string][]api.Role{"none": nil, "an empty list": {}} {
		for _, fee := range []uint64{0, 1, most} {
			if _, e := load(t, name, s, api.Ready{Roles: l, Fee: fee}); e != api.ErrFee {
				t.Errorf("%s, fee %d: Load = %d", name, fee, e)
			}
		}
	}
}

// TestLoadFirstWrites has only the first role asked whether it writes, and nobody whether he signs.
func TestLoadFirstWrites(t *testing.T) {
	s := store(api.Holding{Key: p, Account: api.Account{Coins: 9}}, api.Holding{Key: q, Account: api.Account{Coins: 9}})
	for bits := range 16 {
		l := []api.Role{{Key: p, Signs: bits&1 > 0, Writes: bits&2 > 0}, {Key: q, Signs: bits&4 > 0, Writes: bits&8 > 0}}
		want := api.ErrFee
		if l[0].Writes {
			want = api.OK
		}
		if _, e := load(t, "of two", s, api.Ready{Roles: l, Fee: 1}); e != want {
			t.Errorf("%v: Load = %d; want %d", l, e, want)
		}
		// That the key is written by another role does not help.
		l[1].Key = p
		if _, e := load(t, "of one, twice", s, api.Ready{Roles: l, Fee: 1}); e != want {
			t.Errorf("%v: Load = %d; want %d", l, e, want)
		}
	}
}

func TestLoadFee(t *testing.T) {
	for _, has := range []uint64{0, 1, 2, 4999, 5000, 5001, 1<<32 - 1, 1 << 32, 1 << 63, most - 1, most} {
		s := store(api.Holding{Key: p, Account: api.Account{Coins: has}}, api.Holding{Key: q, Account: api.Account{Coins: most}})
		for _, fee := range []uint64{0, 1, 2, 4999, 5000, 5001, 1<<32 - 1, 1 << 32, 1 << 63, most - 1, most, has, has - 1, has + 1} {
			r := trio()
			r.Fee = fee
			l, e := load(t, "a fee", s, r)
			if has < fee && e != api.ErrFee {
				t.Errorf("%d of %d: Load = %d", fee, has, e)
			}
			if has >= fee && (e != api.OK || !slices.Equal(l, coins(has-fee, most))) {
				t.Errorf("%d of %d: Load = %v, %d", fee, has, l, e)
			}
		}
	}
}

// TestLoadOwner has who pays owned by others, whose keys are none of System's by one byte.
func TestLoadOwner(t *testing.T) {
	owners := []api.Key{roles.Budget(), p, mine}
	for i := range p {
		k := api.Key{}
		k[i] = 1
		owners = append(owners, k)
	}
	for _, k := range owners {
		for _, fee := range []uint64{0, 1} {
			r := trio()
			r.Fee = fee
			a := api.Account{Coins: 9, Owner: k}
			if _, e := load(t, "somebody's pays", store(api.Holding{Key: p, Account: a}), r); e != api.ErrFee {
				t.Errorf("%v, fee %d: Load = %d", k, fee, e)
			}
			l, e := load(t, "another is somebody's", store(api.Holding{Key: p, Account: api.Account{Coins: fee}}, api.Holding{Key: q, Account: a}), r)
			if want := []api.Account{{}, a, {}, {}, {}, {}}; e != api.OK || !slices.Equal(l, want) {
				t.Errorf("%v, fee %d: Load = %v, %d", k, fee, l, e)
			}
		}
	}
}

// TestLoadSpace: who pays may have space, and keeps it.
func TestLoadSpace(t *testing.T) {
	for _, space := range []uint64{1, api.MaxSpace, most} {
		l, e := load(t, "space", store(api.Holding{Key: p, Account: api.Account{Coins: 6000, Space: space}}), trio())
		if e != api.OK || l[0] != (api.Account{Coins: 1000, Space: space}) {
			t.Errorf("%d: Load = %v, %d", space, l, e)
		}
	}
}

// TestLoadInOrder has keys that are there, keys that are not, and who pays once more.
func TestLoadInOrder(t *testing.T) {
	a, b := api.Account{Coins: 5, Owner: mine, Space: 7}, api.Account{Coins: most, Owner: p}
	s := store(api.Holding{Key: p, Account: api.Account{Coins: 100}}, api.Holding{Key: q, Account: a}, api.Holding{Key: x, Account: b}, api.Holding{Key: mine, Account: b})
	var l []api.Role
	for _, k := range []api.Key{p, x, unknown, p, q, x, p, roles.System()} {
		l = append(l, api.Role{Key: k, Writes: k == p})
	}
	got, e := load(t, "in order", s, api.Ready{Roles: l, Fee: 30})
	if want := []api.Account{{Coins: 70}, b, {}, {Coins: 100}, a, b, {Coins: 100}, {}}; e != api.OK || !slices.Equal(got, want) {
		t.Errorf("Load = %v, %d; want %v", got, e, want)
	}
}

// TestLoadAsksForNoMore: what would fail where it runs is loaded.
func TestLoadAsksForNoMore(t *testing.T) {
	s := store(api.Holding{Key: p, Account: api.Account{Coins: 5000}})
	for name, r := range map[string]api.Ready{"no such program": trio(api.Instr{Program: 99}), "unknown": trio(other()), "nothing to move": trio(moving(1, 0, 1))} {
		r.Budget = api.Budget{Bad: 0}
		if l, e := load(t, name, s, r); e != api.OK || !slices.Equal(l, coins()) {
			t.Errorf("%s: Load = %v, %d", name, l, e)
		}
	}
}

// P15.2

func TestRunNotAsMany(t *testing.T) {
	for lots := range 5 {
		for many := range 5 {
			r := api.Ready{Roles: make([]api.Role, lots), Budget: api.Budget{Bad: -1}, Fee: 3}
			if _, e := run(t, "not as many", r, make([]api.Account, many)); (e == api.ErrArg) != (lots != many) {
				t.Errorf("%d roles, %d accounts: Run = %d", lots, many, e)
			}
		}
	}
	if _, e := run(t, "no accounts", trio(), nil); e != api.ErrArg {
		t.Errorf("no accounts: Run = %d", e)
	}
}

func TestRunNothing(t *testing.T) {
	for name, l := range map[string][]api.Account{"nothing": nil, "an empty list": {}} {
		comes(t, name, api.Ready{}, l, api.Outcome{At: -1})
		comes(t, name+", all its words", api.Ready{Budget: api.Budget{Units: most, Price: 5, Bad: 7}, Fee: most, Cost: 3, Priority: 4}, l, api.Outcome{At: -1, Fee: most})
		if _, e := run(t, name, api.Ready{Tx: api.Tx{M: api.Message{Instrs: make([]api.Instr, 1)}}}, l); e != api.ErrArg {
			t.Errorf("%s, an instruction: Run = %d", name, e)
		}
	}
}

// TestRunStrangeProgram has a program that is none of the roles, in any place: behind one that fails, too.
func TestRunStrangeProgram(t *testing.T) {
	for at := range 5 {
		for _, program := range []byte{6, 7, 127, 128, 255} {
			for _, first := range []api.Instr{moving(1, 0, 1), other()} {
				in := slices.Repeat([]api.Instr{first}, 5)
				in[at].Program = program
				r := trio(in...)
				r.Budget.Units = 0
				if _, e := run(t, "a strange program", r, coins(9, 9)); e != api.ErrArg {
					t.Errorf("%d at %d: Run = %d", program, at, e)
				}
			}
		}
	}
}

func TestRunLastRole(t *testing.T) {
	for _, many := range []int{1, 2, 128, 129, 256, 300} {
		last := min(many, 256) - 1
		r := api.Ready{Roles: make([]api.Role, many), Budget: api.Budget{Units: 1000, Bad: -1}}
		for i := range r.Roles {
			r.Roles[i].Key = unknown
		}
		r.Roles[last].Key = roles.Budget()
		r.Tx.M.Instrs = []api.Instr{{Program: byte(last)}}
		comes(t, "the last role", r, make([]api.Account, many), api.Outcome{At: -1, Units: 150})
		if _, e := run(t, "one account too few", r, make([]api.Account, many-1)); e != api.ErrArg {
			t.Errorf("%d: Run = %d", many, e)
		}
	}
}

// TestRunUnits has budgets about what so many instructions use.
func TestRunUnits(t *testing.T) {
	for many := range 6 {
		for _, in := range []api.Instr{words(), moving(1, 0, 1)} {
			for _, units := range []uint64{0, 1, 149, 150, 151, 299, 300, 301, 449, 450, 599, 600, 749, 750, 751, 1400000, 1 << 32, 1 << 63, most - 1, most} {
				r := trio(slices.Repeat([]api.Instr{in}, many)...)
				r.Budget.Units = units
				l := coins(9, 5)
				fits := units / 150
				if fits < uint64(many) {
					comes(t, "too few units", r, l, ill(api.ErrUnits, int(fits), units, l))
					continue
				}
				a, b := uint64(9), uint64(5)
				if in.Program == ofSystem {
					a, b = a-uint64(many), b+uint64(many)
				}
				comes(t, "enough units", r, l, well(150*uint64(many), 0, api.Account{Coins: a}, api.Account{Coins: b}))
			}
		}
	}
}

// TestRunErrors has, at each place, one that fails, with all the reasons that come behind it.
func TestRunErrors(t *testing.T) {
	l := coins(9, 5)
	for at := range 5 {
		in := slices.Repeat([]api.Instr{moving(1, 0, 1)}, 5)
		used := 150 * uint64(at+1)
		in[at] = moving(10, 0, 1)
		comes(t, "System's error", trio(in...), l, ill(api.ErrFunds, at, used, l))
		in[at] = other()
		comes(t, "unknown", trio(in...), l, ill(api.ErrProgram, at, used, l))
		r := trio(in...)
		r.Budget.Bad = at
		comes(t, "bad", r, l, ill(api.ErrBudget, at, used, l))
		r.Budget.Units = used
		comes(t, "bad, just enough units", r, l, ill(api.ErrBudget, at, used, l))
		r.Budget.Units = used - 1
		comes(t, "too few units", r, l, ill(api.ErrUnits, at, used-1, l))
		r.Budget.Units = used - 150
		comes(t, "no units left", r, l, ill(api.ErrUnits, at, used-150, l))
	}
}

// TestRunBad: the budget's word on it counts, whatever the instruction is, and only at its place.
func TestRunBad(t *testing.T) {
	l := coins(9, 5)
	for _, in := range []api.Instr{words(), moving(1, 0, 1), other(), {Program: ofSystem}} {
		r := trio(words(), in)
		r.Budget.Bad = 1
		comes(t, "bad", r, l, ill(api.ErrBudget, 1, 300, l))
	}
	for _, bad := range []int{-1 << 63, -2, -1, 2, 3, 256, 1<<63 - 1} {
		r := trio(words(), words())
		r.Budget.Bad = bad
		comes(t, "bad somewhere else", r, l, well(300, 0, l[0], l[1]))
	}
}

// TestRunFirstFailure: what would fail behind it is not heard of.
func TestRunFirstFailure(t *testing.T) {
	l := coins(9, 5)
	r := trio(words(), other(), moving(10, 0, 1), words())
	r.Budget.Bad = 3
	comes(t, "unknown first", r, l, ill(api.ErrProgram, 1, 300, l))
	r.Budget.Bad = 0
	comes(t, "bad first", r, l, ill(api.ErrBudget, 0, 150, l))
	comes(t, "System's first", trio(moving(1, 0, 1), moving(9, 0, 1), other()), l, ill(api.ErrFunds, 1, 300, l))
}

// TestRunProgramKeys has programs that are not known by one byte, and known ones at any place.
func TestRunProgramKeys(t *testing.T) {
	runs := func(k api.Key, at, many int) (api.Outcome, api.Errno) {
		r := api.Ready{Roles: make([]api.Role, many), Budget: api.Budget{Units: 150, Bad: -1}}
		for i := range r.Roles {
			r.Roles[i].Key = api.Key{9, byte(i)}
		}
		r.Roles[at].Key = k
		r.Tx.M.Instrs = []api.Instr{{Program: byte(at)}} // no data: System says so
		return run(t, "one program", r, make([]api.Account, many))
	}
	for many := 1; many < 8; many++ {
		for at := range many {
			for k, want := range map[api.Key]api.Errno{roles.System(): api.ErrData, roles.Budget(): api.OK, p: api.ErrProgram, {2}: api.ErrProgram, {4}: api.ErrProgram} {
				if o, e := runs(k, at, many); e != api.OK || o.Fail != want {
					t.Errorf("%v at %d of %d: Run = %v, %d; want %d", k, at, many, o, e, want)
				}
			}
		}
	}
	for _, k := range []api.Key{roles.System(), roles.Budget()} {
		for i := range k {
			for bit := range 8 {
				near := k
				near[i] ^= 1 << bit
				if o, e := runs(near, 0, 1); e != api.OK || (near != roles.Budget() && near != roles.System()) != (o.Fail == api.ErrProgram) {
					t.Errorf("%v: Run = %v, %d", near, o, e)
				}
			}
		}
	}
}

// TestRunSystemsErrors: whatever System says is why it failed.
func TestRunSystemsErrors(t *testing.T) {
	l := coins(9, 0)
	l[1].Coins, l[2].Coins = most, 4
	for want, in := range map[api.Errno]api.Instr{
		api.ErrLimit:  spacing(api.MaxSpace+1, 0),
		api.ErrIndex:  moving(1, 0, 6),
		api.ErrThere:  making(1, 1, mine, 0, 1),
		api.ErrData:   {Program: ofSystem, Accounts: []byte{0, 1}, Data: append(bytes(2, 1), 0)},
		api.ErrSigner: moving(1, 2, 0),
		api.ErrWrite:  moving(1, 0, 2),
		api.ErrFunds:  moving(10, 0, 1),
		api.ErrOver:   moving(9, 0, 1),
	} {
		comes(t, "at once", trio(in), l, ill(want, 0, 150, l))
		comes(t, "behind another", trio(moving(0, 0, 1), in), l, ill(want, 1, 300, l))
	}
	// Only once the first one has run.
	comes(t, "somebody's by then", trio(assigning(mine, 0), moving(1, 0, 0)), l, ill(api.ErrOwner, 1, 300, l))
}

// TestRunStepByStep: each instruction has what those ahead of it made.
func TestRunStepByStep(t *testing.T) {
	comes(t, "there and back", trio(moving(9, 0, 1), moving(14, 1, 0), words(), moving(2, 0, 1)), coins(9, 5), well(600, 0, api.Account{Coins: 12}, api.Account{Coins: 2}))
	comes(t, "paid, then made, then filled", trio(moving(5, 1, 0), making(3, 40, mine, 0, 1), moving(11, 0, 1)), coins(9, 5), well(450, 40, api.Account{}, api.Account{Coins: 14, Owner: mine, Space: 40}))
}

func TestRunSpace(t *testing.T) {
	for _, k := range []struct{ a, b uint64 }{{0, 0}, {1, 0}, {0, 1}, {3, 4}, {api.MaxSpace, api.MaxSpace}} {
		want := well(450, k.a+k.b, api.Account{Coins: 9, Space: k.a}, api.Account{Coins: 5, Space: k.b})
		comes(t, "of both", trio(spacing(k.a, 0), words(), spacing(k.b, 1)), coins(9, 5), want)
	}
	comes(t, "made, and taken", trio(making(2, 30, api.Key{}, 0, 1), spacing(12, 0)), coins(9, 0), well(300, 42, api.Account{Coins: 7, Space: 12}, api.Account{Coins: 2, Space: 30}))
	l := coins(9, 5)
	comes(t, "taken, then failed", trio(spacing(8, 0), spacing(7, 1), other()), l, ill(api.ErrProgram, 2, 450, l))
	comes(t, "taken twice", trio(spacing(8, 0), spacing(8, 0)), l, ill(api.ErrThere, 1, 300, l))
	l[0].Space, l[1].Space = 6, 7
	comes(t, "what was there is not taken", trio(words()), l, well(150, 0, l[0], l[1]))
}

// TestRunManyTakeSpace: assigned to nobody's again it could be taken no second time, so there must be many accounts.
func TestRunManyTakeSpace(t *testing.T) {
	const many = 200
	r := api.Ready{Budget: api.Budget{Units: most, Bad: -1}, Roles: make([]api.Role, many)}
	want := api.Outcome{At: -1, Units: 150 * (many - 1), Space: (many - 1) << 20}
	for i := 1; i < many; i++ { // the first role is System's
		r.Roles[i] = api.Role{Key: api.Key{1, byte(i)}, Signs: true, Writes: true}
		r.Tx.M.Instrs = append(r.Tx.M.Instrs, api.Instr{Accounts: []byte{byte(i)}, Data: bytes(8, api.MaxSpace)})
		want.Changed = append(want.Changed, api.Holding{Key: r.Roles[i].Key, Account: api.Account{Space: api.MaxSpace}})
	}
	comes(t, "many", r, make([]api.Account, many), want)
}

// TestRunChanged has all that are written, in order, whether anything changed or not.
func TestRunChanged(t *testing.T) {
	var l []api.Account
	r := api.Ready{Budget: api.Budget{Units: 1000, Bad: -1}, Fee: 7, Tx: api.Tx{M: api.Message{Instrs: []api.Instr{{Program: 3, Accounts: []byte{4, 5}, Data: bytes(2, 40)}}}}}
	for i, k := range []api.Key{q, p, x, roles.System(), p, q, mine, roles.Budget()} {
		r.Roles = append(r.Roles, api.Role{Key: k, Signs: i%4 == 0, Writes: i%3 != 0})
		l = append(l, api.Account{Coins: uint64(i * 10)})
	}
	comes(t, "in order", r, l, api.Outcome{At: -1, Units: 150, Fee: 7, Changed: []api.Holding{
		{Key: p, Account: api.Account{Coins: 10}}, {Key: x, Account: api.Account{Coins: 20}}, {Key: p}, {Key: q, Account: api.Account{Coins: 90}}, {Key: roles.Budget(), Account: api.Account{Coins: 70}},
	}})
	for i := range r.Roles {
		r.Roles[i].Writes = false
	}
	comes(t, "nobody writes", r, l, api.Outcome{Fail: api.ErrWrite, Units: 150, Fee: 7})
}

func TestFailureTells(t *testing.T) {
	if got := (&failure{at: 2, why: api.ErrFunds}).Error(); got != "2: errno 17" {
		t.Errorf("it tells %q", got)
	}
}

// TestRunKeepsNothing: the same again makes the same again, whatever ran between.
func TestRunKeepsNothing(t *testing.T) {
	r, l := trio(moving(3, 0, 1)), coins(9, 5)
	first, _ := run(t, "first", r, l)
	run(t, "between", trio(spacing(9, 0), other()), coins(1, 2))
	comes(t, "once more", r, l, first)
}

// P15.3

// TestNoInstructions: they change nothing but who pays.
func TestNoInstructions(t *testing.T) {
	b := api.Account{Coins: 6, Owner: mine, Space: 3}
	s := store(api.Holding{Key: p, Account: api.Account{Coins: 5003, Space: 2}}, api.Holding{Key: q, Account: b})
	for _, units := range []uint64{0, 149, most} {
		r := trio()
		r.Budget.Units = units
		l, _ := load(t, "no instructions", s, r)
		comes(t, "no instructions", r, l, well(0, 0, api.Account{Coins: 3, Space: 2}, b))
	}
}

// slow is a second Run: an instruction's units are worked out from its place, and its accounts are those of all that are ahead of it, run anew.
func slow(r api.Ready, l []api.Account) (api.Outcome, api.Errno) {
	if len(r.Roles) != len(l) {
		return api.Outcome{}, api.ErrArg
	}
	for _, in := range r.Tx.M.Instrs {
		if int(in.Program) > len(r.Roles)-1 {
			return api.Outcome{}, api.ErrArg
		}
	}
	o := api.Outcome{At: -1, Fee: r.Fee, Units: uint64(len(r.Tx.M.Instrs)) * 150}
	for i := range r.Tx.M.Instrs {
		if fail := slowFail(r, l, i); fail != api.OK {
			o.Fail, o.At, o.Units = fail, i, min(uint64(i+1)*150, r.Budget.Units)
			break
		}
	}
	then := l
	if o.Fail == api.OK {
		then, o.Space = slowMade(r, l, len(r.Tx.M.Instrs))
	}
	for i, k := range r.Roles {
		if k.Writes {
			o.Changed = append(o.Changed, api.Holding{Key: k.Key, Account: then[i]})
		}
	}
	return o, api.OK
}

// slowFail tells how the instruction of the place i fails, where those ahead of it don't.
func slowFail(r api.Ready, l []api.Account, i int) api.Errno {
	needs := new(big.Int).Mul(big.NewInt(int64(i+1)), big.NewInt(150))
	if needs.Cmp(new(big.Int).SetUint64(r.Budget.Units)) > 0 {
		return api.ErrUnits
	}
	if r.Budget.Bad == i {
		return api.ErrBudget
	}
	switch r.Roles[r.Tx.M.Instrs[i].Program].Key {
	case api.Key{}:
		now, _ := slowMade(r, l, i)
		_, _, e := systems.Do(now, r.Roles, r.Tx.M.Instrs[i])
		return e
	case api.Key{3}:
		return api.OK
	}
	return api.ErrProgram
}

// slowMade answers what the first so many instructions make of accounts, none of which fails, and the space that they take.
func slowMade(r api.Ready, l []api.Account, many int) ([]api.Account, uint64) {
	if many == 0 {
		return l, 0
	}
	l, space := slowMade(r, l, many-1)
	in := r.Tx.M.Instrs[many-1]
	if r.Roles[in.Program].Key != roles.System() {
		return l, space
	}
	l, more, _ := systems.Do(l, r.Roles, in)
	return l, space + more
}

func draw(seed *uint32, n int) int {
	*seed = *seed*1664525 + 1013904223
	return int(*seed>>8) % n
}

// drawn is a ready one of few keys, each of them once, with instructions of all kinds.
func drawn(seed *uint32) api.Ready {
	r := api.Ready{Fee: uint64(draw(seed, 4)), Budget: api.Budget{Units: uint64(draw(seed, 1200)), Bad: draw(seed, 30) - 1}}
	keys := []api.Key{p, q, x, mine, roles.System(), roles.Budget(), unknown}
	for range draw(seed, len(keys)) {
		i := draw(seed, len(keys))
		r.Roles = append(r.Roles, api.Role{Key: keys[i], Signs: draw(seed, 4) > 0, Writes: draw(seed, 6) > 0})
		keys = slices.Delete(keys, i, i+1)
	}
	r.Roles = append(r.Roles, api.Role{Key: roles.Budget()}, api.Role{})
	if !slices.Contains(keys, roles.Budget()) {
		r.Roles = slices.Delete(r.Roles, len(r.Roles)-2, len(r.Roles)-1)
	}
	if !slices.Contains(keys, roles.System()) {
		r.Roles = r.Roles[:len(r.Roles)-1]
	}
	for range draw(seed, 7) {
		r.Tx.M.Instrs = append(r.Tx.M.Instrs, drawnInstr(seed, r.Roles))
	}
	return r
}

// drawnInstr is mostly one of System's.
func drawnInstr(seed *uint32, l []api.Role) api.Instr {
	at := func() byte { return byte(draw(seed, len(l))) }
	n := uint64(draw(seed, 4))
	owner := []api.Key{{}, {}, {}, mine}[draw(seed, 4)]
	in := []api.Instr{making(0, n, owner, at(), at()), assigning(owner, at()), moving(n, at(), at()), moving(n, at(), at()), spacing(n, at())}[draw(seed, 5)]
	in.Program = byte(slices.IndexFunc(l, func(r api.Role) bool { return r.Key == roles.System() }))
	if draw(seed, 6) == 0 {
		in.Program = byte(draw(seed, len(l)+draw(seed, 20)/19))
	}
	return in
}

// drawnStore has accounts for most of the keys; all their coins fit into a number.
func drawnStore(seed *uint32) *accounts.Store {
	s := accounts.New()
	for _, k := range []api.Key{p, q, x, mine, {}, unknown} {
		a := api.Account{Coins: uint64(draw(seed, 12))}
		if draw(seed, 8) == 0 {
			a.Owner = mine
		}
		if draw(seed, 8) == 0 {
			a.Space = 5
		}
		s.Put(k, a)
	}
	return s
}

// TestDrawn loads and runs many, and holds what comes of them against the second Run. Coins and the fee stay what they were, together; who only reads stays.
func TestDrawn(t *testing.T) {
	seed := uint32(15)
	fails, at := map[api.Errno]int{}, map[int]int{}
	for range 60000 {
		s, r := drawnStore(&seed), drawn(&seed)
		l, e := load(t, "drawn", s, r)
		if e != api.OK {
			fails[e]++
			continue
		}
		o, e := run(t, "drawn", r, l)
		want, we := slow(r, l)
		if e != we || !reflect.DeepEqual(o, want) {
			t.Fatalf("Run of %v, %v = %v, %d; want %v, %d", r, l, o, e, want, we)
		}
		if e != api.OK {
			fails[e]++
			continue
		}
		fails[o.Fail]++
		at[o.At]++
		after(t, s, r, o)
	}
	for _, e := range []api.Errno{api.OK, api.ErrArg, api.ErrFee, api.ErrUnits, api.ErrBudget, api.ErrProgram, api.ErrThere, api.ErrSigner, api.ErrWrite, api.ErrOwner, api.ErrFunds} {
		if fails[e] < 50 {
			t.Errorf("error %d was drawn %d times: %v", e, fails[e], fails)
		}
	}
	for i := -1; i < 5; i++ {
		if at[i] < 20 {
			t.Errorf("place %d was drawn %d times", i, at[i])
		}
	}
}

// after fails unless what an outcome says follows for the store.
func after(t *testing.T, s *accounts.Store, r api.Ready, o api.Outcome) {
	t.Helper()
	then := s.Copy()
	for _, h := range o.Changed {
		then.Put(h.Key, h.Account)
	}
	_, was := s.Coins()
	_, is := then.Coins()
	if is+o.Fee != was || o.Fee != r.Fee {
		t.Fatalf("%v: %d coins and the fee %d; there were %d", r, is, o.Fee, was)
	}
	for _, k := range r.Roles {
		if !k.Writes && then.Get(k.Key) != s.Get(k.Key) {
			t.Fatalf("%v: %v is only read", r, k)
		}
	}
	if o.Fail != api.OK || len(r.Tx.M.Instrs) == 0 {
		pays := s.Get(r.Roles[0].Key)
		pays.Coins -= r.Fee
		s.Put(r.Roles[0].Key, pays)
		if !s.Same(then) {
			t.Fatalf("%v: more than the fee", r)
		}
	}
}
