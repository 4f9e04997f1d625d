package systems

import (
	"math/big"
	"reflect"
	"slices"
	"testing"

	"ferryhouse/api"
)

const most = 1<<64 - 1

// The roles that a key may have.
var (
	both    = api.Role{Signs: true, Writes: true}
	signs   = api.Role{Signs: true}
	written = api.Role{Writes: true}
	neither = api.Role{}
)

var (
	mine   = api.Key{7, 31: 5}
	theirs = api.Key{31: 1} // of which only the last byte is none of System's
)

// bytes are those of a tag, and of numbers, the lowest first.
func bytes(tag byte, numbers ...uint64) []byte {
	b := []byte{tag, 0, 0, 0}
	for _, n := range numbers {
		for range 8 {
			b = append(b, byte(n))
			n >>= 8
		}
	}
	return b
}

// The data of each tag.
func making(coins, space uint64, owner api.Key) []byte {
	return append(bytes(0, coins, space), owner[:]...)
}
func assigning(owner api.Key) []byte { return append(bytes(1), owner[:]...) }
func moving(coins uint64) []byte     { return bytes(2, coins) }
func spacing(space uint64) []byte    { return bytes(8, space) }

// tags are data of every tag, which do nothing to blank accounts, and how many accounts each asks for.
func tags() map[string]struct {
	data []byte
	asks int
} {
	return map[string]struct {
		data []byte
		asks int
	}{
		"make":   {making(0, 0, api.Key{}), 2},
		"assign": {assigning(api.Key{}), 1},
		"move":   {moving(0), 2},
		"space":  {spacing(0), 1},
	}
}

// coins are accounts of System's without space, of so many.
func coins(l ...uint64) (out []api.Account) {
	for _, n := range l {
		out = append(out, api.Account{Coins: n})
	}
	return out
}

// all are so many roles that sign, and are written.
func all(many int) []api.Role { return slices.Repeat([]api.Role{both}, many) }

// from is an instruction of these data, for the accounts at these indices.
func from(data []byte, at ...byte) api.Instr { return api.Instr{Accounts: at, Data: data} }

// call answers what Do does; it fails if Do changes what it was handed, or answers memory that is not its own, or more than an error.
func call(t *testing.T, name string, l []api.Account, r []api.Role, in api.Instr) ([]api.Account, uint64, api.Errno) {
	t.Helper()
	l0, r0, in0 := slices.Clone(l), slices.Clone(r), api.Instr{Program: in.Program, Accounts: slices.Clone(in.Accounts), Data: slices.Clone(in.Data)}
	out, space, e := Do(l, r, in)
	if e != api.OK && (out != nil || space != 0) {
		t.Errorf("%s: Do = %v, %d beside %d", name, out, space, e)
	}
	if e == api.OK && (len(out) != len(l) || cap(out) != len(out)) {
		t.Errorf("%s: Do of %d = %d, with room for %d", name, len(l), len(out), cap(out))
	}
	was := slices.Clone(out)
	unchanged := func() bool {
		return slices.Equal(l, l0) && slices.Equal(r, r0) && in.Program == in0.Program && slices.Equal(in.Accounts, in0.Accounts) && slices.Equal(in.Data, in0.Data)
	}
	if !unchanged() {
		t.Errorf("%s: Do changes what it was handed", name)
	}
	for i := range out {
		out[i] = api.Account{Coins: 1, Owner: api.Key{1}, Space: 1}
	}
	if !unchanged() {
		t.Errorf("%s: Do answers what it was handed", name)
	}
	return was, space, e
}

// does fails unless Do answers these accounts, and so much space.
func does(t *testing.T, name string, l []api.Account, in api.Instr, want []api.Account, space uint64) {
	t.Helper()
	got, n, e := call(t, name, l, all(len(l)), in)
	if e != api.OK || n != space || !slices.Equal(got, want) {
		t.Errorf("%s: Do = %v, %d, %d; want %v, %d", name, got, n, e, want, space)
	}
}

// fails fails unless Do answers that error, where all accounts sign, and are written.
func fails(t *testing.T, name string, l []api.Account, in api.Instr, want api.Errno) {
	t.Helper()
	if _, _, e := call(t, name, l, all(len(l)), in); e != want {
		t.Errorf("%s: Do = %d; want %d", name, e, want)
	}
}

// P14.1

func TestExample(t *testing.T) {
	l, r := coins(10, 0), []api.Role{both, written}
	for _, k := range []struct {
		data []byte
		want []api.Account
		e    api.Errno
	}{
		{moving(3), coins(7, 3), api.OK},
		{moving(11), nil, api.ErrFunds},
		{append(moving(3), 0), nil, api.ErrData},
	} {
		got, space, e := call(t, "the example", l, r, from(k.data, 0, 1))
		if !slices.Equal(got, k.want) || space != 0 || e != k.e {
			t.Errorf("%v: Do = %v, %d, %d; want %v, 0, %d", k.data, got, space, e, k.want, k.e)
		}
	}
}

func TestNothing(t *testing.T) {
	for name, in := range map[string]api.Instr{"nothing": {}, "an account": from(nil, 0), "empty data": from([]byte{})} {
		fails(t, name, nil, in, api.ErrData)
		fails(t, name+", of some", coins(1), in, api.ErrData)
	}
	for name, k := range tags() {
		fails(t, name, nil, from(k.data), api.ErrIndex)
		fails(t, name, nil, from(k.data, 0, 0), api.ErrIndex)
		fails(t, name, []api.Account{}, from(k.data, 0, 0), api.ErrIndex)
	}
}

func TestNotAsLong(t *testing.T) {
	for lots := range 4 {
		for many := range 4 {
			l, r := make([]api.Account, lots), all(many)
			if _, _, e := call(t, "bad data", l, r, from(nil, 9)); (e == api.ErrArg) != (lots != many) {
				t.Errorf("%d accounts, %d roles: Do = %d", lots, many, e)
			}
			if _, _, e := call(t, "all is well", l, r, from(moving(0), 0, 0)); lots != many && e != api.ErrArg {
				t.Errorf("%d accounts, %d roles: Do = %d", lots, many, e)
			}
		}
	}
	if _, _, e := call(t, "no roles", coins(1, 2), nil, from(moving(0), 0, 1)); e != api.ErrArg {
		t.Errorf("no roles: Do = %d", e)
	}
	if _, _, e := call(t, "no accounts", nil, all(2), from(moving(0), 0, 1)); e != api.ErrArg {
		t.Errorf("no accounts: Do = %d", e)
	}
}

// TestDataToTheByte cuts the data of each tag, at every place, and has more behind them: the lengths of the other tags are among these.
func TestDataToTheByte(t *testing.T) {
	for name, k := range tags() {
		for many := range 70 {
			data := slices.Concat(k.data, make([]byte, 70))[:many]
			if many == len(k.data) {
				does(t, name, coins(0, 0), from(data, 0, 1), coins(0, 0), 0)
			} else {
				fails(t, name+" of another length", coins(0, 0), from(data, 0, 1), api.ErrData)
				fails(t, name+" of another length, no accounts", coins(0, 0), from(data), api.ErrData)
			}
		}
		fails(t, name+" and very much behind it", coins(0, 0), from(append(k.data, make([]byte, 1<<16)...), 0, 1), api.ErrData)
	}
}

// TestNoSuchTag has all other tags of one byte, and those of which another byte is not 0, of every length.
func TestNoSuchTag(t *testing.T) {
	known := []int{0, 1, 2, 8}
	for tag := range 256 {
		if slices.Contains(known, tag) {
			continue
		}
		for many := range 70 {
			fails(t, "no such tag", coins(0, 0), from(append(bytes(byte(tag)), make([]byte, many)...), 0, 1), api.ErrData)
		}
	}
	for name, k := range tags() {
		for at := 1; at < 4; at++ {
			for bit := range 8 {
				data := slices.Clone(k.data)
				data[at] = 1 << bit
				fails(t, name+" with a greater tag", coins(0, 0), from(data, 0, 1), api.ErrData)
			}
		}
	}
}

// TestFewerAccounts has them fewer than each tag asks for, and more.
func TestFewerAccounts(t *testing.T) {
	for name, k := range tags() {
		for many := range 6 {
			in := from(k.data, []byte{0, 1, 2, 3, 1, 0}[:many]...)
			if many < k.asks {
				fails(t, name+" with too few", make([]api.Account, 4), in, api.ErrIndex)
			} else {
				does(t, name, make([]api.Account, 4), in, make([]api.Account, 4), 0)
			}
		}
	}
}

// TestIndices has one that is none, at any place, those that no tag asks for too.
func TestIndices(t *testing.T) {
	for name, k := range tags() {
		for at := range 5 {
			for _, many := range []int{2, 3, 127, 128, 255} {
				l, r, in := make([]api.Account, many), make([]api.Role, many), from(k.data, 0, 1, 0, 1, 1)
				for _, i := range []int{many, min(many+1, 255), 255} {
					in.Accounts[at] = byte(i)
					if _, _, e := call(t, name, l, r, in); e != api.ErrIndex { // ahead of what roles lack
						t.Errorf("%s, index %d of %d: Do = %d", name, i, many, e)
					}
				}
				in.Accounts[at] = byte(many - 1)
				does(t, name, l, in, l, 0)
			}
		}
	}
}

func TestLastIndex(t *testing.T) {
	l := make([]api.Account, 300)
	l[255].Coins, l[254].Coins, l[299].Coins = 9, 1, 3
	want := slices.Clone(l)
	want[255].Coins, want[254].Coins = 2, 8
	does(t, "the last index", l, from(moving(7), 255, 254, 255), want, 0)
}

// TestRoles has each tag with all roles of both accounts.
func TestRoles(t *testing.T) {
	roles := []api.Role{both, signs, written, neither}
	for i, a := range roles {
		for j, b := range roles {
			one := []api.Errno{api.OK, api.ErrWrite, api.ErrSigner, api.ErrSigner}[i]
			move, pays := one, one
			if one == api.OK {
				move = []api.Errno{api.OK, api.ErrWrite, api.OK, api.ErrWrite}[j]
				pays = []api.Errno{api.OK, api.ErrWrite, api.ErrSigner, api.ErrSigner}[j]
			}
			for name, want := range map[string]api.Errno{"make": pays, "assign": one, "move": move, "space": one} {
				if _, _, e := call(t, name, coins(0, 0), []api.Role{a, b}, from(tags()[name].data, 0, 1)); e != want {
					t.Errorf("%s of %v and %v: Do = %d; want %d", name, a, b, e, want)
				}
				// The roles are those at the indices, and nobody asks for those of others.
				if _, _, e := call(t, name, coins(0, 0, 0, 0), []api.Role{neither, b, neither, a}, from(tags()[name].data, 3, 1, 0, 2)); e != want {
					t.Errorf("%s of %v and %v, among others: Do = %d; want %d", name, a, b, e, want)
				}
			}
		}
	}
}

// TestRolesGoAhead of what stands on the accounts, and their keys tell nothing.
func TestRolesGoAhead(t *testing.T) {
	other := api.Account{Coins: 1, Owner: theirs, Space: 1}
	for name, data := range map[string][]byte{"make": making(most, most, mine), "assign": assigning(mine), "move": moving(most), "space": spacing(most)} {
		for _, k := range []struct {
			r    api.Role
			want api.Errno
		}{{neither, api.ErrSigner}, {written, api.ErrSigner}, {signs, api.ErrWrite}} {
			k.r.Key = mine
			if _, _, e := call(t, name, []api.Account{other, other}, []api.Role{k.r, both}, from(data, 0, 1)); e != k.want {
				t.Errorf("%s of %v: Do = %d; want %d", name, k.r, e, k.want)
			}
		}
	}
}

func TestMake(t *testing.T) {
	for _, k := range []struct{ has, coins, space uint64 }{
		{10, 4, 100}, {10, 10, 0}, {10, 0, 1}, {0, 0, 0}, {0, 0, api.MaxSpace}, {most, most, api.MaxSpace}, {most, 1 << 63, api.MaxSpace - 1}, {0x0807060504030201, 0x0102030405060708, 0x0a0b0c},
	} {
		for _, owner := range []api.Key{mine, theirs, {}, {255, 31: 255}} {
			want := []api.Account{{Coins: k.has - k.coins}, {Coins: k.coins, Space: k.space, Owner: owner}}
			does(t, "make", coins(k.has, 0), from(making(k.coins, k.space, owner), 0, 1), want, k.space)
			does(t, "make, the other way round", coins(0, k.has), from(making(k.coins, k.space, owner), 1, 0), []api.Account{want[1], want[0]}, k.space)
		}
	}
}

func TestMakeFails(t *testing.T) {
	for bit := range 64 {
		fails(t, "it has coins", coins(10, 1<<bit), from(making(0, 0, mine), 0, 1), api.ErrThere)
		fails(t, "it has space", []api.Account{{}, {Space: 1 << bit}}, from(making(0, 0, mine), 0, 1), api.ErrThere)
		fails(t, "who pays has space", []api.Account{{Coins: 10, Space: 1 << bit}, {}}, from(making(0, 0, mine), 0, 1), api.ErrOwner)
	}
	for i := range mine {
		owner := api.Key{}
		owner[i] = 1
		fails(t, "it is somebody's", []api.Account{{Coins: 10}, {Owner: owner}}, from(making(0, 0, mine), 0, 1), api.ErrThere)
		fails(t, "who pays is somebody's", []api.Account{{Coins: 10, Owner: owner}, {}}, from(making(0, 0, mine), 0, 1), api.ErrOwner)
	}
	for _, space := range []uint64{api.MaxSpace + 1, 1 << 32, 1 << 63, most} {
		fails(t, "too much space", coins(10, 0), from(making(1, space, mine), 0, 1), api.ErrLimit)
	}
	for _, has := range []uint64{0, 1, 9, 1<<32 - 1, 1 << 63, most - 1} {
		fails(t, "too few coins", coins(has, 0), from(making(has+1, 0, mine), 0, 1), api.ErrFunds)
		fails(t, "too few coins", coins(has, 0), from(making(most, api.MaxSpace, mine), 0, 1), api.ErrFunds)
	}
	// Each error with all that come behind it.
	fails(t, "all at once", []api.Account{{Owner: theirs}, {Owner: theirs}}, from(making(1, most, mine), 0, 1), api.ErrThere)
	fails(t, "all but the first", []api.Account{{Owner: theirs}, {}}, from(making(1, most, mine), 0, 1), api.ErrOwner)
	fails(t, "the last two", coins(0, 0), from(making(1, most, mine), 0, 1), api.ErrLimit)
}

func TestAssign(t *testing.T) {
	for _, owner := range []api.Key{mine, theirs, {}, {255, 31: 255}} {
		for _, a := range []api.Account{{}, {Coins: 3}, {Space: 5}, {Coins: most, Space: most}} {
			want := a
			want.Owner = owner
			does(t, "assign", []api.Account{a}, from(assigning(owner), 0), []api.Account{want}, 0)
		}
	}
	for i := range mine {
		owner := api.Key{}
		owner[i] = 128
		fails(t, "somebody's", []api.Account{{Owner: owner}}, from(assigning(mine), 0), api.ErrOwner)
		fails(t, "to who has it", []api.Account{{Owner: owner}}, from(assigning(owner), 0), api.ErrOwner)
		fails(t, "back to System", []api.Account{{Owner: owner}}, from(assigning(api.Key{}), 0), api.ErrOwner)
	}
}

func TestMove(t *testing.T) {
	for _, k := range []struct{ has, other, coins uint64 }{
		{10, 0, 3}, {10, 5, 10}, {10, 5, 0}, {0, 0, 0}, {0, most, 0}, {most, 0, most}, {1, most - 1, 1}, {1 << 63, 1<<63 - 1, 1 << 63}, {1 << 40, 7, 0x0102030405},
	} {
		want := coins(k.has-k.coins, k.other+k.coins)
		does(t, "move", coins(k.has, k.other), from(moving(k.coins), 0, 1), want, 0)
		does(t, "move, the other way round", coins(k.other, k.has), from(moving(k.coins), 1, 0), []api.Account{want[1], want[0]}, 0)
	}
	// It may be to anybody.
	to := api.Account{Coins: 5, Owner: mine, Space: 7}
	does(t, "to somebody's", []api.Account{{Coins: 9}, to}, from(moving(9), 0, 1), []api.Account{{}, {Coins: 14, Owner: mine, Space: 7}}, 0)
}

func TestMoveFails(t *testing.T) {
	for bit := range 64 {
		fails(t, "it has space", []api.Account{{Coins: 10, Space: 1 << bit}, {}}, from(moving(0), 0, 1), api.ErrOwner)
	}
	for i := range mine {
		owner := api.Key{}
		owner[i] = 1
		fails(t, "somebody's", []api.Account{{Coins: 10, Owner: owner}, {}}, from(moving(0), 0, 1), api.ErrOwner)
	}
	for _, has := range []uint64{0, 1, 1<<32 - 1, 1 << 63, most - 1} {
		fails(t, "too few coins", coins(has, 0), from(moving(has+1), 0, 1), api.ErrFunds)
		fails(t, "too few coins", coins(has, 0), from(moving(most), 0, 1), api.ErrFunds)
	}
	for _, other := range []uint64{1, 1 << 32, 1 << 63, most} {
		fails(t, "too much there", coins(most, other), from(moving(most-other+1), 0, 1), api.ErrOver)
		fails(t, "too much there", coins(most, other), from(moving(most), 0, 1), api.ErrOver)
	}
	fails(t, "all at once", []api.Account{{Coins: 1, Owner: theirs}, {Coins: most}}, from(moving(2), 0, 1), api.ErrOwner)
	fails(t, "the last two", coins(1, most), from(moving(2), 0, 1), api.ErrFunds)
}

func TestSpace(t *testing.T) {
	for _, space := range []uint64{0, 1, 255, 256, 65536, 0x0a0b0c, api.MaxSpace - 1, api.MaxSpace} {
		for _, has := range []uint64{0, 3, most} {
			does(t, "space", coins(has), from(spacing(space), 0), []api.Account{{Coins: has, Space: space}}, space)
		}
	}
}

func TestSpaceFails(t *testing.T) {
	for bit := range 64 {
		fails(t, "it has space", []api.Account{{Space: 1 << bit}}, from(spacing(0), 0), api.ErrThere)
		fails(t, "it has that space", []api.Account{{Space: 1 << bit}}, from(spacing(1<<bit), 0), api.ErrThere)
	}
	for i := range mine {
		owner := api.Key{}
		owner[i] = 1
		fails(t, "somebody's", []api.Account{{Owner: owner}}, from(spacing(0), 0), api.ErrThere)
	}
	for _, space := range []uint64{api.MaxSpace + 1, 1 << 32, 1 << 63, most} {
		fails(t, "too much", coins(3), from(spacing(space), 0), api.ErrLimit)
	}
	fails(t, "both", []api.Account{{Space: 1}}, from(spacing(most), 0), api.ErrThere)
	fails(t, "both", []api.Account{{Owner: theirs}}, from(spacing(most), 0), api.ErrThere)
}

// TestNextToOneAnother does one behind the other to the same accounts: nothing is kept between.
func TestNextToOneAnother(t *testing.T) {
	l := coins(100, 0, 0)
	steps := []struct {
		in    api.Instr
		want  []api.Account
		space uint64
	}{
		{from(moving(60), 0, 1), coins(40, 60, 0), 0},
		{from(making(10, 4, mine), 1, 2), []api.Account{{Coins: 40}, {Coins: 50}, {Coins: 10, Owner: mine, Space: 4}}, 4},
		{from(moving(5), 1, 2), []api.Account{{Coins: 40}, {Coins: 45}, {Coins: 15, Owner: mine, Space: 4}}, 0},
		{from(spacing(8), 0), []api.Account{{Coins: 40, Space: 8}, {Coins: 45}, {Coins: 15, Owner: mine, Space: 4}}, 8},
		{from(assigning(mine), 0), []api.Account{{Coins: 40, Owner: mine, Space: 8}, {Coins: 45}, {Coins: 15, Owner: mine, Space: 4}}, 0},
	}
	for _, k := range steps {
		does(t, "a step", l, k.in, k.want, k.space)
		does(t, "the same step again", l, k.in, k.want, k.space)
		l = k.want
	}
	fails(t, "nobody's any more", l, from(moving(1), 0, 1), api.ErrOwner)
}

// TestProgramTellsNothing: whoever calls has looked at it.
func TestProgramTellsNothing(t *testing.T) {
	for _, program := range []uint8{0, 1, 2, 200, 255} {
		in := from(moving(3), 0, 1)
		in.Program = program
		does(t, "any program", coins(10, 0), in, coins(7, 3), 0)
	}
}

// P14.2

func TestMoveToOneself(t *testing.T) {
	for _, has := range []uint64{0, 1, 10, 1<<63 + 1, most} {
		for _, many := range []uint64{0, has / 2, has} {
			does(t, "to oneself", coins(4, has, 5), from(moving(many), 1, 1), coins(4, has, 5), 0)
		}
		if has < most {
			fails(t, "too few", coins(4, has, 5), from(moving(has+1), 1, 1), api.ErrFunds)
		}
	}
	fails(t, "somebody's", []api.Account{{Coins: 9, Owner: mine}}, from(moving(1), 0, 0), api.ErrOwner)
	fails(t, "with space", []api.Account{{Coins: 9, Space: 1}}, from(moving(1), 0, 0), api.ErrOwner)
	for r, want := range map[api.Role]api.Errno{both: api.OK, signs: api.ErrWrite, written: api.ErrSigner, neither: api.ErrSigner} {
		if _, _, e := call(t, "to oneself", coins(9), []api.Role{r}, from(moving(1), 0, 0)); e != want {
			t.Errorf("to oneself, of %v: Do = %d; want %d", r, e, want)
		}
	}
}

func TestMakeOneself(t *testing.T) {
	for _, space := range []uint64{0, 5, api.MaxSpace} {
		for _, owner := range []api.Key{mine, {}} {
			want := []api.Account{{Coins: 4}, {Owner: owner, Space: space}}
			does(t, "oneself", coins(4, 0), from(making(0, space, owner), 1, 1), want, space)
		}
	}
	fails(t, "with coins", coins(9), from(making(0, 0, mine), 0, 0), api.ErrThere)
	fails(t, "with space", []api.Account{{Space: 1}}, from(making(0, 0, mine), 0, 0), api.ErrThere)
	fails(t, "somebody's", []api.Account{{Owner: mine}}, from(making(0, 0, mine), 0, 0), api.ErrThere)
	fails(t, "too much space", coins(0), from(making(1, api.MaxSpace+1, mine), 0, 0), api.ErrLimit)
	fails(t, "for coins", coins(0), from(making(1, 0, mine), 0, 0), api.ErrFunds)
	fails(t, "for all coins", coins(0), from(making(most, 0, mine), 0, 0), api.ErrFunds)
}

// P14.3

// draw answers numbers below n, the same ones each time.
func draw(seed uint32) func(n int) int {
	return func(n int) int {
		seed = seed*1664525 + 1013904223
		return int(seed>>8) % n
	}
}

// fault is what may be wrong, and the error that tells it.
type fault struct {
	is bool
	e  api.Errno
}

// first is the error of the first that is wrong.
func first(l []fault) api.Errno {
	for _, f := range l {
		if f.is {
			return f.e
		}
	}
	return api.OK
}

// number is that of bytes, the lowest first.
func number(b []byte) *big.Int {
	b = slices.Clone(b)
	slices.Reverse(b)
	return new(big.Int).SetBytes(b)
}

// slow does the same as Do, with numbers that have no end, all faults in a row, and each account written for itself.
func slow(l []api.Account, r []api.Role, in api.Instr) ([]api.Account, uint64, api.Errno) {
	lengths := map[byte]int{0: 52, 1: 36, 2: 12, 8: 12}
	tag, d := byte(255), in.Data
	if len(d) >= 4 && d[1] == 0 && d[2] == 0 && d[3] == 0 {
		tag = d[0]
	}
	highest := -1
	for _, i := range in.Accounts {
		highest = max(highest, int(i))
	}
	asks := map[byte]int{0: 2, 1: 1, 2: 2, 8: 1}[tag]
	if e := first([]fault{{len(l) != len(r), api.ErrArg}, {lengths[tag] == 0 || lengths[tag] != len(d), api.ErrData}, {len(in.Accounts) < asks || highest >= len(l), api.ErrIndex}}); e != api.OK {
		return nil, 0, e
	}
	i := in.Accounts[0]
	j := in.Accounts[asks-1]
	faults := []fault{{!r[i].Signs, api.ErrSigner}, {!r[i].Writes, api.ErrWrite}, {tag == 0 && !r[j].Signs, api.ErrSigner}, {asks == 2 && !r[j].Writes, api.ErrWrite}}
	has, to := new(big.Int).SetUint64(l[i].Coins), new(big.Int).SetUint64(l[j].Coins)
	others, spaced := l[i].Owner != api.Key{}, l[i].Space != 0
	wide, space, sum := new(big.Int), new(big.Int), new(big.Int)
	var owner api.Key
	switch tag {
	case 0:
		wide, space, owner = number(d[4:12]), number(d[12:20]), api.Key(d[20:])
		faults = append(faults, fault{l[j] != api.Account{}, api.ErrThere}, fault{others || spaced, api.ErrOwner}, fault{space.Cmp(big.NewInt(1048576)) > 0, api.ErrLimit}, fault{has.Cmp(wide) < 0, api.ErrFunds})
	case 1:
		owner = api.Key(d[4:])
		faults = append(faults, fault{others, api.ErrOwner})
	case 2:
		wide = number(d[4:])
		faults = append(faults, fault{others || spaced, api.ErrOwner}, fault{has.Cmp(wide) < 0, api.ErrFunds}, fault{i != j && sum.Add(to, wide).BitLen() > 64, api.ErrOver})
	case 8:
		space = number(d[4:])
		faults = append(faults, fault{others || spaced, api.ErrThere}, fault{space.Cmp(big.NewInt(1048576)) > 0, api.ErrLimit})
	}
	if e := first(faults); e != api.OK {
		return nil, 0, e
	}
	var out []api.Account
	for at, a := range l {
		switch {
		case tag == 0 && at == int(j):
			a = api.Account{Coins: wide.Uint64(), Owner: owner, Space: space.Uint64()}
		case tag == 0 && at == int(i), tag == 2 && at == int(i) && i != j:
			a.Coins = new(big.Int).Sub(has, wide).Uint64()
		case tag == 1 && at == int(i):
			a.Owner = owner
		case tag == 2 && at == int(j) && i != j:
			a.Coins = sum.Uint64()
		case tag == 8 && at == int(i):
			a.Space = space.Uint64()
		}
		out = append(out, a)
	}
	return out, space.Uint64(), api.OK
}

// some answers one of these, the first ones oftener.
func some[T any](next func(int) int, l ...T) T { return l[min(next(len(l)), next(len(l)))] }

// drawn are accounts, their roles, and an instruction, most of which may be.
func drawn(next func(int) int) (l []api.Account, r []api.Role, in api.Instr) {
	for range next(6) {
		l = append(l, api.Account{Coins: some[uint64](next, 0, 10, 1<<63, most), Owner: some(next, api.Key{}, api.Key{}, api.Key{}, mine, theirs), Space: some[uint64](next, 0, 0, 0, 1, api.MaxSpace)})
	}
	for range len(l) + next(60)/59 {
		r = append(r, some(next, both, both, both, written, signs, neither))
	}
	for range some(next, 2, 2, 1, 3, 0) {
		in.Accounts = append(in.Accounts, byte(next(max(len(l), 1)+next(12)/11)))
	}
	many := some[uint64](next, 0, 3, 10, 11, 1<<63, most)
	space := some[uint64](next, 0, 7, api.MaxSpace, api.MaxSpace+1, most)
	owner := some(next, mine, theirs, api.Key{})
	in.Data = some(next, moving(many), making(many, space, owner), spacing(space), assigning(owner))
	switch next(40) {
	case 0:
		in.Data = in.Data[:next(len(in.Data))]
	case 1:
		in.Data = append(in.Data, 0)
	case 2:
		in.Data[next(4)] = byte(next(10))
	}
	return l, r, in
}

// TestDrawn holds Do against the slow one; that each error is among what is answered shows that enough is drawn.
func TestDrawn(t *testing.T) {
	next := draw(14)
	answers := map[api.Errno]int{}
	for range 60000 {
		l, r, in := drawn(next)
		got, space, e := call(t, "drawn", l, r, in)
		want, taken, fails := slow(l, r, in)
		if !reflect.DeepEqual(got, want) || space != taken || e != fails {
			t.Fatalf("Do of %v, %v, %v = %v, %d, %d; want %v, %d, %d", l, r, in, got, space, e, want, taken, fails)
		}
		answers[e]++
		if e == api.OK {
			keeps(t, l, got, in)
		}
	}
	for _, e := range []api.Errno{api.OK, api.ErrArg, api.ErrLimit, api.ErrIndex, api.ErrThere, api.ErrData, api.ErrSigner, api.ErrWrite, api.ErrOwner, api.ErrFunds, api.ErrOver} {
		if answers[e] < 30 {
			t.Errorf("%d is answered %d times alone", e, answers[e])
		}
	}
}

// keeps fails unless all coins are what they were, together, and all accounts that no tag asks for.
func keeps(t *testing.T, l, got []api.Account, in api.Instr) {
	t.Helper()
	was, is := new(big.Int), new(big.Int)
	for i := range l {
		was.Add(was, new(big.Int).SetUint64(l[i].Coins))
		is.Add(is, new(big.Int).SetUint64(got[i].Coins))
		asked := in.Accounts[:min(2, len(in.Accounts))]
		if in.Data[0] == 1 || in.Data[0] == 8 {
			asked = asked[:1]
		}
		if !slices.Contains(asked, byte(i)) && got[i] != l[i] {
			t.Errorf("Do of %v, %v changes the one at %d: %v", l, in, i, got)
		}
	}
	if was.Cmp(is) != 0 {
		t.Errorf("Do of %v, %v = %v: coins were %v, are %v", l, in, got, was, is)
	}
}
