package rules

import (
	"reflect"
	"slices"
	"testing"

	"ferryhouse/api"
)

// keys are so many, no two alike.
func keys(many int) (l []api.Key) {
	for i := range many {
		l = append(l, api.Key{1, byte(i), byte(i >> 8), byte(i >> 16)})
	}
	return l
}

// rising are the indices below many.
func rising(many int) (l []byte) {
	for i := range many {
		l = append(l, byte(i))
	}
	return l
}

// example is the document's: a key that signs, its program, and one instruction.
func example() api.Tx {
	return api.Tx{
		Sigs: make([]api.Sig, 1),
		M: api.Message{
			Header: api.Header{Signers: 1},
			Keys:   keys(2),
			Instrs: []api.Instr{{Program: 1, Accounts: []byte{0}}},
		},
	}
}

// full has all that a transaction can have: four keys of its own, of which three sign, and five that are looked up.
func full() api.Tx {
	return api.Tx{
		Sigs: []api.Sig{{1}, {2}, {3}},
		M: api.Message{
			V0:     true,
			Header: api.Header{Signers: 3, ReadSigned: 2, ReadOther: 1},
			Keys:   keys(4),
			Recent: api.Hash{9},
			Instrs: []api.Instr{
				{Program: 3, Accounts: []byte{0, 8, 0, 3}, Data: []byte("abc")},
				{Program: 1},
				{Program: 2, Accounts: []byte{7}, Data: []byte{5}},
			},
			Lookups: []api.Lookup{
				{Table: api.Key{5}, Writes: []byte{3, 3}, Reads: []byte{255}},
				{Table: api.Key{5}, Writes: []byte{0}},
				{Table: api.Key{6}, Reads: []byte{3}},
			},
		},
	}
}

// most is as great as may be: all keys that there may be sign.
func most() api.Tx {
	return api.Tx{
		Sigs: make([]api.Sig, api.MaxLocks),
		M: api.Message{
			Header: api.Header{Signers: api.MaxLocks, ReadSigned: api.MaxLocks - 1},
			Keys:   keys(api.MaxLocks),
			Instrs: []api.Instr{{Program: api.MaxLocks - 1, Accounts: rising(api.MaxLocks)}},
		},
	}
}

// least has one key, which signs, and nothing else.
func least() api.Tx {
	return api.Tx{Sigs: make([]api.Sig, 1), M: api.Message{Header: api.Header{Signers: 1}, Keys: keys(1)}}
}

type named struct {
	name string
	tx   api.Tx
}

// may are transactions that may be; each call makes them anew.
func may() []named {
	lookedUp := least()
	lookedUp.M.V0 = true
	lookedUp.M.Lookups = []api.Lookup{{Writes: rising(30), Reads: rising(33)}}
	return []named{{"the example", example()}, {"full", full()}, {"most", most()}, {"least", least()}, {"as many as may be looked up", lookedUp}}
}

// expect fails unless Check answers e.
func expect(t *testing.T, name string, tx api.Tx, e api.Errno) {
	t.Helper()
	if got := Check(tx); got != e {
		t.Errorf("%s: Check = %d; want %d", name, got, e)
	}
}

// P5.1

func TestTotal(t *testing.T) {
	elder := full()
	elder.M.V0 = false
	for _, k := range []struct {
		name string
		tx   api.Tx
		want int
	}{
		{"nothing", api.Tx{}, 0},
		{"signatures alone", api.Tx{Sigs: make([]api.Sig, 5), M: api.Message{Header: api.Header{Signers: 5, ReadSigned: 2, ReadOther: 3}}}, 0},
		{"the example", example(), 2},
		{"full", full(), 9},
		{"full, of the elder kind", elder, 9},
		{"most", most(), api.MaxLocks},
		{"lookups alone", api.Tx{M: api.Message{V0: true, Lookups: []api.Lookup{{Writes: rising(256)}, {Reads: rising(7)}, {}}}}, 263},
		{"one more than may be", api.Tx{M: api.Message{Keys: keys(api.MaxLocks + 1)}}, api.MaxLocks + 1},
		{"keys that stand twice", api.Tx{M: api.Message{Keys: make([]api.Key, 3)}}, 3},
		{"very many", api.Tx{M: api.Message{Keys: keys(70000), Lookups: slices.Repeat([]api.Lookup{{Writes: make([]byte, 300), Reads: make([]byte, 5)}}, 1000)}}, 375000},
	} {
		if got := Total(k.tx); got != k.want {
			t.Errorf("%s: Total = %d; want %d", k.name, got, k.want)
		}
	}
}

// P5.2

func TestCheckTakesWhatMayBe(t *testing.T) {
	for _, k := range may() {
		expect(t, k.name, k.tx, api.OK)
	}
	for name, change := range map[string]func(tx *api.Tx){
		"no instructions":          func(tx *api.Tx) { tx.M.Instrs = nil },
		"empty instructions":       func(tx *api.Tx) { tx.M.Instrs = []api.Instr{} },
		"no lookups":               func(tx *api.Tx) { tx.M.Lookups, tx.M.Instrs = nil, nil },
		"all are written":          func(tx *api.Tx) { tx.M.Header.ReadSigned, tx.M.Header.ReadOther = 0, 0 },
		"the elder kind":           func(tx *api.Tx) { tx.M.V0 = false },
		"many instructions":        func(tx *api.Tx) { tx.M.Instrs = slices.Repeat(tx.M.Instrs, 1000) },
		"an account, many times":   func(tx *api.Tx) { tx.M.Instrs[1].Accounts = make([]byte, 1000) },
		"a table that is a key":    func(tx *api.Tx) { tx.M.Lookups[0].Table = tx.M.Keys[1] },
		"another hash":             func(tx *api.Tx) { tx.M.Recent = api.Hash{} },
		"a program that signs":     func(tx *api.Tx) { tx.M.Instrs[0].Program = 1 },
		"a program among accounts": func(tx *api.Tx) { tx.M.Instrs[0].Accounts = []byte{3} },
	} {
		tx := full()
		change(&tx)
		expect(t, name, tx, api.OK)
	}
}

func TestExamples(t *testing.T) {
	tx := example()
	expect(t, "the example", tx, api.OK)
	tx.M.Instrs[0].Program = 0
	expect(t, "with Program 0", tx, api.ErrIndex)
	tx = example()
	tx.M.Instrs[0].Accounts[0] = 2
	expect(t, "with account 2", tx, api.ErrIndex)
	tx = example()
	tx.M.Keys = append(tx.M.Keys, tx.M.Keys[1])
	expect(t, "with b once more", tx, api.ErrTwice)
}

func TestSignaturesAreAsManyAsSigners(t *testing.T) {
	expect(t, "nothing", api.Tx{}, api.ErrSigs)
	for signers := range 256 {
		for _, many := range []int{0, 1, signers - 1, signers, signers + 1, signers + 256, api.MaxShort + 1} {
			if many < 0 {
				continue
			}
			tx := api.Tx{Sigs: make([]api.Sig, many), M: api.Message{Header: api.Header{Signers: uint8(signers)}, Keys: keys(256)}}
			want := api.ErrSigs
			if signers > 0 && many == signers {
				want = api.ErrLimit // behind it: 256 keys are too many
			}
			if e := Check(tx); e != want {
				t.Errorf("%d signatures, %d Signers: Check = %d; want %d", many, signers, e, want)
			}
		}
	}
}

// TestHeaderHasRoom goes through headers of numbers whose sums, or differences, would wrap round as bytes.
func TestHeaderHasRoom(t *testing.T) {
	edges := []int{0, 1, 2, 3, 62, 63, 64, 65, 127, 128, 129, 192, 193, 254, 255}
	for _, many := range []int{0, 1, 2, 3, 63, 64, 65, 255, 256, 320, 510, 511} {
		all := keys(many)
		for _, signers := range edges[1:] {
			for _, readSigned := range edges {
				for _, readOther := range edges {
					h := api.Header{Signers: uint8(signers), ReadSigned: uint8(readSigned), ReadOther: uint8(readOther)}
					want := api.OK
					switch {
					case readSigned >= signers, signers+readOther > many:
						want = api.ErrHeader
					case many > api.MaxLocks:
						want = api.ErrLimit
					}
					if e := Check(api.Tx{Sigs: make([]api.Sig, signers), M: api.Message{Header: h, Keys: all}}); e != want {
						t.Errorf("%d keys, header %v: Check = %d; want %d", many, h, e, want)
					}
				}
			}
		}
	}
	// Keys that are looked up make no room.
	tx := least()
	tx.M.V0, tx.M.Header.ReadOther = true, 1
	tx.M.Lookups = []api.Lookup{{Reads: []byte{1, 2, 3}}}
	expect(t, "a key that is looked up", tx, api.ErrHeader)
}

func TestLookupsLookUp(t *testing.T) {
	for _, at := range []int{0, 1, 2, 3} {
		for name, l := range map[string]api.Lookup{
			"nothing":     {},
			"a table":     {Table: api.Key{5}},
			"empty lists": {Table: api.Key{5}, Writes: []byte{}, Reads: make([]byte, 0, 5)},
		} {
			tx := full()
			tx.M.Lookups = slices.Insert(tx.M.Lookups, at, l)
			expect(t, name, tx, api.ErrLookup)
			tx.M.Lookups[at].Writes = []byte{0}
			expect(t, name+", and one written", tx, api.OK)
			tx.M.Lookups[at].Writes, tx.M.Lookups[at].Reads = nil, []byte{0}
			expect(t, name+", and one read", tx, api.OK)
		}
	}
}

func TestKeysUpToLimit(t *testing.T) {
	for own := 1; own <= api.MaxLocks+2; own++ {
		for _, all := range []int{own, api.MaxLocks - 1, api.MaxLocks, api.MaxLocks + 1, api.MaxLocks + 2, 320, 1000} {
			if all < own {
				continue
			}
			for _, parts := range []int{1, 2, 3} {
				tx := least()
				tx.M.V0, tx.M.Keys = true, keys(own)
				for i, left := 0, all-own; left > 0; i++ {
					n := min(left, (all-own+parts-1)/parts)
					tx.M.Lookups = append(tx.M.Lookups, api.Lookup{Writes: make([]byte, n*(i%2)), Reads: make([]byte, n*(1-i%2))})
					left -= n
				}
				want := api.OK
				if all > api.MaxLocks {
					want = api.ErrLimit
				}
				if e := Check(tx); e != want {
					t.Errorf("%d keys, %d with lookups: Check = %d; want %d", own, all, e, want)
				}
			}
		}
	}
}

// TestIndicesAreOfKeys puts each byte at each index: a program is a key of the message's own, but the first one; an account may be looked up.
func TestIndicesAreOfKeys(t *testing.T) {
	for _, base := range []func() api.Tx{example, full, most} {
		own, all := len(base().M.Keys), Total(base())
		for i := range base().M.Instrs {
			for x := range 256 {
				tx := base()
				tx.M.Instrs[i].Program = uint8(x)
				want := api.ErrIndex
				if x > 0 && x < own {
					want = api.OK
				}
				if e := Check(tx); e != want {
					t.Errorf("%d keys, instruction %d, Program %d: Check = %d; want %d", own, i, x, e, want)
				}
				want = api.ErrIndex
				if x < all {
					want = api.OK
				}
				for j := range base().M.Instrs[i].Accounts {
					tx := base()
					tx.M.Instrs[i].Accounts[j] = uint8(x)
					if e := Check(tx); e != want {
						t.Errorf("%d keys, instruction %d, account %d = %d: Check = %d; want %d", all, i, j, x, e, want)
					}
				}
			}
		}
	}
	tx := least()
	tx.M.Instrs = []api.Instr{{}}
	expect(t, "one key, Program 0", tx, api.ErrIndex)
	tx.M.Instrs[0].Program = 1
	expect(t, "one key, Program 1", tx, api.ErrIndex)
}

func TestNoKeyStandsTwice(t *testing.T) {
	for i := range api.MaxLocks {
		for j := range i {
			tx := most()
			tx.M.Keys[i] = tx.M.Keys[j]
			if e := Check(tx); e != api.ErrTwice {
				t.Errorf("keys %d and %d are one: Check = %d", j, i, e)
			}
		}
	}
	for i := range (api.Key{}) {
		tx := example()
		tx.M.Keys = make([]api.Key, 2)
		tx.M.Keys[1][i] = 128
		if e := Check(tx); e != api.OK {
			t.Errorf("keys that differ at byte %d: Check = %d", i, e)
		}
	}
}

// faults break one rule each, and none that comes ahead of it; they stand in the order of the rules.
func faults() []struct {
	e     api.Errno
	spoil func(tx *api.Tx)
} {
	return []struct {
		e     api.Errno
		spoil func(tx *api.Tx)
	}{
		{api.ErrSigs, func(tx *api.Tx) { tx.Sigs = tx.Sigs[1:] }},
		{api.ErrHeader, func(tx *api.Tx) { tx.M.Header.ReadOther = 255 }},
		{api.ErrLookup, func(tx *api.Tx) { tx.M.Lookups = append(tx.M.Lookups, api.Lookup{}) }},
		{api.ErrLimit, func(tx *api.Tx) { tx.M.Lookups = append(tx.M.Lookups, api.Lookup{Reads: rising(api.MaxLocks)}) }},
		{api.ErrIndex, func(tx *api.Tx) { tx.M.Instrs = append(tx.M.Instrs, api.Instr{Program: 255}) }},
		{api.ErrTwice, func(tx *api.Tx) { tx.M.Keys[len(tx.M.Keys)-1] = tx.M.Keys[0] }},
	}
}

// TestTheFirstRuleCounts breaks every set of rules.
func TestTheFirstRuleCounts(t *testing.T) {
	for _, base := range []func() api.Tx{example, full, most} {
		for set := range 1 << len(faults()) {
			tx, want := base(), api.OK
			for i, f := range faults() {
				if set>>i&1 == 0 {
					continue
				}
				f.spoil(&tx)
				if want == api.OK {
					want = f.e
				}
			}
			if e := Check(tx); e != want {
				t.Errorf("%d keys, faults %b: Check = %d; want %d", Total(base()), set, e, want)
			}
		}
	}
}

// TestOtherFaultsCountBehind has faults of one rule that could be taken for one of another.
func TestOtherFaultsCountBehind(t *testing.T) {
	for _, k := range []struct {
		name  string
		spoil func(tx *api.Tx)
		e     api.Errno
	}{
		{"no Signers, and a header without room", func(tx *api.Tx) { tx.M.Header.Signers = 0 }, api.ErrSigs},
		{"no Signers, no signatures, no keys", func(tx *api.Tx) { tx.Sigs, tx.M.Header.Signers, tx.M.Keys = nil, 0, nil }, api.ErrSigs},
		{"no keys", func(tx *api.Tx) { tx.M.Keys = nil }, api.ErrHeader},
		{"fewer keys than signers, one twice", func(tx *api.Tx) { tx.M.Keys = make([]api.Key, 2) }, api.ErrHeader},
		{"too many keys, all one", func(tx *api.Tx) { tx.M.Keys = make([]api.Key, api.MaxLocks+1) }, api.ErrLimit},
		{"a lookup of nothing, too many keys", func(tx *api.Tx) { tx.M.Keys, tx.M.Lookups[1].Writes = keys(99), nil }, api.ErrLookup},
		{"an account that a lookup less lacks", func(tx *api.Tx) { tx.M.Lookups = tx.M.Lookups[:2] }, api.ErrIndex},
		{"an account of no key, one key twice", func(tx *api.Tx) { tx.M.Keys[3], tx.M.Instrs[2].Accounts[0] = tx.M.Keys[2], 9 }, api.ErrIndex},
	} {
		tx := full()
		k.spoil(&tx)
		expect(t, k.name, tx, k.e)
	}
}

func TestCallsLeaveWhatIsHandedIn(t *testing.T) {
	held := func(name string, tx, was api.Tx) {
		if Check(tx); !reflect.DeepEqual(tx, was) {
			t.Errorf("%s: Check made of it %v", name, tx)
		}
		if Total(tx); !reflect.DeepEqual(tx, was) {
			t.Errorf("%s: Total made of it %v", name, tx)
		}
	}
	for i, k := range may() {
		held(k.name, k.tx, may()[i].tx)
		for _, f := range faults() {
			tx, was := may()[i].tx, may()[i].tx
			f.spoil(&tx)
			f.spoil(&was)
			held(k.name+", with a fault", tx, was)
		}
	}
}

// fault tells what Check must, another way than the program does: it counts all keys out, and holds each key against each.
func fault(tx api.Tx) api.Errno {
	m := tx.M
	signers, own, all, blank := 0, 0, 0, 0
	for range m.Header.Signers {
		signers++
	}
	for range m.Keys {
		own, all = own+1, all+1
	}
	for _, l := range m.Lookups {
		was := all
		for range l.Writes {
			all++
		}
		for range l.Reads {
			all++
		}
		if was == all {
			blank++
		}
	}
	if signers < 1 || signers != len(tx.Sigs) {
		return api.ErrSigs
	}
	if signers <= int(m.Header.ReadSigned) || own-signers < int(m.Header.ReadOther) {
		return api.ErrHeader
	}
	if blank > 0 {
		return api.ErrLookup
	}
	if all > 64 {
		return api.ErrLimit
	}
	for _, in := range m.Instrs {
		highest := 0
		for _, x := range in.Accounts {
			highest = max(highest, int(x)+1)
		}
		if in.Program < 1 || int(in.Program) > own-1 || highest > all {
			return api.ErrIndex
		}
	}
	for i := range m.Keys {
		for j := range m.Keys {
			if i != j && m.Keys[i] == m.Keys[j] {
				return api.ErrTwice
			}
		}
	}
	return api.OK
}

// draw makes transactions of a fixed rule.
type draw uint32

// below is a number from 0 on, below n.
func (d *draw) below(n int) int {
	*d = *d*1664525 + 1013904223
	return int(uint64(*d) * uint64(n) >> 32)
}

// few is 0 mostly, and below n otherwise.
func (d *draw) few(n int) int {
	if d.below(4) > 0 {
		return 0
	}
	return d.below(n)
}

func (d *draw) list(many, limit int) (l []byte) {
	for range many {
		l = append(l, byte(d.below(limit)))
	}
	return l
}

func (d *draw) tx() api.Tx {
	signers := d.below(4)
	tx := api.Tx{Sigs: make([]api.Sig, max(0, signers+d.few(3)-d.few(3)))}
	own := signers + d.below(4)
	if d.below(10) == 0 {
		own += 40 + d.below(30)
	}
	tx.M = api.Message{V0: d.below(2) > 0, Keys: keys(own), Header: api.Header{Signers: uint8(signers), ReadSigned: uint8(d.few(3)), ReadOther: uint8(d.few(5))}}
	for i := range tx.M.Keys {
		tx.M.Keys[i] = tx.M.Keys[max(0, i-d.few(2)*d.few(9))]
	}
	for range d.few(3) {
		tx.M.Lookups = append(tx.M.Lookups, api.Lookup{Writes: d.list(d.below(4), 256), Reads: d.list(d.below(4), 256)})
	}
	for range d.below(4) {
		in := api.Instr{Program: uint8(d.below(max(1, own)) + d.few(2)), Accounts: d.list(d.below(4), Total(tx)+1), Data: d.list(d.below(3), 256)}
		if in.Program == 0 && own > 1 && d.below(4) > 0 {
			in.Program = 1
		}
		tx.M.Instrs = append(tx.M.Instrs, in)
	}
	return tx
}

func TestCheckOfManyTransactions(t *testing.T) {
	d, told := draw(1), map[api.Errno]int{}
	for range 50000 {
		tx := d.tx()
		want := fault(tx)
		if e := Check(tx); e != want {
			t.Fatalf("%v: Check = %d; want %d", tx, e, want)
		}
		told[want]++
		if want == api.OK {
			follows(t, "drawn", tx)
		}
	}
	for _, e := range []api.Errno{api.OK, api.ErrSigs, api.ErrHeader, api.ErrLookup, api.ErrLimit, api.ErrIndex, api.ErrTwice} {
		if told[e] < 300 {
			t.Errorf("error %d: only %d transactions", e, told[e])
		}
	}
}

// P5.3

func TestWhatFollows(t *testing.T) {
	for _, k := range may() {
		follows(t, k.name, k.tx)
	}
}

// follows fails unless all holds that P5.3 says of a transaction that may be.
func follows(t *testing.T, name string, tx api.Tx) {
	t.Helper()
	expect(t, name, tx, api.OK)
	sigs := make([]api.Sig, len(tx.Sigs))
	for i := range sigs {
		sigs[i] = api.Sig{255, byte(i / 2), 255}
	}
	other := tx
	other.Sigs = sigs
	expect(t, name+", with other signatures", other, api.OK)
	for _, data := range [][]byte{nil, {}, {0}, {255, 255, 255}, make([]byte, api.MaxPacket), make([]byte, api.MaxShort+1)} {
		other := tx
		other.M.Instrs = slices.Clone(tx.M.Instrs)
		for i := range other.M.Instrs {
			other.M.Instrs[i].Data = data
		}
		expect(t, name+", with other data", other, api.OK)
	}
	other = tx
	other.Sigs = append(sigs, api.Sig{})
	expect(t, name+", with one signature more", other, api.ErrSigs)
	other = tx
	other.M.Keys = append(slices.Clone(tx.M.Keys), tx.M.Keys[0])
	want := api.ErrTwice
	if Total(tx) == api.MaxLocks {
		want = api.ErrLimit
	}
	expect(t, name+", with its first key once more", other, want)
}
