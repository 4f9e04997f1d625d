package readies

import (
	"bytes"
	"fmt"
	"math/big"
	"reflect"
	"slices"
	"testing"

	"ferryhouse/api"
	"ferryhouse/budgets"
	"ferryhouse/costs"
	"ferryhouse/packets"
	"ferryhouse/priorities"
	"ferryhouse/roles"
	"ferryhouse/rules"
	"ferryhouse/tables"
)

const greatest uint64 = 1<<64 - 1

// shelf is a registry of two tables; the known programs' keys stand in one.
func shelf(t *testing.T) *tables.Registry {
	t.Helper()
	r := tables.New()
	lay(t, r, api.Key{1}, []api.Key{{21}, {22}, {23}, roles.System(), roles.Budget()})
	lay(t, r, api.Key{2}, []api.Key{{31}, {22}})
	return r
}

// lay puts a table into a registry.
func lay(t *testing.T, r *tables.Registry, table api.Key, l []api.Key) {
	t.Helper()
	if e := r.Put(table, l); e != api.OK {
		t.Fatalf("a table: error %d", e)
	}
}

// notThere are registries that New did not make.
func notThere() map[string]*tables.Registry {
	return map[string]*tables.Registry{"nil": nil, "a registry of noughts": {}}
}

// laid answers a transaction's bytes.
func laid(t *testing.T, tx api.Tx) []byte {
	t.Helper()
	b, e := packets.Put(tx)
	if e != api.OK {
		t.Fatalf("no packet: error %d", e)
	}
	return b
}

// rising are the indices below many.
func rising(many int) (l []byte) {
	for i := range many {
		l = append(l, byte(i))
	}
	return l
}

// units and price are the data of words on the budget.
func units(n uint64) []byte { return number(2, n, 4) }
func price(n uint64) []byte { return number(3, n, 8) }

func number(kind byte, n uint64, many int) []byte {
	b := []byte{kind}
	for range many {
		b = append(b, byte(n))
		n >>= 8
	}
	return b
}

// roleList tells of each key by a word: it signs (s), is written (w), both, or neither.
func roleList(keys []api.Key, words ...string) (l []api.Role) {
	for i, k := range keys {
		l = append(l, api.Role{Key: k, Signs: words[i] == "s" || words[i] == "sw", Writes: words[i] == "w" || words[i] == "sw"})
	}
	return l
}

// example is that of chapter 5.
func example() api.Tx {
	return api.Tx{
		Sigs: []api.Sig{{7}},
		M: api.Message{
			Header: api.Header{Signers: 1},
			Keys:   []api.Key{{11}, {12}},
			Recent: api.Hash{5},
			Instrs: []api.Instr{{Program: 1, Accounts: []byte{0}}},
		},
	}
}

// full has all that a transaction can have; two words are on the budget.
func full() api.Tx {
	return api.Tx{
		Sigs: []api.Sig{{7}, {8}},
		M: api.Message{
			V0:     true,
			Header: api.Header{Signers: 2, ReadSigned: 1, ReadOther: 2},
			Keys:   []api.Key{{11}, {12}, {13}, roles.Budget(), {14}},
			Recent: api.Hash{5, 6},
			Instrs: []api.Instr{
				{Program: 3, Data: units(1000)},
				{Program: 4, Accounts: []byte{0, 8, 0}, Data: []byte("eleven byte")},
				{Program: 3, Accounts: []byte{2}, Data: price(2000000)},
				{Program: 2},
			},
			Lookups: []api.Lookup{
				{Table: api.Key{1}, Writes: []byte{1, 3}, Reads: []byte{0}},
				{Table: api.Key{2}, Writes: []byte{0}},
			},
		},
	}
}

// budgeted is the example with words on the budget of these data.
func budgeted(data ...[]byte) api.Tx {
	tx := example()
	tx.M.Keys = append(tx.M.Keys, roles.Budget())
	for _, d := range data {
		tx.M.Instrs = append(tx.M.Instrs, api.Instr{Program: 2, Data: d})
	}
	return tx
}

// sized is the example with so many data that it has just so many bytes.
func sized(t *testing.T, size int) api.Tx {
	t.Helper()
	tx := example()
	tx.M.Instrs[0].Data = make([]byte, 1000)
	tx.M.Instrs[0].Data = make([]byte, 1000+size-len(laid(t, tx)))
	return tx
}

// sample is a transaction, and what must be told of it beside itself.
type sample struct {
	name string
	tx   api.Tx
	want api.Ready
}

// samples are transactions whose numbers were worked out by hand; each call makes them anew.
func samples(t *testing.T) []sample {
	t.Helper()
	bare, looked := example(), example()
	bare.M.Instrs = nil
	looked.M.V0 = true
	looked.M.Lookups = []api.Lookup{{Table: api.Key{1}, Writes: []byte{4, 0}, Reads: []byte{2, 3}}, {Table: api.Key{2}, Reads: []byte{1}}}
	two := roleList([]api.Key{{11}, {12}}, "sw", "w")
	three := append(two[:2:2], api.Role{Key: roles.Budget()})
	l := []sample{
		{"the document's example", example(), api.Ready{Roles: two, Budget: api.Budget{Units: 200000, Bad: -1}, Fee: 5000, Cost: 201320, Priority: 12417}},
		{"no instructions", bare, api.Ready{Roles: two, Budget: api.Budget{Bad: -1}, Fee: 5000, Cost: 1320, Priority: 1892505}},
		{"full", full(), api.Ready{
			Roles: roleList(
				[]api.Key{{11}, {12}, {13}, roles.Budget(), {14}, {22}, roles.System(), {31}, {21}},
				"sw", "s", "w", "", "", "w", "", "w", ""),
			// 2 times 720, 4 times 300, 25 bytes of data by 4, 1000 units; 5000 and 2000 by it and 1
			Budget: api.Budget{Units: 1000, Price: 2000000, Bad: -1}, Fee: 12000, Cost: 3646, Priority: 1919385,
		}},
		{"the known programs' keys, looked up", looked, api.Ready{
			Roles: roleList(
				[]api.Key{{11}, {12}, roles.Budget(), {21}, {23}, roles.System(), {22}},
				"sw", "w", "", "w", "", "", ""),
			Budget: api.Budget{Units: 200000, Bad: -1}, Fee: 5000, Cost: 201620, Priority: 12399,
		}},
		{"a bad word", budgeted(price(1000000), []byte{9}, units(7)), api.Ready{Roles: three, Budget: api.Budget{Units: 200000, Price: 1000000, Bad: 2}, Fee: 205000, Cost: 201323, Priority: 1005841}},
		{"no units", budgeted(units(0), price(greatest)), api.Ready{Roles: three, Budget: api.Budget{Price: greatest, Bad: -1}, Fee: 5000, Cost: 1323, Priority: 1888217}},
		{"all units, at the greatest price", budgeted(units(1<<32-1), price(greatest)), api.Ready{Roles: three, Budget: api.Budget{Units: api.MaxUnits, Price: greatest, Bad: -1}, Fee: greatest, Cost: 1401323, Priority: 0}},
		{"one unit, at the greatest price", budgeted(units(1), price(greatest)), api.Ready{Roles: three, Budget: api.Budget{Units: 1, Price: greatest, Bad: -1}, Fee: 18446744078710, Cost: 1324, Priority: 0}},
		{"as many bytes as may be", sized(t, api.MaxPacket), api.Ready{Roles: two, Budget: api.Budget{Units: 200000, Bad: -1}, Fee: 5000, Cost: 201585, Priority: 12401}},
	}
	for i := range l {
		k := &l[i]
		k.want.Tx, k.want.Bytes = k.tx, laid(t, k.tx)
		if k.want.Priority == 0 {
			k.want.Priority = ahead(k.want)
		}
	}
	return l
}

// ahead works a priority out by numbers of any width.
func ahead(x api.Ready) uint64 {
	wide := func(n uint64) *big.Int { return new(big.Int).SetUint64(n) }
	held := func(n *big.Int) *big.Int {
		if n.Cmp(wide(greatest)) > 0 {
			return wide(greatest)
		}
		return n
	}
	pay := new(big.Int).Mul(wide(x.Budget.Price), wide(x.Budget.Units))
	pay.Div(pay.Add(pay, wide(999999)), wide(1000000))
	pay = held(pay.Add(pay, wide(2500*uint64(len(x.Tx.Sigs)))))
	return held(pay.Div(pay.Mul(pay, wide(1000000)), wide(x.Cost+1))).Uint64()
}

// fault is a change of a transaction, and the error that comes of it.
type fault struct {
	change func(tx *api.Tx)
	e      api.Errno
}

// malformed are changes of full that chapter 5 rules out.
func malformed() map[string]fault {
	return map[string]fault{
		"no signatures":            {func(tx *api.Tx) { tx.Sigs = nil }, api.ErrSigs},
		"a signature more":         {func(tx *api.Tx) { tx.Sigs = append(tx.Sigs, api.Sig{}) }, api.ErrSigs},
		"no signers":               {func(tx *api.Tx) { tx.Sigs, tx.M.Header.Signers = nil, 0 }, api.ErrSigs},
		"signers who all read":     {func(tx *api.Tx) { tx.M.Header.ReadSigned = 2 }, api.ErrHeader},
		"more readers than keys":   {func(tx *api.Tx) { tx.M.Header.ReadOther = 4 }, api.ErrHeader},
		"an empty lookup":          {func(tx *api.Tx) { tx.M.Lookups[1].Writes = nil }, api.ErrLookup},
		"a key too many":           {func(tx *api.Tx) { tx.M.Lookups[1].Reads = make([]byte, 56) }, api.ErrLimit},
		"a program that signs":     {func(tx *api.Tx) { tx.M.Instrs[3].Program = 0 }, api.ErrIndex},
		"a program, looked up":     {func(tx *api.Tx) { tx.M.Instrs[3].Program = 5 }, api.ErrIndex},
		"an account too far":       {func(tx *api.Tx) { tx.M.Instrs[1].Accounts[1] = 9 }, api.ErrIndex},
		"a key twice":              {func(tx *api.Tx) { tx.M.Keys[2] = tx.M.Keys[0] }, api.ErrTwice},
		"signatures and all else":  {func(tx *api.Tx) { tx.Sigs, tx.M.Instrs[3].Program, tx.M.Keys[2] = nil, 0, api.Key{11} }, api.ErrSigs},
		"a key twice, and a table": {func(tx *api.Tx) { tx.M.Keys[2], tx.M.Lookups[0].Table = api.Key{11}, api.Key{9} }, api.ErrTwice},
		"an account, and a table":  {func(tx *api.Tx) { tx.M.Instrs[1].Accounts[1], tx.M.Lookups[0].Table = 9, api.Key{9} }, api.ErrIndex},
		"a header, and an index":   {func(tx *api.Tx) { tx.M.Header.ReadSigned, tx.M.Lookups[0].Reads[0] = 2, 200 }, api.ErrHeader},
	}
}

// unresolved are changes of full that its bytes alone don't rule out.
func unresolved() map[string]fault {
	return map[string]fault{
		"no such table":              {func(tx *api.Tx) { tx.M.Lookups[0].Table = api.Key{9} }, api.ErrNone},
		"no such table, behind":      {func(tx *api.Tx) { tx.M.Lookups[1].Table = api.Key{9} }, api.ErrNone},
		"no such written key":        {func(tx *api.Tx) { tx.M.Lookups[0].Writes[0] = 5 }, api.ErrIndex},
		"no such read key":           {func(tx *api.Tx) { tx.M.Lookups[0].Reads[0] = 5 }, api.ErrIndex},
		"the last index":             {func(tx *api.Tx) { tx.M.Lookups[1].Writes[0] = 255 }, api.ErrIndex},
		"an index ahead of a table":  {func(tx *api.Tx) { tx.M.Lookups[0].Reads[0], tx.M.Lookups[1].Table = 5, api.Key{9} }, api.ErrIndex},
		"a table ahead of an index":  {func(tx *api.Tx) { tx.M.Lookups[0].Table, tx.M.Lookups[1].Writes[0] = api.Key{9}, 2 }, api.ErrNone},
		"looked up twice":            {func(tx *api.Tx) { tx.M.Lookups[0].Reads[0] = 1 }, api.ErrTwice},
		"looked up of two tables":    {func(tx *api.Tx) { tx.M.Lookups[1].Writes[0] = 1 }, api.ErrTwice},
		"one of its own":             {func(tx *api.Tx) { tx.M.Keys[2] = api.Key{31} }, api.ErrTwice},
		"Budget, once more":          {func(tx *api.Tx) { tx.M.Lookups[0].Reads[0] = 4 }, api.ErrTwice},
		"a key twice, then a table":  {func(tx *api.Tx) { tx.M.Lookups[0].Reads[0], tx.M.Lookups[1].Table = 1, api.Key{9} }, api.ErrNone},
		"a key twice, then an index": {func(tx *api.Tx) { tx.M.Lookups[0].Reads[0], tx.M.Lookups[1].Writes[0] = 1, 2 }, api.ErrIndex},
	}
}

// expectWire fails unless Wire answers this; beside an error nothing.
func expectWire(t *testing.T, name string, b []byte, want api.Tx, e api.Errno) {
	t.Helper()
	got, f := Wire(b)
	if f != e || !reflect.DeepEqual(got, want) {
		t.Errorf("%s: Wire(%x) = %v, %d; want %v, %d", name, b, got, f, want, e)
	}
}

// brief is all of a ready one but its transaction and its bytes, which are long.
func brief(x api.Ready) string {
	return fmt.Sprint(x.Roles, x.Budget, x.Fee, x.Cost, x.Priority)
}

// expectOf fails unless Of answers this; beside an error nothing.
func expectOf(t *testing.T, name string, b []byte, r *tables.Registry, want api.Ready, e api.Errno) {
	t.Helper()
	got, f := Of(b, r)
	if f != e || !reflect.DeepEqual(got, want) {
		t.Errorf("%s: Of(%x) = %s, %d; want %s, %d; the transaction and its bytes are right: %t", name, b, brief(got), f, brief(want), e,
			reflect.DeepEqual(got.Tx, want.Tx) && bytes.Equal(got.Bytes, want.Bytes))
	}
}

// expectMalformed fails unless both answer this error.
func expectMalformed(t *testing.T, name string, b []byte, r *tables.Registry, e api.Errno) {
	t.Helper()
	expectWire(t, name, b, api.Tx{}, e)
	expectOf(t, name, b, r, api.Ready{}, e)
}

// P11.1

func TestWire(t *testing.T) {
	for _, k := range samples(t) {
		expectWire(t, k.name, k.want.Bytes, k.tx, api.OK)
	}
}

// TestWireOfNoPackets has bytes that are no transaction at all.
func TestWireOfNoPackets(t *testing.T) {
	r := shelf(t)
	most := laid(t, sized(t, api.MaxPacket))
	for _, k := range []struct {
		name string
		b    []byte
		e    api.Errno
	}{
		{"nil", nil, api.ErrShort},
		{"no bytes", []byte{}, api.ErrShort},
		{"the document's example", []byte{0}, api.ErrShort},
		{"a number that goes on", []byte{128, 128}, api.ErrShort},
		{"a needless byte", []byte{128, 0}, api.ErrForm},
		{"a bad version", []byte{0, 129, 0}, api.ErrForm},
		{"a byte behind it", append(laid(t, full()), 0), api.ErrForm},
		{"too many bytes", make([]byte, api.MaxPacket+1), api.ErrLimit},
		{"too many bytes, of which one is behind it", append(most, 0), api.ErrLimit},
		{"bytes that go on", bytes.Repeat([]byte{255}, 5*api.MaxPacket), api.ErrLimit},
	} {
		expectMalformed(t, k.name, k.b, r, k.e)
	}
	for _, k := range samples(t) {
		for n := range k.want.Bytes {
			expectMalformed(t, k.name+", cut", k.want.Bytes[:n], r, api.ErrShort)
		}
	}
}

func TestWireKeepsToTheRules(t *testing.T) {
	r := shelf(t)
	for name, k := range malformed() {
		tx := full()
		k.change(&tx)
		b := laid(t, tx)
		expectMalformed(t, name, b, r, k.e)
		expectMalformed(t, name+", with a byte behind it", append(b, 0), r, api.ErrForm)
		expectMalformed(t, name+", cut", b[:len(b)-1], r, api.ErrShort)
		expectMalformed(t, name+", too long", append(b, make([]byte, api.MaxPacket)...), r, api.ErrLimit)
	}
	all := full()
	all.M.Lookups[1].Reads = make([]byte, 55)
	expectWire(t, "as many keys as may be", laid(t, all), all, api.OK)
}

// TestWireAsksForNoTables has packets whose keys can't be told: they are well formed.
func TestWireAsksForNoTables(t *testing.T) {
	for name, k := range unresolved() {
		tx := full()
		k.change(&tx)
		expectWire(t, name, laid(t, tx), tx, api.OK)
	}
}

// P11.2

func TestOf(t *testing.T) {
	r := shelf(t)
	for _, k := range samples(t) {
		expectOf(t, k.name, k.want.Bytes, r, k.want, api.OK)
	}
}

func TestOfWithoutTables(t *testing.T) {
	for _, k := range samples(t) {
		if len(k.tx.M.Lookups) > 0 {
			expectOf(t, k.name, k.want.Bytes, tables.New(), api.Ready{}, api.ErrNone)
			continue
		}
		expectOf(t, k.name, k.want.Bytes, tables.New(), k.want, api.OK)
	}
}

// TestOfWithoutRegistry has packets with all other errors: that there is none goes ahead of these.
func TestOfWithoutRegistry(t *testing.T) {
	for name, r := range notThere() {
		for _, k := range samples(t) {
			expectOf(t, name+", "+k.name, k.want.Bytes, r, api.Ready{}, api.ErrNil)
			expectOf(t, name+", "+k.name+", cut", k.want.Bytes[1:], r, api.Ready{}, api.ErrNil)
		}
		for _, all := range []map[string]fault{malformed(), unresolved()} {
			for why, k := range all {
				tx := full()
				k.change(&tx)
				expectOf(t, name+", "+why, laid(t, tx), r, api.Ready{}, api.ErrNil)
			}
		}
		for _, b := range [][]byte{nil, {}, {0}, {128, 0}, make([]byte, api.MaxPacket+1)} {
			expectOf(t, name+", no packet", b, r, api.Ready{}, api.ErrNil)
		}
	}
}

func TestOfUnresolved(t *testing.T) {
	r := shelf(t)
	for name, k := range unresolved() {
		tx := full()
		k.change(&tx)
		expectOf(t, name, laid(t, tx), r, api.Ready{}, k.e)
	}
}

// TestEachSignature has packets that differ in how many sign, and how many of these are written.
func TestEachSignature(t *testing.T) {
	for sigs := 1; sigs < 12; sigs++ {
		for read := range sigs {
			tx := api.Tx{Sigs: make([]api.Sig, sigs), M: api.Message{Header: api.Header{Signers: uint8(sigs), ReadSigned: uint8(read)}}}
			want := api.Ready{Tx: tx, Budget: api.Budget{Bad: -1}, Fee: uint64(5000 * sigs), Cost: uint64(720*sigs + 300*(sigs-read))}
			for i := range sigs {
				want.Tx.M.Keys = append(want.Tx.M.Keys, api.Key{40, byte(i)})
				want.Roles = append(want.Roles, api.Role{Key: api.Key{40, byte(i)}, Signs: true, Writes: i < sigs-read})
			}
			want.Bytes = laid(t, want.Tx)
			want.Priority = uint64(2500*sigs) * 1000000 / (want.Cost + 1)
			expectOf(t, "signers alone", want.Bytes, tables.New(), want, api.OK)
		}
	}
}

// P11.3

func TestPutTellsTheBytes(t *testing.T) {
	r := shelf(t)
	for _, k := range samples(t) {
		x, e := Of(k.want.Bytes, r)
		if b := laid(t, x.Tx); e != api.OK || !bytes.Equal(b, x.Bytes) || !bytes.Equal(b, k.want.Bytes) {
			t.Errorf("%s: Of tells the bytes %x, %d; Put of its transaction %x", k.name, x.Bytes, e, b)
		}
	}
}

func TestTablesMore(t *testing.T) {
	r := shelf(t)
	for i := range 9 {
		for _, k := range samples(t) {
			expectOf(t, k.name, k.want.Bytes, r, k.want, api.OK)
			expectOf(t, k.name+", a copy", k.want.Bytes, r.Copy(), k.want, api.OK)
		}
		lay(t, r, api.Key{3, byte(i)}, []api.Key{{11}, {22}, {byte(i)}})
	}
}

// TestTableThatCameLater has a packet of which nothing can be told till its table is there.
func TestTableThatCameLater(t *testing.T) {
	r := tables.New()
	k := samples(t)[2]
	lay(t, r, api.Key{1}, []api.Key{{21}, {22}, {23}, roles.System()})
	expectOf(t, "one of two tables", k.want.Bytes, r, api.Ready{}, api.ErrNone)
	lay(t, r, api.Key{2}, []api.Key{{31}})
	expectOf(t, "both", k.want.Bytes, r, k.want, api.OK)
}

// All promises

// scrawls spoil the lists of an answer, one each, and their room behind.
func scrawls() map[string]func(x *api.Ready) {
	return map[string]func(x *api.Ready){
		"bytes":      func(x *api.Ready) { scrawl(x.Bytes, 250) },
		"signatures": func(x *api.Ready) { scrawl(x.Tx.Sigs, api.Sig{250}) },
		"keys":       func(x *api.Ready) { scrawl(x.Tx.M.Keys, api.Key{250}) },
		"accounts":   func(x *api.Ready) { scrawl(x.Tx.M.Instrs[1].Accounts, 250) },
		"data":       func(x *api.Ready) { scrawl(x.Tx.M.Instrs[1].Data, 250) },
		"writes":     func(x *api.Ready) { scrawl(x.Tx.M.Lookups[0].Writes, 250) },
		"reads":      func(x *api.Ready) { scrawl(x.Tx.M.Lookups[0].Reads, 250) },
		"instrs":     func(x *api.Ready) { scrawl(x.Tx.M.Instrs, api.Instr{Program: 250}) },
		"lookups":    func(x *api.Ready) { scrawl(x.Tx.M.Lookups, api.Lookup{Table: api.Key{250}}) },
		"roles":      func(x *api.Ready) { scrawl(x.Roles, api.Role{Key: api.Key{250}}) },
	}
}

func scrawl[T any](l []T, with T) {
	l = l[:cap(l)]
	for i := range l {
		l[i] = with
	}
}

// TestListsOfAnAnswerAreTheirOwn spoils a list: just that must be spoilt, in that answer alone.
func TestListsOfAnAnswerAreTheirOwn(t *testing.T) {
	r := shelf(t)
	for name, spoil := range scrawls() {
		k := samples(t)[2]
		b := bytes.Clone(k.want.Bytes)
		x, _ := Of(b, r)
		other, _ := Of(b, r)
		want := samples(t)[2].want
		spoil(&x)
		spoil(&want)
		if !reflect.DeepEqual(x, want) {
			t.Errorf("%s were spoilt: %v; want %v", name, x, want)
		}
		if !reflect.DeepEqual(other, k.want) || !bytes.Equal(b, k.want.Bytes) {
			t.Errorf("%s were spoilt, and with them %v, or %x", name, other, b)
		}
		expectOf(t, name+" were spoilt", b, r, k.want, api.OK)
		tx, _ := Wire(b)
		x.Tx = tx
		if name != "bytes" && name != "roles" {
			spoil(&x)
		}
		if !reflect.DeepEqual(x.Tx, want.Tx) || !bytes.Equal(b, k.want.Bytes) {
			t.Errorf("Wire: %s were spoilt: %v, and the bytes %x; want %v", name, x.Tx, b, want.Tx)
		}
	}
}

func TestWhatIsHandedInIsLeft(t *testing.T) {
	r := shelf(t)
	for _, k := range samples(t) {
		room := append(bytes.Clone(k.want.Bytes), bytes.Repeat([]byte{0xee}, 99)...)
		was := bytes.Clone(room)
		b := room[:len(k.want.Bytes)]
		tx, _ := Wire(b)
		x, _ := Of(b, r)
		if !bytes.Equal(room, was) {
			t.Errorf("%s: what was handed in became %x", k.name, room)
		}
		clear(room)
		if !reflect.DeepEqual(tx, k.tx) || !reflect.DeepEqual(x, k.want) {
			t.Errorf("%s: an answer shares memory with what was handed in: %v, %v", k.name, tx, x)
		}
		for _, left := range x.Bytes[len(x.Bytes):cap(x.Bytes)] {
			if left != 0 {
				t.Errorf("%s: behind the bytes stands %x", k.name, x.Bytes[:cap(x.Bytes)])
				break
			}
		}
		for _, left := range x.Roles[len(x.Roles):cap(x.Roles)] {
			if left != (api.Role{}) {
				t.Errorf("%s: behind the roles stands %v", k.name, x.Roles[:cap(x.Roles)])
				break
			}
		}
	}
}

// TestTheRegistryIsLeft asks for its tables behind all that may be asked of packets.
func TestTheRegistryIsLeft(t *testing.T) {
	r := shelf(t)
	for _, k := range samples(t) {
		Of(k.want.Bytes, r)
	}
	for _, k := range unresolved() {
		tx := full()
		k.change(&tx)
		Of(laid(t, tx), r)
	}
	for table, want := range map[api.Key][]api.Key{{1}: {{21}, {22}, {23}, roles.System(), roles.Budget()}, {2}: {{31}, {22}}} {
		if l, e := r.Find(table); e != api.OK || !slices.Equal(l, want) {
			t.Errorf("of the table %v was made %v, %d", table[:1], l, e)
		}
	}
	if l, e := r.Find(api.Key{9}); e != api.ErrNone {
		t.Errorf("a table came: %v, %d", l, e)
	}
}

// formed tells what must come of Wire, by the layers below.
func formed(b []byte) (api.Tx, api.Errno) {
	tx, e := packets.Whole(b)
	if e == api.OK {
		e = rules.Check(tx)
	}
	if e != api.OK {
		tx = api.Tx{}
	}
	return tx, e
}

// told tells what must come of Of, by the layers below, of a registry that is there.
func told(b []byte, r *tables.Registry) (api.Ready, api.Errno) {
	tx, e := formed(b)
	writes, reads, f := r.Resolve(tx.M.Lookups)
	who, g := roles.Of(tx.M, writes, reads)
	for _, wrong := range []api.Errno{e, f, g} {
		if wrong != api.OK {
			return api.Ready{}, wrong
		}
	}
	may := budgets.Of(tx.M)
	cost := costs.Of(tx, len(roles.Written(who)), may.Units)
	return api.Ready{
		Bytes: b, Tx: tx, Roles: who, Budget: may, Cost: cost,
		Fee:      priorities.Fee(len(tx.Sigs), may),
		Priority: priorities.Of(len(tx.Sigs), may, cost),
	}, api.OK
}

// TestOfOtherBytes puts other bytes at each place of the samples' bytes: each bit of it turned, those next to it, and edges.
func TestOfOtherBytes(t *testing.T) {
	r := shelf(t)
	came := map[api.Errno]int{}
	for _, k := range samples(t)[:6] {
		b := bytes.Clone(k.want.Bytes)
		for i, was := range b {
			for _, n := range []byte{was ^ 1, was ^ 2, was ^ 4, was ^ 8, was ^ 16, was ^ 32, was ^ 64, was ^ 128, was - 1, was + 1, 0, 127, 128, 255} {
				b[i] = n
				tx, e := formed(b)
				expectWire(t, "another byte", b, tx, e)
				x, e := told(b, r)
				expectOf(t, "another byte", b, r, x, e)
				came[e]++
			}
			b[i] = was
		}
	}
	for _, e := range []api.Errno{api.OK, api.ErrForm, api.ErrShort, api.ErrSigs, api.ErrHeader, api.ErrIndex, api.ErrTwice, api.ErrLookup, api.ErrNone} {
		if came[e] == 0 {
			t.Errorf("no packet came to the error %d: %v", e, came)
		}
	}
}

// draw answers drawn numbers below n, always the same ones.
func draw(seed uint32) func(n int) int {
	return func(n int) int {
		seed = seed*1664525 + 1013904223
		return int(seed>>8) % n
	}
}

// drawn answers a transaction that often may be, but seldom is fully right.
func drawn(next func(n int) int) api.Tx {
	bytesOf := func(many, great int) (l []byte) {
		for range next(many) {
			l = append(l, byte(next(great)))
		}
		return l
	}
	tx := api.Tx{Sigs: make([]api.Sig, 1+next(3)), M: api.Message{V0: next(3) > 0}}
	m := &tx.M
	m.Header = api.Header{Signers: uint8(len(tx.Sigs)), ReadSigned: uint8(next(len(tx.Sigs))), ReadOther: uint8(next(3))}
	for range len(tx.Sigs) + 2 + next(4) {
		m.Keys = append(m.Keys, api.Key{byte(50 + len(m.Keys))})
	}
	m.Keys[1+next(len(m.Keys)-1)] = []api.Key{roles.Budget(), roles.System(), {22}}[next(3)]
	for range next(5) {
		data := [][]byte{units(uint64(next(1 << 24))), price(uint64(next(1<<24)) << next(41)), bytesOf(20, 256)}[next(3)]
		m.Instrs = append(m.Instrs, api.Instr{Program: byte(1 + next(len(m.Keys)-1)), Accounts: bytesOf(4, len(m.Keys)), Data: data})
	}
	for range next(3) {
		if m.V0 {
			m.Lookups = append(m.Lookups, api.Lookup{Table: api.Key{byte(1 + next(8)/7 + next(8)/7)}, Writes: bytesOf(3, 6), Reads: bytesOf(3, 6)})
		}
	}
	return tx
}

func TestDrawn(t *testing.T) {
	r, next := shelf(t), draw(11)
	came := map[api.Errno]int{}
	for range 20000 {
		b := laid(t, drawn(next))
		tx, e := formed(b)
		expectWire(t, "drawn", b, tx, e)
		x, e := told(b, r)
		expectOf(t, "drawn", b, r, x, e)
		came[e]++
		if e == api.OK && x.Priority != ahead(x) {
			t.Errorf("drawn: priority %d; want %d", x.Priority, ahead(x))
		}
	}
	for _, e := range []api.Errno{api.OK, api.ErrLookup, api.ErrIndex, api.ErrTwice, api.ErrNone} {
		if came[e] < 100 {
			t.Errorf("too few came to the error %d: %v", e, came)
		}
	}
}

// TestRubbish has bytes that were drawn, of all lengths: nearly none is a transaction.
func TestRubbish(t *testing.T) {
	r, next := shelf(t), draw(12)
	for many := range api.MaxPacket + 5 {
		b := make([]byte, many)
		for i := range b {
			b[i] = byte(next(256) >> next(9))
		}
		tx, e := formed(b)
		expectWire(t, "rubbish", b, tx, e)
		x, e := told(b, r)
		expectOf(t, "rubbish", b, r, x, e)
	}
}
