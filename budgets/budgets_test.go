package budgets

import (
	"reflect"
	"slices"
	"testing"

	"ferryhouse/api"
	"ferryhouse/roles"
	"ferryhouse/shorts"
)

// The keys of a message here, by their places: the budget's is the last one of them.
const (
	other  = 1
	budget = 2
)

// message has these instructions, in a list of keys of which the last one is Budget's.
func message(l ...api.Instr) api.Message {
	return api.Message{Keys: []api.Key{{9}, {8}, roles.Budget()}, Instrs: l}
}

// word is an instruction on the budget, of these bytes.
func word(data ...byte) api.Instr { return api.Instr{Program: budget, Data: data} }

// units is a word that tells so many.
func units(many uint64) api.Instr { return word(shorts.Put([]byte{2}, many, 4)...) }

// price is a word that tells it.
func price(of uint64) api.Instr { return word(shorts.Put([]byte{3}, of, 8)...) }

// others are so many instructions that are no words, though their bytes look like one.
func others(many int) (l []api.Instr) {
	for range many {
		l = append(l, api.Instr{Program: other, Data: []byte{2, 1, 0, 0, 0}})
	}
	return l
}

// expect fails unless Of answers this.
func expect(t *testing.T, name string, m api.Message, units, price uint64, bad int) {
	t.Helper()
	if got, want := Of(m), (api.Budget{Units: units, Price: price, Bad: bad}); got != want {
		t.Errorf("%s: Of = %v; want %v", name, got, want)
	}
}

// P8.1

func TestExample(t *testing.T) {
	u, p, o := word(2, 0xe8, 3, 0, 0), word(3, 0x40, 0x42, 0x0f, 0, 0, 0, 0, 0), others(1)[0]
	expect(t, "the example", message(u, p, o, o), 1000, 1000000, -1)
	expect(t, "without the first", message(p, o, o), 400000, 1000000, -1)
	expect(t, "with one more", message(u, p, o, o, word(2)), 1000, 1000000, 4)
}

func TestNothing(t *testing.T) {
	expect(t, "nothing", api.Message{}, 0, 0, -1)
	expect(t, "no instruction", message(), 0, 0, -1)
	expect(t, "no key", api.Message{Instrs: []api.Instr{word(2, 1, 0, 0, 0), {}}}, 2*api.UnitsEach, 0, -1)
}

func TestUnits(t *testing.T) {
	for _, n := range []uint64{0, 1, 255, 256, 65535, 65536, 1 << 20, api.MaxUnits - 1, api.MaxUnits} {
		expect(t, "so many", message(units(n)), n, 0, -1)
	}
	for _, n := range []uint64{api.MaxUnits + 1, 1 << 21, 1 << 24, 1 << 31, 1<<32 - 1} {
		expect(t, "too many", message(units(n)), api.MaxUnits, 0, -1)
	}
	expect(t, "lowest first", message(word(2, 1, 2, 3, 0)), 0x30201, 0, -1)
	expect(t, "the last byte", message(word(2, 0, 0, 0, 1)), api.MaxUnits, 0, -1)
}

// TestUnitsThatAreTold hang on no instruction beside it, though none or very many are told.
func TestUnitsThatAreTold(t *testing.T) {
	for _, n := range []uint64{0, 1, api.UnitsEach, api.MaxUnits} {
		for at := range 10 {
			expect(t, "among others", message(slices.Insert(others(9), at, units(n))...), n, 0, -1)
		}
	}
}

func TestPrice(t *testing.T) {
	for i := range 64 {
		for _, n := range []uint64{1<<i - 1, 1 << i, -(1 << i)} {
			expect(t, "so great", message(price(n)), 0, n, -1)
		}
	}
	expect(t, "lowest first", message(word(3, 1, 2, 3, 4, 5, 6, 7, 8)), 0, 0x807060504030201, -1)
	expect(t, "above the units' limit", message(price(api.MaxUnits+1), units(5)), 5, api.MaxUnits+1, -1)
}

func TestBothInEachOrder(t *testing.T) {
	for at := range 5 {
		for to := range 6 {
			l := slices.Insert(slices.Insert(others(4), at, units(7)), to, price(8))
			expect(t, "both", message(l...), 7, 8, -1)
		}
	}
}

// TestUnitsThatAreNotTold has so many others, to the place where they are held, and above it.
func TestUnitsThatAreNotTold(t *testing.T) {
	for n := range 20 {
		want := uint64(n) * 200000
		if n > 7 {
			want = 1400000
		}
		expect(t, "others", message(others(n)...), want, 0, -1)
		expect(t, "with a price", message(append(others(n), price(3))...), want, 3, -1)
		expect(t, "behind a price", message(append([]api.Instr{price(3)}, others(n)...)...), want, 3, -1)
		expect(t, "behind a bad one", message(append([]api.Instr{word()}, others(n)...)...), want, 0, 0)
		expect(t, "on both sides", message(append(append(others(n/2), word()), others(n-n/2)...)...), want, 0, n/2)
	}
	expect(t, "very many", message(others(1<<17)...), api.MaxUnits, 0, -1)
}

func TestNeitherOfBoth(t *testing.T) {
	for first := range 256 {
		for many := range 20 {
			data := make([]byte, many+1)
			data[0] = byte(first)
			if first == 2 && many == 4 || first == 3 && many == 8 {
				expect(t, "a word", message(word(data...)), 0, 0, -1)
				continue
			}
			expect(t, "no word", message(word(data...)), 0, 0, 0)
			expect(t, "no word, among others", message(append(others(2), word(data...))...), 400000, 0, 2)
		}
	}
	expect(t, "no bytes", message(word()), 0, 0, 0)
	expect(t, "an empty list of them", message(api.Instr{Program: budget, Data: []byte{}}), 0, 0, 0)
	expect(t, "very many", message(word(append([]byte{2}, make([]byte, 1<<16)...)...)), 0, 0, 0)
}

// TestWithRoomBehind has words whose bytes end too soon, with the rest of them in the room behind.
func TestWithRoomBehind(t *testing.T) {
	u, p := units(5).Data, price(6).Data
	expect(t, "units, cut", message(word(u[:4]...)), 0, 0, 0)
	expect(t, "price, cut", message(word(p[:8]...)), 0, 0, 0)
	expect(t, "a price, as long as units", message(word(p[:5]...)), 0, 0, 0)
	expect(t, "nothing of it", message(word(u[:0]...)), 0, 0, 0)
}

func TestTold(t *testing.T) {
	for _, n := range []uint64{0, 1, api.MaxUnits, 1<<32 - 1} {
		expect(t, "units twice", message(units(n), units(n)), min(n, api.MaxUnits), 0, 1)
		expect(t, "units, told again", message(units(n), price(4), units(3)), min(n, api.MaxUnits), 4, 2)
	}
	for _, n := range []uint64{0, 1, 1<<64 - 1} {
		expect(t, "price twice", message(price(n), price(n)), 0, n, 1)
		expect(t, "price, told again", message(price(n), units(4), price(3)), 4, n, 2)
	}
	expect(t, "of each a second one", message(units(1), price(2), price(3), units(4)), 1, 2, 2)
}

// TestBad tells its place among all instructions.
func TestBad(t *testing.T) {
	for many := range 12 {
		for at := range many + 1 {
			l := slices.Insert(others(many), at, word(4))
			expect(t, "a bad one", message(l...), uint64(min(7, many))*200000, 0, at)
			l = slices.Insert(l, at, units(9))
			expect(t, "behind units", message(l...), 9, 0, at+1)
			l = slices.Insert(l, at, price(8))
			expect(t, "behind both", message(l...), 9, 8, at+2)
		}
	}
}

func TestOnTheBudgetOrNot(t *testing.T) {
	data := units(5).Data
	for _, k := range []struct {
		name    string
		program uint8
		keys    []api.Key
		is      bool
	}{
		{"the only key", 0, []api.Key{roles.Budget()}, true},
		{"the first one", 0, []api.Key{roles.Budget(), {1}}, true},
		{"beside it", 1, []api.Key{roles.Budget(), {1}}, false},
		{"ahead of it", 0, []api.Key{{1}, roles.Budget()}, false},
		{"System's", 0, []api.Key{roles.System(), roles.Budget()}, false},
		{"just behind the keys", 2, []api.Key{{1}, roles.Budget()}, false},
		{"far behind the keys", 255, []api.Key{{1}, roles.Budget()}, false},
		{"of two alike the first", 0, []api.Key{roles.Budget(), roles.Budget()}, true},
		{"of two alike the second", 1, []api.Key{roles.Budget(), roles.Budget()}, true},
		{"behind two alike", 2, []api.Key{roles.Budget(), roles.Budget()}, false},
		{"of no keys", 0, nil, false},
		{"of all there may be the last one", 255, append(make([]api.Key, 255), roles.Budget()), true},
		{"of more than that the last one", 255, append(make([]api.Key, 256), roles.Budget()), false},
	} {
		want := uint64(api.UnitsEach)
		if k.is {
			want = 5
		}
		expect(t, k.name, api.Message{Keys: k.keys, Instrs: []api.Instr{{Program: k.program, Data: data}}}, want, 0, -1)
	}
}

// TestRoomBehindKeys has the budget's key behind the message's keys, in their room.
func TestRoomBehindKeys(t *testing.T) {
	m := message(units(5))
	m.Keys = m.Keys[:budget]
	expect(t, "a key in the room", m, api.UnitsEach, 0, -1)
}

// TestLookedUp has a lookup beside the keys: what it is for is no key of the message.
func TestLookedUp(t *testing.T) {
	m := message(api.Instr{Program: 3, Data: units(5).Data})
	m.V0, m.Lookups = true, []api.Lookup{{Table: roles.Budget(), Writes: []byte{0}, Reads: []byte{1}}}
	expect(t, "looked up", m, api.UnitsEach, 0, -1)
}

func TestNearlyTheBudgets(t *testing.T) {
	for i := range roles.Budget() {
		for bit := range 8 {
			m := message(units(5), price(6))
			m.Keys[budget][i] ^= 1 << bit
			expect(t, "a key one bit off", m, 2*api.UnitsEach, 0, -1)
		}
	}
}

// P8.2

// TestOthersChangeNothing has others of all kinds beside two words.
func TestOthersChangeNothing(t *testing.T) {
	for _, o := range []api.Instr{
		{},
		{Program: other, Data: units(1).Data},
		{Program: other, Data: price(1).Data},
		{Program: other, Data: []byte{7}},
		{Program: other, Accounts: []byte{budget, budget}},
		{Program: other, Accounts: []byte{200}, Data: make([]byte, 1000)},
		{Program: 3, Data: price(1).Data},
		{Program: 255, Accounts: []byte{255}, Data: units(1).Data},
	} {
		for at := range 3 {
			expect(t, "with units", message(slices.Insert([]api.Instr{units(5), price(6)}, at, o)...), 5, 6, -1)
			expect(t, "without", message(slices.Insert([]api.Instr{price(6), word()}, at, o)...), api.UnitsEach, 6, map[bool]int{true: 2, false: 1}[at < 2])
		}
	}
}

// TestBehindABadOne has words behind it that would tell something, or be bad themselves.
func TestBehindABadOne(t *testing.T) {
	for _, behind := range [][]api.Instr{
		{units(5)},
		{price(6)},
		{units(5), price(6)},
		{price(6), units(5), units(5)},
		{word()},
		{word(9, 9), units(1), price(1)},
		slices.Repeat([]api.Instr{units(3)}, 500),
	} {
		expect(t, "none is told", message(append([]api.Instr{word(1)}, behind...)...), 0, 0, 0)
		expect(t, "none is told, with others", message(append(append(others(1), word(1)), append(behind, others(2)...)...)...), 600000, 0, 1)
		expect(t, "units are told", message(append([]api.Instr{units(7), units(8)}, behind...)...), 7, 0, 1)
		expect(t, "the price is told", message(append([]api.Instr{price(7), price(8)}, behind...)...), 0, 7, 1)
		expect(t, "both are told", message(append([]api.Instr{price(7), units(8), word(0)}, behind...)...), 8, 7, 2)
	}
}

// TestRestChangesNothing has all that a message has beside its keys and instructions.
func TestRestChangesNothing(t *testing.T) {
	m := message(append(others(1), price(6))...)
	for _, k := range []api.Message{
		{V0: true},
		{Header: api.Header{Signers: 255, ReadSigned: 255, ReadOther: 255}},
		{Recent: api.Hash{3}},
		{V0: true, Lookups: []api.Lookup{{Table: roles.Budget(), Writes: []byte{0}}, {}}},
	} {
		k.Keys, k.Instrs = m.Keys, m.Instrs
		expect(t, "the rest", k, api.UnitsEach, 6, -1)
	}
	m.Instrs[1].Accounts = []byte{0, 1, 200}
	expect(t, "a word's accounts", m, api.UnitsEach, 6, -1)
}

// All promises

func TestWhatIsHandedInStays(t *testing.T) {
	fresh := func() api.Message { return message(units(5), others(1)[0], price(6), word(2), units(7)) }
	m, want := fresh(), fresh()
	for range 2 {
		expect(t, "the same", m, 5, 6, 3)
	}
	if !reflect.DeepEqual(m, want) {
		t.Error("Of changes what is handed in")
	}
}

// slow is the budget by another way: all words first, then the first one of each kind, up to the bad one.
func slow(m api.Message) api.Budget {
	var at []int
	for i, in := range m.Instrs {
		if slices.Contains(m.Keys, roles.Budget()) && int(in.Program) < len(m.Keys) && m.Keys[in.Program] == (api.Key{3}) {
			at = append(at, i)
		}
	}
	b := api.Budget{Units: uint64(len(m.Instrs)-len(at)) * 200000, Bad: -1}
	var seen string
	for _, i := range at {
		d := m.Instrs[i].Data
		head := string(d[:min(1, len(d))])
		good := head == "\x02" && len(d) == 5 || head == "\x03" && len(d) == 9
		if !good || slices.Contains([]byte(seen), d[0]) {
			b.Bad = i
			break
		}
		seen += head
		var n uint64
		for j := len(d) - 1; j > 0; j-- {
			n = n*256 + uint64(d[j])
		}
		if head == "\x02" {
			b.Units = n
		} else {
			b.Price = n
		}
	}
	b.Units = min(b.Units, 1400000)
	return b
}

// draw answers drawn numbers below n, always the same ones.
func draw(seed uint32) func(n int) int {
	return func(n int) int {
		seed = seed*1664525 + 1013904223
		return int(seed>>8) % n
	}
}

// TestDrawn holds Of against the slow one.
func TestDrawn(t *testing.T) {
	next := draw(8)
	keys := []api.Key{{}, {3}, {9}, {3, 1}}
	for range 20000 {
		var m api.Message
		for range next(5) {
			m.Keys = append(m.Keys, keys[next(len(keys))])
		}
		for range next(7) {
			in := api.Instr{Program: uint8(next(5)), Data: make([]byte, []int{0, 1, 4, 5, 5, 5, 6, 8, 9, 9, 9, 10}[next(12)])}
			for i := range in.Data {
				in.Data[i] = byte(next(256) >> (next(3) * 4))
			}
			if len(in.Data) > 0 {
				in.Data[0] = byte(1 + next(4))
			}
			m.Instrs = append(m.Instrs, in)
		}
		if got, want := Of(m), slow(m); got != want {
			t.Fatalf("Of(%v) = %v; want %v", m, got, want)
		}
	}
}
