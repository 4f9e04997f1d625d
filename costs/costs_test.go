package costs

import (
	"math"
	"math/big"
	"reflect"
	"testing"

	"ferryhouse/api"
)

const greatest uint64 = 1<<64 - 1

// transaction answers one with so many signatures, and an instruction for each number of bytes.
func transaction(sigs int, bytes ...int) api.Tx {
	tx := api.Tx{Sigs: make([]api.Sig, sigs)}
	for _, n := range bytes {
		tx.M.Instrs = append(tx.M.Instrs, api.Instr{Data: make([]byte, n)})
	}
	return tx
}

func expect(t *testing.T, name string, tx api.Tx, writes int, units, want uint64) {
	t.Helper()
	if n := Of(tx, writes, units); n != want {
		t.Errorf("%s: Of(%d signatures, %d instructions, %d, %d) = %d; want %d", name, len(tx.Sigs), len(tx.M.Instrs), writes, units, n, want)
	}
}

// P9.1

func TestOrdinary(t *testing.T) {
	expect(t, "the document's example", transaction(1, 12), 2, 1000, 2323)
	expect(t, "of two instructions", transaction(1, 5, 7), 2, 1000, 2323)
	expect(t, "of all kinds", transaction(3, 8, 0, 200), 7, 400000, 2160+52+2100+400000)
	expect(t, "as much as a packet may be", transaction(12, 4, 400), api.MaxLocks, api.MaxUnits, 8640+101+19200+1400000)
}

func TestNothing(t *testing.T) {
	expect(t, "nothing at all", api.Tx{}, 0, 0, 0)
	expect(t, "empty lists", api.Tx{Sigs: []api.Sig{}, M: api.Message{Instrs: []api.Instr{}}}, 0, 0, 0)
	expect(t, "no data", api.Tx{M: api.Message{Instrs: make([]api.Instr, 9)}}, 0, 0, 0)
}

func TestOnePartAlone(t *testing.T) {
	for n := range 300 {
		expect(t, "signatures", transaction(n), 0, 0, uint64(n)*720)
		expect(t, "keys that are written", api.Tx{}, n, 0, uint64(n)*300)
		expect(t, "data", transaction(0, n), 0, 0, uint64(n/4))
		expect(t, "units", api.Tx{}, 0, uint64(n), uint64(n))
	}
	expect(t, "all units", api.Tx{}, 0, greatest, greatest)
}

// TestDataTogether has rests that make a whole one only together.
func TestDataTogether(t *testing.T) {
	for _, k := range []struct {
		bytes []int
		want  uint64
	}{
		{[]int{3}, 0},
		{[]int{4}, 1},
		{[]int{7}, 1},
		{[]int{8}, 2},
		{[]int{3, 1}, 1},
		{[]int{1, 0, 1, 0, 1}, 0},
		{[]int{1, 1, 1, 1}, 1},
		{[]int{3, 3, 3}, 2},
		{[]int{7, 7, 7, 7}, 7},
		{[]int{1232, 1, 65535, 1}, 308 + 16384},
	} {
		expect(t, "data of several", transaction(0, k.bytes...), 0, 0, k.want)
		expect(t, "and units", transaction(0, k.bytes...), 0, 3, k.want+3)
	}
}

func TestWritesBelowNone(t *testing.T) {
	for _, n := range []int{-1, -5, -1 << 32, math.MinInt + 1, math.MinInt} {
		expect(t, "nothing else", api.Tx{}, n, 0, 0)
		expect(t, "beside others", transaction(1, 12), n, 1000, 1723)
		expect(t, "beside all units", api.Tx{}, n, greatest, greatest)
	}
}

// TestHeld has sums just at the greatest, and above it.
func TestHeld(t *testing.T) {
	for _, k := range []struct {
		name   string
		tx     api.Tx
		writes int
		rest   uint64
	}{
		{"a signature", transaction(1), 0, 720},
		{"two keys", api.Tx{}, 2, 600},
		{"data", transaction(0, 403), 0, 100},
		{"all of them", transaction(2, 50, 51), 3, 1440 + 25 + 900},
	} {
		expect(t, k.name+", one less", k.tx, k.writes, greatest-k.rest-1, greatest-1)
		expect(t, k.name+", just that", k.tx, k.writes, greatest-k.rest, greatest)
		expect(t, k.name+", one more", k.tx, k.writes, greatest-k.rest+1, greatest)
		expect(t, k.name+", all units", k.tx, k.writes, greatest, greatest)
	}
}

// TestWritesHeld has so many keys that their cost alone has no room.
func TestWritesHeld(t *testing.T) {
	const last = int(greatest / 300) // the most for whose cost there is room
	expect(t, "the most", api.Tx{}, last, 0, uint64(last)*300)
	expect(t, "the most, and what is left", api.Tx{}, last, greatest%300, greatest)
	expect(t, "one less than that", api.Tx{}, last, greatest%300-1, greatest-1)
	for _, n := range []int{last + 1, 1 << 61, 1 << 62, math.MaxInt - 1, math.MaxInt} {
		expect(t, "too many", api.Tx{}, n, 0, greatest)
		expect(t, "too many, with others", transaction(3, 100), n, 7, greatest)
	}
}

// TestRestCostsNothing has all that a transaction has beside signatures and data.
func TestRestCostsNothing(t *testing.T) {
	tx := transaction(1, 12)
	tx.Sigs[0] = api.Sig{255, 255}
	tx.M.V0 = true
	tx.M.Header = api.Header{Signers: 255, ReadSigned: 255, ReadOther: 255}
	tx.M.Keys = make([]api.Key, 70)
	tx.M.Recent = api.Hash{9}
	tx.M.Lookups = []api.Lookup{{Writes: make([]byte, 50), Reads: make([]byte, 50)}}
	tx.M.Instrs[0].Program = 255
	tx.M.Instrs[0].Accounts = make([]byte, 50)
	tx.M.Instrs[0].Data[3] = 255
	expect(t, "the rest", tx, 2, 1000, 2323)
}

// TestBudgetsWordsCost has words on the budget: their bytes are data as others are.
func TestBudgetsWordsCost(t *testing.T) {
	tx := transaction(0)
	tx.M.Keys = []api.Key{{3}}
	tx.M.Instrs = []api.Instr{{Data: []byte{2, 5, 0, 0, 0}}, {Data: []byte{3, 6, 0, 0, 0, 0, 0, 0, 0}}}
	expect(t, "words", tx, 0, 1000, 1003)
}

// TestRoomBehind has signatures, instructions and bytes in the room behind those that are there.
func TestRoomBehind(t *testing.T) {
	tx := transaction(5, 12, 40)
	tx.Sigs, tx.M.Instrs = tx.Sigs[:1], tx.M.Instrs[:1]
	expect(t, "cut lists", tx, 2, 1000, 2323)
	tx.M.Instrs[0].Data = tx.M.Instrs[0].Data[:3]
	expect(t, "cut data", tx, 2, 1000, 2320)
}

// P9.2

func TestMoreIsAsMuchMore(t *testing.T) {
	for _, sigs := range []int{0, 1, 12, 500} {
		for _, writes := range []int{0, 1, 64, 1 << 40} {
			for _, units := range []uint64{0, 1, 1400000, 1 << 63} {
				was := Of(transaction(sigs, 9, 2), writes, units)
				expect(t, "a signature more", transaction(sigs+1, 9, 2), writes, units, was+720)
				expect(t, "a key more", transaction(sigs, 9, 2), writes+1, units, was+300)
				expect(t, "a unit more", transaction(sigs, 9, 2), writes, units+1, was+1)
				expect(t, "many units more", transaction(sigs, 9, 2), writes, units+123456, was+123456)
			}
		}
	}
}

func TestMoreOfWhatIsHeldIsNoLess(t *testing.T) {
	const units = greatest - 1000
	expect(t, "not held yet", transaction(1, 8), 0, units, greatest-278)
	expect(t, "a signature more", transaction(2, 8), 0, units, greatest)
	expect(t, "a key more", transaction(1, 8), 1, units, greatest)
	expect(t, "units more", transaction(1, 8), 0, units+279, greatest)
}

// All promises

func TestWhatIsHandedInStays(t *testing.T) {
	fresh := func() api.Tx { return transaction(3, 5, 0, 7) }
	tx, want := fresh(), fresh()
	for range 2 {
		expect(t, "the same", tx, 1, 4, 2160+300+3+4)
	}
	if !reflect.DeepEqual(tx, want) {
		t.Error("Of changes what is handed in")
	}
}

// slow is the cost by numbers of any width, held at the end alone.
func slow(tx api.Tx, writes int, units uint64) uint64 {
	all := new(big.Int).SetUint64(units)
	for range tx.Sigs {
		all.Add(all, big.NewInt(720))
	}
	if writes > 0 {
		all.Add(all, new(big.Int).Mul(big.NewInt(int64(writes)), big.NewInt(300)))
	}
	bytes := 0
	for _, in := range tx.M.Instrs {
		for range in.Data {
			bytes++
		}
	}
	all.Add(all, big.NewInt(int64(bytes>>2)))
	if !all.IsUint64() {
		return greatest
	}
	return all.Uint64()
}

// draw answers drawn numbers below n, always the same ones.
func draw(seed uint32) func(n int) int {
	return func(n int) int {
		seed = seed*1664525 + 1013904223
		return int(seed>>8) % n
	}
}

// TestDrawn holds Of against the slow one, with numbers near the greatest among the drawn ones.
func TestDrawn(t *testing.T) {
	next := draw(9)
	for range 20000 {
		var bytes []int
		for range next(5) {
			bytes = append(bytes, next(60))
		}
		tx := transaction(next(6), bytes...)
		writes := []int{next(70), -next(70), int(greatest/300) - next(10), math.MaxInt >> next(12)}[next(4)]
		units := []uint64{uint64(next(2000)), greatest - uint64(next(30000)), greatest >> next(10)}[next(3)]
		expect(t, "drawn", tx, writes, units, slow(tx, writes, units))
	}
}
