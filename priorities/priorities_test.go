package priorities

import (
	"math"
	"math/big"
	"testing"

	"ferryhouse/api"
)

const greatest uint64 = 1<<64 - 1

// budget answers one of so many units at that price.
func budget(price, units uint64) api.Budget { return api.Budget{Price: price, Units: units, Bad: -1} }

func expectFee(t *testing.T, name string, sigs int, b api.Budget, want uint64) {
	t.Helper()
	if n := Fee(sigs, b); n != want {
		t.Errorf("%s: Fee(%d, %d) = %d; want %d", name, sigs, b, n, want)
	}
}

func expectOf(t *testing.T, name string, sigs int, b api.Budget, cost, want uint64) {
	t.Helper()
	if n := Of(sigs, b, cost); n != want {
		t.Errorf("%s: Of(%d, %d, %d) = %d; want %d", name, sigs, b, cost, n, want)
	}
}

// P10.1

func TestFee(t *testing.T) {
	expectFee(t, "the document's example", 1, budget(1000000, 1000), 6000)
	expectFee(t, "nothing", 0, api.Budget{}, 0)
	expectFee(t, "signatures alone", 3, budget(0, 1400000), 15000)
	expectFee(t, "an offer alone", 0, budget(2500000, 400000), 1000000)
	expectFee(t, "both", 12, budget(2500000, 400000), 1060000)
	expectFee(t, "a price, but no units", 2, budget(greatest, 0), 10000)
}

func TestFeeEachSignature(t *testing.T) {
	for n := range 300 {
		expectFee(t, "no offer", n, budget(0, 0), uint64(n)*5000)
		expectFee(t, "an offer", n, budget(2000000, 7), uint64(n)*5000+14)
	}
}

func TestFeeFewerThanNone(t *testing.T) {
	for _, n := range []int{-1, -2, -1 << 40, math.MinInt + 1, math.MinInt} {
		expectFee(t, "no offer", n, budget(0, 9), 0)
		expectFee(t, "an offer", n, budget(3000000, 5), 15)
		expectFee(t, "all that there is", n, budget(greatest, greatest), greatest)
	}
}

// TestOfferRoundedUp has products at both sides of whole ones.
func TestOfferRoundedUp(t *testing.T) {
	for _, k := range []struct{ price, units, want uint64 }{
		{0, 1, 0},
		{1, 0, 0},
		{1, 1, 1},
		{1, 999999, 1},
		{1, 1000000, 1},
		{1, 1000001, 2},
		{1000001, 1, 2},
		{999999, 1, 1},
		{1000, 1000, 1},
		{1000, 1001, 2},
		{999, 1001, 1},
		{1001, 1001, 2},
		{7, 285714, 2},
		{7, 285715, 3},
	} {
		expectFee(t, "no signature", 0, budget(k.price, k.units), k.want)
		expectFee(t, "the other way round", 0, budget(k.units, k.price), k.want)
		expectFee(t, "a signature", 1, budget(k.price, k.units), k.want+5000)
	}
}

func TestOfferHeld(t *testing.T) {
	expectFee(t, "the greatest price of a whole one", 0, budget(greatest, 1000000), greatest)
	expectFee(t, "one less", 0, budget(greatest-1, 1000000), greatest-1)
	expectFee(t, "one unit more", 0, budget(greatest-1, 1000001), greatest)
	expectFee(t, "one unit less", 0, budget(greatest, 999999), greatest-greatest/1000000)
	expectFee(t, "the greatest of both", 0, budget(greatest, greatest), greatest)
	expectFee(t, "a product that has no room, though its offer has", 0, budget(1<<40, 1<<30), 1180591620717412)
}

// TestFeeHeld has sums just at the greatest, and above it.
func TestFeeHeld(t *testing.T) {
	expectFee(t, "one less", 1, budget(greatest-5001, 1000000), greatest-1)
	expectFee(t, "just that", 1, budget(greatest-5000, 1000000), greatest)
	expectFee(t, "one more", 1, budget(greatest-4999, 1000000), greatest)
	expectFee(t, "much more", 2, budget(greatest, 1000000), greatest)
}

// TestSignaturesHeld has so many signatures that they alone have no room.
func TestSignaturesHeld(t *testing.T) {
	const last = int(greatest / 5000)
	expectFee(t, "the most", last, budget(0, 0), uint64(last)*5000)
	expectFee(t, "the most, and what is left", last, budget(greatest%5000*1000000, 1), greatest)
	expectFee(t, "one less than that", last, budget((greatest%5000-1)*1000000, 1), greatest-1)
	for _, n := range []int{last + 1, 1 << 61, 1 << 62, math.MaxInt - 1, math.MaxInt} {
		expectFee(t, "too many", n, budget(0, 0), greatest)
		expectFee(t, "too many, with an offer", n, budget(1, 1), greatest)
	}
}

// P10.2

func TestOf(t *testing.T) {
	expectOf(t, "the document's example", 1, budget(1000000, 1000), 999, 3500000)
	expectOf(t, "nothing", 0, api.Budget{}, 0, 0)
	expectOf(t, "nothing, that costs much", 0, api.Budget{}, greatest, 0)
	expectOf(t, "signatures alone", 2, budget(0, 7), 4, 1000000000)
	expectOf(t, "an offer alone", 0, budget(7000000, 3), 20, 1000000)
	expectOf(t, "fewer signatures than none", -4, budget(7000000, 3), 20, 1000000)
	expectOf(t, "the least of all", math.MinInt, budget(7000000, 3), 20, 1000000)
}

// TestOfFloored has quotients at both sides of whole ones.
func TestOfFloored(t *testing.T) {
	for _, k := range []struct {
		sigs                     int
		price, units, cost, want uint64
	}{
		{0, 1, 1, 0, 1000000},
		{0, 1, 1, 1, 500000},
		{0, 1, 1, 2, 333333},
		{0, 1, 1, 999999, 1},
		{0, 1, 1, 1000000, 0},
		{0, 2, 1000000, 1999999, 1},
		{0, 2, 1000000, 2000000, 0},
		{0, 2, 1000000, 999998, 2},
		{1, 0, 0, 2, 833333333},
		{1, 1, 1, 2, 833666666},
		{3, 0, 0, 6, 1071428571},
	} {
		expectOf(t, "floored", k.sigs, budget(k.price, k.units), k.cost, k.want)
	}
}

func TestOneMoreThanTheCost(t *testing.T) {
	for cost := range uint64(3000) {
		expectOf(t, "a signature", 1, budget(0, 0), cost, 2500000000/(cost+1))
	}
	expectOf(t, "no cost", 5, budget(0, 0), 0, 12500000000)
	expectOf(t, "a cost just below the greatest", 0, budget(greatest, greatest), greatest-1, 1000000)
	expectOf(t, "the greatest cost", 0, budget(greatest, greatest), greatest, 1000000)
	expectOf(t, "a cost one less than these", 0, budget(greatest, greatest), greatest-2, 1000000)
	expectOf(t, "the greatest cost, of an offer one less", 0, budget(greatest-1, 1000000), greatest, 999999)
}

// TestPayHeld has halves of signatures and offers whose sum is just at the greatest, and above it.
func TestPayHeld(t *testing.T) {
	expectOf(t, "just that", 2, budget(greatest-5000, 1000000), 999999, greatest)
	expectOf(t, "one less", 2, budget(greatest-5001, 1000000), 999999, greatest-1)
	expectOf(t, "one more", 2, budget(greatest-4999, 1000000), 999999, greatest)
	expectOf(t, "more, that is halved by its cost", 2, budget(greatest, 1000000), 1999999, greatest/2)
}

// TestHalfOfWhatIsHeld has so many signatures that they are held ahead of being halved.
func TestHalfOfWhatIsHeld(t *testing.T) {
	const last = int(greatest / 5000)
	expectOf(t, "the most", last, budget(0, 0), 999999, uint64(last)*2500)
	expectOf(t, "one more", last+1, budget(0, 0), 999999, greatest/2)
	expectOf(t, "the greatest", math.MaxInt, budget(0, 0), 999999, greatest/2)
	expectOf(t, "the greatest, and an offer", math.MaxInt, budget(9000000, 1), 999999, greatest/2+9)
	expectOf(t, "the greatest, and half of all", math.MaxInt, budget(1<<63, 1000000), 999999, greatest)
	expectOf(t, "the greatest, and one less", math.MaxInt, budget(1<<63-1, 1000000), 999999, greatest-1)
}

func TestPriorityHeld(t *testing.T) {
	expectOf(t, "just below", 0, budget(greatest/1000000, 1000000), 0, greatest/1000000*1000000)
	expectOf(t, "just above", 0, budget(greatest/1000000+1, 1000000), 0, greatest)
	expectOf(t, "just above, that costs 1", 0, budget(greatest/1000000+1, 1000000), 1, (greatest/1000000+1)*500000)
	expectOf(t, "all that there is", math.MaxInt, budget(greatest, greatest), 0, greatest)
	expectOf(t, "all that there is, that costs all but one", 0, budget(greatest, greatest), 999998, greatest)
}

// P10.3

// TestWhatFollows goes along prices, and along costs.
func TestWhatFollows(t *testing.T) {
	grid := []uint64{0, 1, 2, 999, 1000, 1001, 999999, 1000000, 1000001, 1 << 32, 1 << 62, 1 << 63, greatest - 1000001, greatest - 1, greatest}
	for _, sigs := range []int{-1, 0, 1, 9, math.MaxInt} {
		for _, units := range grid {
			for i := range grid {
				for j := range len(grid) - 1 {
					fixed := grid[i]
					if Of(sigs, budget(grid[j], units), fixed) > Of(sigs, budget(grid[j+1], units), fixed) {
						t.Errorf("%d signatures, %d units, cost %d: price %d is ahead of %d", sigs, units, fixed, grid[j], grid[j+1])
					}
					if Of(sigs, budget(fixed, units), grid[j]) < Of(sigs, budget(fixed, units), grid[j+1]) {
						t.Errorf("%d signatures, %d units, price %d: cost %d is behind %d", sigs, units, fixed, grid[j], grid[j+1])
					}
				}
			}
		}
	}
}

// All promises

// TestBadWordsPayTheSame has budgets with a bad word: neither call asks for its place.
func TestBadWordsPayTheSame(t *testing.T) {
	for _, bad := range []int{math.MinInt, -1, 0, 1, 64, math.MaxInt} {
		b := api.Budget{Price: 1000000, Units: 1000, Bad: bad}
		expectFee(t, "a bad word", 1, b, 6000)
		expectOf(t, "a bad word", 1, b, 999, 3500000)
	}
}

func TestTheSameAgain(t *testing.T) {
	for range 3 {
		expectFee(t, "again", 2, budget(1000000, 1000), 11000)
		expectOf(t, "again", 2, budget(1000000, 1000), 5, 1000000000)
	}
}

// wide answers a number as one of any width.
func wide(n uint64) *big.Int { return new(big.Int).SetUint64(n) }

// held answers a number of any width, held.
func held(n *big.Int) uint64 {
	if !n.IsUint64() {
		return greatest
	}
	return n.Uint64()
}

// slowParts answers what signatures and a budget pay, by numbers of any width.
func slowParts(sigs int, b api.Budget) (base, offer uint64) {
	if sigs > 0 {
		base = held(new(big.Int).Mul(big.NewInt(int64(sigs)), big.NewInt(5000)))
	}
	n := new(big.Int).Mul(wide(b.Price), wide(b.Units))
	n.Add(n, big.NewInt(999999))
	return base, held(n.Div(n, big.NewInt(1000000)))
}

func slowFee(sigs int, b api.Budget) uint64 {
	base, offer := slowParts(sigs, b)
	return held(new(big.Int).Add(wide(base), wide(offer)))
}

func slowOf(sigs int, b api.Budget, cost uint64) uint64 {
	base, offer := slowParts(sigs, b)
	pay := wide(held(new(big.Int).Add(wide(base/2), wide(offer))))
	by := wide(held(new(big.Int).Add(wide(cost), big.NewInt(1))))
	pay.Mul(pay, big.NewInt(1000000))
	return held(pay.Div(pay, by))
}

// draw answers drawn numbers below n, always the same ones.
func draw(seed uint32) func(n int) int {
	return func(n int) int {
		seed = seed*1664525 + 1013904223
		return int(seed>>8) % n
	}
}

// TestDrawn holds both calls against the slow ones, with numbers of all lengths, and near the greatest.
func TestDrawn(t *testing.T) {
	next := draw(10)
	number := func() uint64 {
		n := uint64(next(1<<24))<<40 ^ uint64(next(1<<24))<<20 ^ uint64(next(1<<24))
		return []uint64{n >> next(64), greatest - n>>next(64), uint64(next(3000)), 1000000 * uint64(next(3000))}[next(4)]
	}
	for range 20000 {
		sigs := []int{next(13), -next(13), int(greatest/5000) + next(9) - 4, int(number() >> 1)}[next(4)]
		b, cost := budget(number(), number()), number()
		expectFee(t, "drawn", sigs, b, slowFee(sigs, b))
		expectOf(t, "drawn", sigs, b, cost, slowOf(sigs, b, cost))
	}
}
