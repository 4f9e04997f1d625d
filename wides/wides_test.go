package wides

import (
	"math/big"
	"slices"
	"testing"
)

// edges are the numbers at which products, quotients and sums turn, and some between them.
var edges = []uint64{
	0, 1, 2, 3, 5, 7, 10, 255, 300, 1000000,
	1<<31 - 1, 1 << 31, 1<<32 - 1, 1 << 32, 1<<32 + 1,
	6148914691236517205, 12345678901234567890,
	1<<63 - 1, 1 << 63, 1<<63 + 1,
	greatest - 2, greatest - 1, greatest,
}

func wide(n uint64) *big.Int { return new(big.Int).SetUint64(n) }

// held answers a number of any width, held at the greatest.
func held(n *big.Int) uint64 {
	if n.IsUint64() {
		return n.Uint64()
	}
	return greatest
}

// divided answers what Times must, worked out by numbers of any width.
func divided(a, b, d uint64, up bool) uint64 {
	if d == 0 {
		return greatest
	}
	n := new(big.Int).Mul(wide(a), wide(b))
	if up {
		n.Add(n, wide(d-1))
	}
	return held(n.Div(n, wide(d)))
}

// P2.1

func TestMulTellsProductWholly(t *testing.T) {
	for _, k := range [][4]uint64{
		{0, 0, 0, 0},
		{0, greatest, 0, 0},
		{1, greatest, 0, greatest},
		{2, greatest, 1, greatest - 1},
		{2, 1 << 63, 1, 0},
		{3, 1 << 63, 1, 1 << 63},
		{1 << 32, 1<<32 - 1, 0, 1<<64 - 1<<32},
		{1 << 32, 1 << 32, 1, 0},
		{1<<32 + 1, 1<<32 + 1, 1, 1<<33 + 1},
		{greatest, greatest, greatest - 1, 1},
	} {
		if hi, lo := Mul(k[0], k[1]); hi != k[2] || lo != k[3] {
			t.Errorf("Mul(%d, %d) = %d, %d; want %d, %d", k[0], k[1], hi, lo, k[2], k[3])
		}
	}
}

func TestMulOfAllEdges(t *testing.T) {
	for _, a := range edges {
		for _, b := range edges {
			hi, lo := Mul(a, b)
			got := wide(hi)
			got.Lsh(got, 64).Add(got, wide(lo))
			if want := new(big.Int).Mul(wide(a), wide(b)); got.Cmp(want) != 0 {
				t.Errorf("Mul(%d, %d) = %d, %d: that is %s, not %s", a, b, hi, lo, got, want)
			}
		}
	}
}

// P2.2

func TestTimesFloorsAndRoundsUp(t *testing.T) {
	for _, k := range []struct{ a, b, d, down, up uint64 }{
		{7, 3, 2, 10, 11},
		{6, 3, 2, 9, 9},
		{0, 3, 2, 0, 0},
		{0, 0, 1, 0, 0},
		{1, 1, greatest, 0, 1},
		{1, 1, 1000000, 0, 1},
		{1000000, 1, 1000000, 1, 1},
		{1000001, 1, 1000000, 1, 2},
		{greatest, 1, 2, 1<<63 - 1, 1 << 63},
		{1 << 63, 4, 1 << 33, 1 << 32, 1 << 32},
	} {
		if n := Times(k.a, k.b, k.d, false); n != k.down {
			t.Errorf("Times(%d, %d, %d), down = %d; want %d", k.a, k.b, k.d, n, k.down)
		}
		if n := Times(k.a, k.b, k.d, true); n != k.up {
			t.Errorf("Times(%d, %d, %d), up = %d; want %d", k.a, k.b, k.d, n, k.up)
		}
	}
}

func TestTimesIsHeld(t *testing.T) {
	for _, k := range [][3]uint64{
		{greatest, 2, 1},                       // a quotient of 65 bits
		{1 << 32, 1 << 32, 1},                  // just one above the greatest
		{greatest, greatest, 1},                // the greatest product
		{greatest, greatest, greatest - 1},     // a little above the greatest
		{1<<63 + 1, 4, 2},                      // the high half is d
		{greatest, greatest - 1, greatest - 2}, // likewise
		{greatest, 3, 3},                       // the greatest itself, with no rest
	} {
		for _, up := range []bool{false, true} {
			if n := Times(k[0], k[1], k[2], up); n != greatest {
				t.Errorf("Times(%d, %d, %d, %t) = %d; want the greatest", k[0], k[1], k[2], up, n)
			}
		}
	}
}

// TestTimesUpIsHeldAboveGreatestFloor has a floor that is the greatest, and a rest: one more would wrap round to 0.
func TestTimesUpIsHeldAboveGreatestFloor(t *testing.T) {
	const odd = 1<<65 - 1 // twice the greatest, and 1
	for _, k := range [][2]uint64{{31, odd / 31}, {8191, odd / 8191}, {31 * 8191, odd / (31 * 8191)}} {
		a, b := k[0], k[1]
		if hi, lo := Mul(a, b); hi != 1 || lo != greatest {
			t.Fatalf("%d times %d isn't twice the greatest, and 1", a, b)
		}
		for _, up := range []bool{false, true} {
			if n := Times(a, b, 2, up); n != greatest {
				t.Errorf("Times(%d, %d, 2, %t) = %d; want the greatest", a, b, up, n)
			}
		}
	}
}

func TestTimesByNoughtIsGreatest(t *testing.T) {
	for _, a := range edges {
		for _, b := range edges {
			for _, up := range []bool{false, true} {
				if n := Times(a, b, 0, up); n != greatest {
					t.Errorf("Times(%d, %d, 0, %t) = %d; want the greatest", a, b, up, n)
				}
			}
		}
	}
}

func TestTimesOfAllEdges(t *testing.T) {
	for _, a := range edges {
		for _, b := range edges {
			for _, d := range edges {
				for _, up := range []bool{false, true} {
					if n, want := Times(a, b, d, up), divided(a, b, d, up); n != want {
						t.Errorf("Times(%d, %d, %d, %t) = %d; want %d", a, b, d, up, n, want)
					}
				}
			}
		}
	}
}

// P2.3

func TestSumIsHeld(t *testing.T) {
	for _, k := range []struct {
		l    []uint64
		want uint64
	}{
		{nil, 0},
		{[]uint64{}, 0},
		{[]uint64{0}, 0},
		{[]uint64{5}, 5},
		{[]uint64{greatest}, greatest},
		{[]uint64{1, 2, 3}, 6},
		{[]uint64{greatest - 1, 1}, greatest},
		{[]uint64{1<<63 - 1, 1 << 63}, greatest},
		{[]uint64{1 << 63, 1 << 63}, greatest},
		{[]uint64{greatest, 5}, greatest},
		{[]uint64{greatest, greatest}, greatest},
		{[]uint64{greatest, 1, 0}, greatest},
		{[]uint64{greatest, 1, 1, 7}, greatest},
		{[]uint64{greatest, greatest, greatest}, greatest},
	} {
		if n := Sum(k.l...); n != k.want {
			t.Errorf("Sum(%d) = %d; want %d", k.l, n, k.want)
		}
	}
	if n := Sum(); n != 0 {
		t.Errorf("Sum of none = %d", n)
	}
}

func TestSumOfManyEdges(t *testing.T) {
	for i := range edges {
		for j := i; j <= len(edges); j++ {
			want := new(big.Int)
			for _, n := range edges[i:j] {
				want.Add(want, wide(n))
			}
			if n := Sum(edges[i:j]...); n != held(want) {
				t.Errorf("Sum(%d) = %d; want %d", edges[i:j], n, held(want))
			}
		}
	}
}

func TestSumLeavesWhatIsHandedIn(t *testing.T) {
	l := []uint64{greatest, 3, 0, greatest, 8}
	was := slices.Clone(l)
	Sum(l[:3]...)
	if !slices.Equal(l, was) {
		t.Errorf("the list that was handed in became %d", l)
	}
}

// P2.4

func TestTimesAndDividedByTheSame(t *testing.T) {
	for _, a := range edges {
		for _, d := range edges {
			for _, up := range []bool{false, true} {
				if n := Times(a, d, d, up); d != 0 && n != a {
					t.Errorf("Times(%d, %d, %d, %t) = %d", a, d, d, up, n)
				}
			}
		}
	}
}

func TestTimesUpIsAtMostOneMore(t *testing.T) {
	for _, a := range edges {
		for _, b := range edges {
			for _, d := range edges {
				down, up := Times(a, b, d, false), Times(a, b, d, true)
				if up < down || up-down > 1 {
					t.Errorf("Times(%d, %d, %d): down %d, up %d", a, b, d, down, up)
				}
			}
		}
	}
}

func TestSumDoesNotHangOnOrder(t *testing.T) {
	for _, a := range edges {
		for _, b := range edges {
			for _, c := range edges {
				want := Sum(a, b, c)
				for _, l := range [][]uint64{{a, c, b}, {b, a, c}, {b, c, a}, {c, a, b}, {c, b, a}} {
					if n := Sum(l...); n != want {
						t.Errorf("Sum(%d) = %d, but in another order %d", l, n, want)
					}
				}
			}
		}
	}
}
