package shorts

import (
	"bytes"
	"math"
	"testing"

	"ferryhouse/api"
)

// edges are the short numbers at which the count of bytes changes, and some between them.
var edges = []struct {
	n int
	b []byte
}{
	{0, []byte{0x00}},
	{1, []byte{0x01}},
	{127, []byte{0x7f}},
	{128, []byte{0x80, 0x01}},
	{300, []byte{0xac, 0x02}},
	{16256, []byte{0x80, 0x7f}},
	{16383, []byte{0xff, 0x7f}},
	{16384, []byte{0x80, 0x80, 0x01}},
	{16385, []byte{0x81, 0x80, 0x01}},
	{32767, []byte{0xff, 0xff, 0x01}},
	{49152, []byte{0x80, 0x80, 0x03}},
	{65535, []byte{0xff, 0xff, 0x03}},
}

// behind answers b with room behind it, and that room, filled, so that a write into it is seen.
func behind(b []byte) (head, room []byte) {
	all := append(bytes.Clone(b), bytes.Repeat([]byte{0xee}, 16)...)
	return all[:len(b)], all[len(b):]
}

func untouched(t *testing.T, head, want, room []byte) {
	t.Helper()
	if !bytes.Equal(head, want) || !bytes.Equal(room, bytes.Repeat([]byte{0xee}, 16)) {
		t.Errorf("what was handed in was changed: %x, and behind it %x", head, room)
	}
}

// own fails where an answer has something in its room, or shares memory with what was handed in.
func own(t *testing.T, out, head []byte) {
	t.Helper()
	for i, x := range out[len(out):cap(out)] {
		if x != 0 {
			t.Errorf("room behind the answer has %x at %d", x, i)
		}
	}
	was := bytes.Clone(head)
	for i := range out {
		out[i] ^= 0xff
	}
	if !bytes.Equal(head, was) {
		t.Error("the answer shares memory with what was handed in")
	}
}

// P1.1

func TestPutShortTellsEdges(t *testing.T) {
	for _, k := range edges {
		for _, ahead := range [][]byte{nil, {}, {9}, {0x80, 0xff, 0}} {
			b, e := PutShort(ahead, k.n)
			if e != api.OK || !bytes.Equal(b, append(bytes.Clone(ahead), k.b...)) {
				t.Errorf("PutShort(%x, %d) = %x, %d", ahead, k.n, b, e)
			}
		}
	}
}

func TestPutShortRefuses(t *testing.T) {
	for _, n := range []int{-1, -128, math.MinInt, 65536, 65537, 1 << 21, math.MaxInt} {
		head, room := behind([]byte{1, 2})
		if b, e := PutShort(head, n); b != nil || e != api.ErrArg {
			t.Errorf("PutShort(%d) = %x, %d", n, b, e)
		}
		untouched(t, head, []byte{1, 2}, room)
	}
}

func TestPutShortLeavesWhatIsHandedIn(t *testing.T) {
	for _, k := range edges {
		head, room := behind([]byte{1, 2})
		b, _ := PutShort(head, k.n)
		untouched(t, head, []byte{1, 2}, room)
		own(t, b, head)
	}
}

// P1.2

func TestGetShortTakesEdges(t *testing.T) {
	for _, k := range edges {
		n, took, e := GetShort(k.b)
		if n != k.n || took != len(k.b) || e != api.OK {
			t.Errorf("GetShort(%x) = %d, %d, %d", k.b, n, took, e)
		}
	}
}

func TestGetShortRefuses(t *testing.T) {
	for _, k := range []struct {
		b []byte
		e api.Errno
	}{
		{nil, api.ErrShort},
		{[]byte{}, api.ErrShort},
		{[]byte{0x80}, api.ErrShort},
		{[]byte{0xff}, api.ErrShort},
		{[]byte{0x80, 0x80}, api.ErrShort},
		{[]byte{0xff, 0xff}, api.ErrShort},
		{[]byte{0x80, 0x00}, api.ErrForm},
		{[]byte{0xff, 0x00}, api.ErrForm},
		{[]byte{0x80, 0x00, 0x01}, api.ErrForm},
		{[]byte{0x80, 0x80, 0x00}, api.ErrForm},
		{[]byte{0xff, 0xff, 0x00}, api.ErrForm},
		{[]byte{0x80, 0x80, 0x04}, api.ErrForm},
		{[]byte{0xff, 0xff, 0x04}, api.ErrForm},
		{[]byte{0xff, 0xff, 0x7f}, api.ErrForm},
		{[]byte{0x80, 0x80, 0x80}, api.ErrForm},
		{[]byte{0xff, 0xff, 0xff, 0x01}, api.ErrForm},
		{[]byte{0x80, 0x80, 0x81, 0x00}, api.ErrForm},
		{[]byte{0x80, 0x80, 0x83, 0x01}, api.ErrForm},
	} {
		head, room := behind(k.b)
		if n, took, e := GetShort(head); n != 0 || took != 0 || e != k.e {
			t.Errorf("GetShort(%x) = %d, %d, %d; want error %d", k.b, n, took, e, k.e)
		}
		untouched(t, head, k.b, room)
	}
}

// P1.3

func TestPutTellsLowestBytesFirst(t *testing.T) {
	const n = 0x8899aabbccddeeff
	whole := []byte{0xff, 0xee, 0xdd, 0xcc, 0xbb, 0xaa, 0x99, 0x88}
	for many := 1; many <= 8; many++ {
		for _, ahead := range [][]byte{nil, {}, {7}, {1, 2, 3}} {
			if b := Put(ahead, n, many); !bytes.Equal(b, append(bytes.Clone(ahead), whole[:many]...)) {
				t.Errorf("Put(%x, n, %d) = %x", ahead, many, b)
			}
		}
	}
	for _, many := range []int{0, 9, -1, 64, math.MinInt, math.MaxInt} {
		if b := Put([]byte{7}, n, many); !bytes.Equal(b, append([]byte{7}, whole...)) {
			t.Errorf("Put(07, n, %d) = %x", many, b)
		}
	}
	if b := Put(nil, 258, 4); !bytes.Equal(b, []byte{2, 1, 0, 0}) {
		t.Errorf("Put(258, 4) = %x", b)
	}
}

func TestPutLeavesWhatIsHandedIn(t *testing.T) {
	for many := 0; many <= 9; many++ {
		head, room := behind([]byte{1, 2})
		b := Put(head, math.MaxUint64, many)
		untouched(t, head, []byte{1, 2}, room)
		own(t, b, head)
	}
}

func TestGetTakesLowestBytesFirst(t *testing.T) {
	b := []byte{0xff, 0xee, 0xdd, 0xcc, 0xbb, 0xaa, 0x99, 0x88, 0x77}
	for many, want := range []uint64{1: 0xff, 2: 0xeeff, 3: 0xddeeff, 4: 0xccddeeff, 5: 0xbbccddeeff, 6: 0xaabbccddeeff, 7: 0x99aabbccddeeff, 8: 0x8899aabbccddeeff} {
		if many == 0 {
			continue
		}
		if n, e := Get(b, many); n != want || e != api.OK {
			t.Errorf("Get(b, %d) = %x, %d; want %x", many, n, e, want)
		}
	}
}

func TestGetRefuses(t *testing.T) {
	for _, many := range []int{0, 9, -1, math.MinInt, math.MaxInt} {
		for _, b := range [][]byte{nil, {}, make([]byte, 20), bytes.Repeat([]byte{1}, 20)} {
			if n, e := Get(b, many); n != 0 || e != api.ErrArg {
				t.Errorf("Get(%x, %d) = %d, %d", b, many, n, e)
			}
		}
	}
	for many := 1; many <= 8; many++ {
		for has := range many {
			head, room := behind(bytes.Repeat([]byte{5}, has))
			if n, e := Get(head, many); n != 0 || e != api.ErrShort {
				t.Errorf("Get of %d bytes, %d = %d, %d", has, many, n, e)
			}
			untouched(t, head, bytes.Repeat([]byte{5}, has), room)
		}
	}
}

// P1.4

func TestShortIsGotWhateverStandsBehind(t *testing.T) {
	for n := range api.MaxShort + 1 {
		b, e := PutShort(nil, n)
		if e != api.OK {
			t.Fatalf("PutShort(%d): error %d", n, e)
		}
		for _, rest := range [][]byte{nil, {0}, {0x7f}, {0x80}, {0xff, 0xff, 0xff}} {
			m, took, e := GetShort(append(bytes.Clone(b), rest...))
			if m != n || took != len(b) || e != api.OK {
				t.Fatalf("GetShort of %d's bytes and %x = %d, %d, %d", n, rest, m, took, e)
			}
		}
	}
}

// TestGetShortTakesJustWhatIsPut goes through all there is of three bytes: whatever is taken must be what PutShort makes.
func TestGetShortTakesJustWhatIsPut(t *testing.T) {
	taken := map[string]bool{}
	for x := range 1 << 24 {
		b := [3]byte{byte(x), byte(x >> 8), byte(x >> 16)}
		n, took, e := GetShort(b[:])
		if e != api.OK || taken[string(b[:took])] {
			continue
		}
		taken[string(b[:took])] = true
		if put, e := PutShort(nil, n); e != api.OK || !bytes.Equal(put, b[:took]) {
			t.Fatalf("GetShort(%x) = %d, %d; PutShort of it = %x, %d", b, n, took, put, e)
		}
	}
	if len(taken) != api.MaxShort+1 {
		t.Errorf("%d short numbers are taken", len(taken))
	}
}

func TestNumberIsGotWhateverStandsBehind(t *testing.T) {
	for many := 1; many <= 8; many++ {
		fits := uint64(math.MaxUint64) >> (64 - 8*many)
		for _, n := range []uint64{0, 1, 127, 128, 255, 256, 65535, 65536, 1<<24 - 1, 1 << 32, 1<<56 + 1, 1 << 63, math.MaxUint64} {
			for _, rest := range [][]byte{nil, {0}, {0xff, 0x80}} {
				m, e := Get(append(Put(nil, n, many), rest...), many)
				if m != n&fits || e != api.OK {
					t.Errorf("Get of %d in %d bytes and %x = %d, %d", n, many, rest, m, e)
				}
			}
		}
	}
}
