package messages

import (
	"bytes"
	"reflect"
	"slices"
	"testing"

	"ferryhouse/api"
)

func key(n byte) (k api.Key) {
	for i := range k {
		k[i] = n
	}
	return k
}

func join(parts ...[]byte) []byte { return bytes.Join(parts, nil) }

func same(n byte, many int) []byte { return bytes.Repeat([]byte{n}, many) }

// full is a message of version 0 in which no list is empty, with its bytes.
func full() (api.Message, []byte) {
	m := api.Message{
		V0:     true,
		Header: api.Header{Signers: 200, ReadSigned: 1, ReadOther: 255},
		Keys:   []api.Key{key(1), key(2), key(1)},
		Recent: api.Hash(key(9)),
		Instrs: []api.Instr{
			{Program: 1, Accounts: []byte{0, 255}, Data: []byte("abc")},
			{Program: 130, Accounts: []byte{128}, Data: same(7, 130)},
		},
		Lookups: []api.Lookup{
			{Table: key(5), Writes: []byte{3}, Reads: []byte{8, 200}},
			{Table: key(6), Writes: []byte{1, 1}, Reads: []byte{0}},
		},
	}
	return m, join(
		[]byte{128, 200, 1, 255},
		[]byte{3}, same(1, 32), same(2, 32), same(1, 32),
		same(9, 32),
		[]byte{2},
		[]byte{1, 2, 0, 255, 3, 'a', 'b', 'c'},
		[]byte{130, 1, 128, 0x82, 0x01}, same(7, 130),
		[]byte{2},
		same(5, 32), []byte{1, 3, 2, 8, 200},
		same(6, 32), []byte{2, 1, 1, 1, 0},
	)
}

// elder is the document's example, with an instruction, and its bytes.
func elder() (api.Message, []byte) {
	m := api.Message{
		Header: api.Header{Signers: 1},
		Keys:   []api.Key{key(1)},
		Instrs: []api.Instr{{Program: 4, Accounts: []byte{5}, Data: []byte{6, 7}}},
	}
	return m, join([]byte{1, 0, 0, 1}, same(1, 32), same(0, 32), []byte{1, 4, 1, 5, 2, 6, 7})
}

type pair struct {
	name string
	m    api.Message
	b    []byte
}

// pairs are messages, with just the bytes that they must have.
func pairs() []pair {
	v0, v0Bytes := full()
	old, oldBytes := elder()
	example := api.Message{Header: api.Header{Signers: 1}, Keys: []api.Key{key(1)}}
	exampleBytes := join([]byte{1, 0, 0, 1}, same(1, 32), same(0, 33))
	example0 := example
	example0.V0 = true
	return []pair{
		{"full", v0, v0Bytes},
		{"elder", old, oldBytes},
		{"the example", example, exampleBytes},
		{"the example, of version 0", example0, join([]byte{128}, exampleBytes, []byte{0})},
		{"nothing", api.Message{}, make([]byte, 37)},
		{"nothing, of version 0", api.Message{V0: true}, join([]byte{128}, make([]byte, 38))},
		{"elder with most Signers", api.Message{Header: api.Header{Signers: 127, ReadSigned: 128, ReadOther: 129}}, join([]byte{127, 128, 129}, make([]byte, 34))},
		{"version 0 with 128 Signers", api.Message{V0: true, Header: api.Header{Signers: 128}}, join([]byte{128, 128}, make([]byte, 37))},
		{"empty instructions", api.Message{Instrs: make([]api.Instr, 2)}, join(make([]byte, 36), []byte{2}, make([]byte, 6))},
		{"empty lookups", api.Message{V0: true, Lookups: make([]api.Lookup, 2)}, join([]byte{128}, make([]byte, 37), []byte{2}, make([]byte, 68))},
	}
}

// longs sets one list of a message each, with so many elements.
func longs() map[string]func(m *api.Message, many int) {
	return map[string]func(m *api.Message, many int){
		"Keys":     func(m *api.Message, many int) { m.Keys = slices.Repeat([]api.Key{key(3)}, many) },
		"Instrs":   func(m *api.Message, many int) { m.Instrs = slices.Repeat([]api.Instr{{Program: 3}}, many) },
		"Accounts": func(m *api.Message, many int) { m.Instrs[1].Accounts = same(3, many) },
		"Data":     func(m *api.Message, many int) { m.Instrs[1].Data = same(3, many) },
		"Lookups":  func(m *api.Message, many int) { m.Lookups = slices.Repeat([]api.Lookup{{Table: key(3)}}, many) },
		"Writes":   func(m *api.Message, many int) { m.Lookups[1].Writes = same(3, many) },
		"Reads":    func(m *api.Message, many int) { m.Lookups[1].Reads = same(3, many) },
	}
}

// fault reads bytes by their places, another way than the program does: how many bytes a message took, or what is wrong first.
func fault(b []byte) (int, api.Errno) {
	at, wrong := 0, api.OK
	octet := func() int {
		if wrong != api.OK {
			return 0
		}
		if at >= len(b) {
			wrong = api.ErrShort
			return 0
		}
		at++
		return int(b[at-1])
	}
	skip := func(many int) {
		for range many {
			octet()
		}
	}
	many := func() int {
		n := 0
		for i := range 3 {
			x := octet()
			if wrong == api.OK && (x == 0 && i > 0 || i == 2 && x > 3) {
				wrong = api.ErrForm
			}
			if wrong != api.OK {
				return 0
			}
			n |= (x & 127) << (7 * i)
			if x < 128 {
				break
			}
		}
		return n
	}
	first := octet()
	if first > 128 {
		wrong = api.ErrForm
	} else if first == 128 {
		octet()
	}
	skip(2)
	skip(32 * many())
	skip(32)
	for range many() {
		skip(1)
		skip(many())
		skip(many())
	}
	if first == 128 {
		for range many() {
			skip(32)
			skip(many())
			skip(many())
		}
	}
	if wrong != api.OK {
		return 0, wrong
	}
	return at, api.OK
}

// held fails unless Get of b answers what fault does, and, where it takes something, Put makes just that of it.
func held(t *testing.T, b []byte) {
	t.Helper()
	m, took, e := Get(b)
	if want, wrong := fault(b); took != want || e != wrong {
		t.Fatalf("Get(%x) took %d, error %d; want %d, %d", b, took, e, want, wrong)
	}
	if e != api.OK {
		if !reflect.DeepEqual(m, api.Message{}) {
			t.Fatalf("Get(%x): beside error %d stands %v", b, e, m)
		}
		return
	}
	if put, e := Put(m); e != api.OK || !bytes.Equal(put, b[:took]) {
		t.Fatalf("Get(%x) took %d; Put of it = %x, %d", b, took, put, e)
	}
}

// P3.1

func TestPutTellsBytes(t *testing.T) {
	for _, k := range pairs() {
		if b, e := Put(k.m); e != api.OK || !bytes.Equal(b, k.b) {
			t.Errorf("%s: Put = %x, %d; want %x", k.name, b, e, k.b)
		}
	}
}

func TestPutOfEmptyLists(t *testing.T) {
	want := make([]byte, 37)
	for _, m := range []api.Message{
		{Keys: []api.Key{}, Instrs: []api.Instr{}, Lookups: []api.Lookup{}},
		{Keys: make([]api.Key, 0, 5), Lookups: make([]api.Lookup, 0, 5)},
	} {
		if b, e := Put(m); e != api.OK || !bytes.Equal(b, want) {
			t.Errorf("Put = %x, %d", b, e)
		}
	}
}

func TestPutRefusesLongLists(t *testing.T) {
	for name, long := range longs() {
		for _, many := range []int{api.MaxShort + 1, api.MaxShort + 2, 2 * (api.MaxShort + 1)} {
			m, _ := full()
			long(&m, many)
			if b, e := Put(m); b != nil || e != api.ErrArg {
				t.Errorf("%d %s: %d bytes, error %d", many, name, len(b), e)
			}
		}
	}
}

func TestPutOfLongestLists(t *testing.T) {
	for name, long := range longs() {
		m, _ := full()
		long(&m, api.MaxShort)
		b, e := Put(m)
		if e != api.OK {
			t.Errorf("%s: error %d", name, e)
			continue
		}
		if got, took, e := Get(b); e != api.OK || took != len(b) || !reflect.DeepEqual(got, m) {
			t.Errorf("%s: Get took %d of %d, error %d", name, took, len(b), e)
		}
	}
}

func TestPutRefusesElderKind(t *testing.T) {
	m, _ := full()
	m.V0, m.Header.Signers = false, 1
	if b, e := Put(m); b != nil || e != api.ErrArg {
		t.Errorf("with lookups: %x, %d", b, e)
	}
	m.Lookups = make([]api.Lookup, 1)
	if b, e := Put(m); b != nil || e != api.ErrArg {
		t.Errorf("with a lookup of nothing: %x, %d", b, e)
	}
	m.Lookups = nil
	for signers := range 256 {
		m.Header.Signers = uint8(signers)
		want := api.OK
		if signers >= 128 {
			want = api.ErrArg
		}
		if b, e := Put(m); e != want || (b == nil) != (want != api.OK) {
			t.Errorf("with %d Signers: %x, %d", signers, b, e)
		}
	}
}

func TestPutLeavesWhatIsHandedIn(t *testing.T) {
	m, want := full()
	was, _ := full()
	b, _ := Put(m)
	if !reflect.DeepEqual(m, was) {
		t.Errorf("what was handed in became %v", m)
	}
	for _, x := range b[len(b):cap(b)] {
		if x != 0 {
			t.Errorf("behind the answer stands %x", b[len(b):cap(b)])
			break
		}
	}
	for i := range b {
		b[i] ^= 255
	}
	if !reflect.DeepEqual(m, was) {
		t.Errorf("the answer shares memory with what was handed in: %v", m)
	}
	if again, _ := Put(m); !bytes.Equal(again, want) {
		t.Errorf("Put once more = %x", again)
	}
}

// P3.2

func TestGetTakesBytes(t *testing.T) {
	for _, k := range pairs() {
		m, took, e := Get(k.b)
		if e != api.OK || took != len(k.b) || !reflect.DeepEqual(m, k.m) {
			t.Errorf("%s: Get = %v, %d, %d; want %v", k.name, m, took, e, k.m)
		}
	}
}

func TestGetRefuses(t *testing.T) {
	_, b := full()
	instrs := 4 + 1 + 3*32 + 32
	lookups := instrs + 1 + 8 + 5 + 130
	for _, k := range []struct {
		name string
		b    []byte
		e    api.Errno
	}{
		{"nothing", nil, api.ErrShort},
		{"no bytes", []byte{}, api.ErrShort},
		{"version 0 alone", []byte{128}, api.ErrShort},
		{"Signers alone", []byte{1}, api.ErrShort},
		{"a version above 0", same(129, 100), api.ErrForm},
		{"the greatest first byte, alone", []byte{255}, api.ErrForm},
		{"no keys' number", []byte{1, 0, 0}, api.ErrShort},
		{"half a keys' number", []byte{1, 0, 0, 128}, api.ErrShort},
		{"a needless byte", []byte{1, 0, 0, 128, 0}, api.ErrForm},
		{"too great a number", []byte{1, 0, 0, 255, 255, 4}, api.ErrForm},
		{"a fourth byte", []byte{1, 0, 0, 255, 255, 131, 1}, api.ErrForm},
		{"many keys, none there", []byte{1, 0, 0, 255, 255, 3}, api.ErrShort},
		{"keys end ahead of what is wrong behind", join([]byte{1, 0, 0, 2}, same(128, 32), []byte{128, 0}), api.ErrShort},
		{"half a hash", join([]byte{1, 0, 0, 0}, same(0, 31)), api.ErrShort},
		{"instructions' number", join(b[:instrs], []byte{0x82, 0}), api.ErrForm},
		{"many instructions, none there", join(b[:instrs], []byte{255, 255, 3}), api.ErrShort},
		{"accounts' number", join(b[:instrs], []byte{1, 9, 0x80, 0x80, 0}), api.ErrForm},
		{"accounts' number ahead of a short end", join(b[:instrs], []byte{200, 1, 9, 0x81, 0}), api.ErrForm},
		{"many accounts", join(b[:instrs], []byte{1, 9, 255, 255, 3, 1}), api.ErrShort},
		{"data's number", join(b[:instrs], []byte{1, 9, 0, 0x80, 0x80, 4}), api.ErrForm},
		{"many data", join(b[:instrs], []byte{1, 9, 0, 255, 255, 3}), api.ErrShort},
		{"data short ahead of a bad instruction", join(b[:instrs], []byte{2, 9, 0, 5, 9, 0x80, 0}), api.ErrShort},
		{"no lookups' number", b[:lookups], api.ErrShort},
		{"lookups' number", join(b[:lookups], []byte{0x80, 0}), api.ErrForm},
		{"many lookups, none there", join(b[:lookups], []byte{255, 255, 3}), api.ErrShort},
		{"half a table", join(b[:lookups], []byte{1}, same(5, 31)), api.ErrShort},
		{"writes' number", join(b[:lookups], []byte{1}, same(5, 32), []byte{0xff, 0}), api.ErrForm},
		{"many writes", join(b[:lookups], []byte{1}, same(5, 32), []byte{255, 255, 3}), api.ErrShort},
		{"reads' number", join(b[:lookups], []byte{1}, same(5, 32), []byte{0, 0xff, 0xff, 4}), api.ErrForm},
		{"many reads", join(b[:lookups], []byte{1}, same(5, 32), []byte{0, 255, 255, 3}), api.ErrShort},
	} {
		m, took, e := Get(k.b)
		if e != k.e || took != 0 || !reflect.DeepEqual(m, api.Message{}) {
			t.Errorf("%s: Get = %v, %d, %d; want error %d", k.name, m, took, e, k.e)
		}
	}
}

func TestGetOfEachFirstByte(t *testing.T) {
	for first := range 256 {
		b := make([]byte, 40)
		b[0] = byte(first)
		m, took, e := Get(b)
		switch {
		case first < 128:
			if m.V0 || int(m.Header.Signers) != first || took != 37 || e != api.OK {
				t.Errorf("first byte %d: %v, %d, %d", first, m, took, e)
			}
		case first == 128:
			if !m.V0 || m.Header.Signers != 0 || took != 39 || e != api.OK {
				t.Errorf("first byte %d: %v, %d, %d", first, m, took, e)
			}
		case took != 0 || e != api.ErrForm:
			t.Errorf("first byte %d: %d, %d", first, took, e)
		}
	}
}

// TestGetOfOtherBytes puts each byte at each place of messages' bytes: what is wrong first is told, and what is right is taken.
func TestGetOfOtherBytes(t *testing.T) {
	for _, k := range pairs() {
		b := bytes.Clone(k.b)
		for i, was := range b {
			for x := range 256 {
				b[i] = byte(x)
				held(t, b)
				held(t, join(b, []byte{1, 0, 0, 0, 0x80, 0}))
			}
			b[i] = was
		}
	}
}

func TestGetLeavesWhatIsHandedIn(t *testing.T) {
	want, b := full()
	b = append(b, same(0xee, 9)...)
	was := bytes.Clone(b)
	m, _, _ := Get(b[:len(b)-9])
	if !bytes.Equal(b, was) {
		t.Errorf("what was handed in became %x", b)
	}
	clear(b)
	if !reflect.DeepEqual(m, want) {
		t.Errorf("what was answered shares memory with what was handed in: %v", m)
	}
}

// byteLists are all lists of bytes of a message that full made.
func byteLists(m *api.Message) []*[]byte {
	return []*[]byte{
		&m.Instrs[0].Accounts, &m.Instrs[0].Data, &m.Instrs[1].Accounts, &m.Instrs[1].Data,
		&m.Lookups[0].Writes, &m.Lookups[0].Reads, &m.Lookups[1].Writes, &m.Lookups[1].Reads,
	}
}

// bare fails where something stands in a list's room.
func bare[T any](t *testing.T, name string, l []T) {
	t.Helper()
	room := l[len(l):cap(l)]
	if !slices.EqualFunc(room, make([]T, len(room)), func(a, b T) bool { return reflect.DeepEqual(a, b) }) {
		t.Errorf("behind the %s stands %v", name, room)
	}
}

func TestListsOfAnAnswerHaveNothingBehind(t *testing.T) {
	_, b := full()
	m, _, _ := Get(append(b, same(0xee, 99)...)[:len(b)])
	bare(t, "keys", m.Keys)
	bare(t, "instructions", m.Instrs)
	bare(t, "lookups", m.Lookups)
	for _, l := range byteLists(&m) {
		bare(t, "bytes", *l)
	}
}

// TestListsOfAnAnswerShareNothing changes one list at a time, and what is behind it: all others must stay.
func TestListsOfAnAnswerShareNothing(t *testing.T) {
	want, b := full()
	for i := range byteLists(&want) {
		want, _ := full()
		m, _, _ := Get(b)
		mine := byteLists(&m)[i]
		_ = append(*mine, same(0xee, 64)...)
		for j := range *mine {
			(*mine)[j] ^= 255
		}
		*mine, *byteLists(&want)[i] = nil, nil
		if !reflect.DeepEqual(m, want) {
			t.Errorf("list %d was changed, and others with it: %v", i, m)
		}
	}
}

// P3.3

// lists are what a list of bytes may be, with numbers of one byte, two and three.
func lists() [][]byte {
	return [][]byte{nil, {0}, {128, 255}, same(1, 127), same(2, 128), same(3, 16384)}
}

// many are messages of both kinds, with lists of various lengths.
func many() (out []api.Message) {
	for i, a := range lists() {
		for j, b := range lists() {
			m := api.Message{
				Header: api.Header{Signers: uint8(20 * j), ReadSigned: uint8(50 * i), ReadOther: uint8(255 - i)},
				Keys:   slices.Repeat([]api.Key{key(byte(i + j))}, 64*i*j/5),
				Recent: api.Hash(key(byte(128 + i))),
				Instrs: []api.Instr{{Program: uint8(i), Accounts: a, Data: b}, {Program: 255}, {Accounts: b, Data: a}}[:(i+j)%4],
			}
			if len(m.Keys) == 0 {
				m.Keys = nil
			}
			if len(m.Instrs) == 0 {
				m.Instrs = nil
			}
			out = append(out, m)
			m.V0 = true
			out = append(out, m)
			m.Header.Signers = 255
			m.Lookups = []api.Lookup{{Table: key(4), Writes: b, Reads: a}, {Table: key(byte(j)), Writes: a, Reads: b}}[:1+(i+j)%2]
			out = append(out, m)
		}
	}
	return out
}

func TestWhatIsPutIsGot(t *testing.T) {
	for i, m := range many() {
		b, e := Put(m)
		if e != api.OK {
			t.Fatalf("message %d: Put: error %d", i, e)
		}
		for _, rest := range [][]byte{nil, {0}, {128}, {255, 255, 255}, b} {
			got, took, e := Get(join(b, rest))
			if e != api.OK || took != len(b) || !reflect.DeepEqual(got, m) {
				t.Errorf("message %d with %d bytes behind: Get took %d of %d, error %d", i, len(rest), took, len(b), e)
			}
		}
		if got, took, e := Get(b[:len(b)-1]); e != api.ErrShort || took != 0 || !reflect.DeepEqual(got, api.Message{}) {
			t.Errorf("message %d less one byte: Get took %d, error %d", i, took, e)
		}
	}
}

func TestLessBytesAreShort(t *testing.T) {
	for _, k := range pairs() {
		for n := range k.b {
			m, took, e := Get(k.b[:n])
			if e != api.ErrShort || took != 0 || !reflect.DeepEqual(m, api.Message{}) {
				t.Errorf("%s: Get of %d bytes of %d = %v, %d, %d", k.name, n, len(k.b), m, took, e)
			}
		}
	}
}

// TestWhatIsTakenIsWhatIsPut has bytes of a fixed rule, small ones mostly, so that many are messages.
func TestWhatIsTakenIsWhatIsPut(t *testing.T) {
	n, taken := uint32(1), 0
	next := func() byte {
		n = n*1664525 + 1013904223
		return byte(n >> 24)
	}
	for range 20000 {
		b := make([]byte, 40+int(next())%160)
		for i := range b {
			switch x := next(); {
			case x > 250:
				b[i] = next()
			case x > 120:
				b[i] = x % 3
			}
		}
		if next() > 127 {
			b[0] = 128
		}
		held(t, b)
		if _, _, e := Get(b); e == api.OK {
			taken++
		}
	}
	if taken < 1000 {
		t.Errorf("only %d were messages", taken)
	}
}
