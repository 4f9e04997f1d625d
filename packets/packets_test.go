package packets

import (
	"bytes"
	"reflect"
	"slices"
	"testing"

	"ferryhouse/api"
	"ferryhouse/messages"
)

func key(n byte) (k api.Key) {
	for i := range k {
		k[i] = n
	}
	return k
}

// sig has a byte of its own at each place, so that one which is shifted or cut is seen.
func sig(n byte) (s api.Sig) {
	for i := range s {
		s[i] = n + byte(i)
	}
	return s
}

// sigs are so many, with their bytes.
func sigs(many int) (l []api.Sig, b []byte) {
	for i := range many {
		s := sig(byte(3 * i))
		l = append(l, s)
		b = append(b, s[:]...)
	}
	return l, b
}

func join(parts ...[]byte) []byte { return bytes.Join(parts, nil) }

func same(n byte, many int) []byte { return bytes.Repeat([]byte{n}, many) }

// example is the elder message of the document's examples, and its bytes.
func example() (api.Message, []byte) {
	m := api.Message{Header: api.Header{Signers: 1}, Keys: []api.Key{key(1)}}
	return m, join([]byte{1, 0, 0, 1}, same(1, 32), same(0, 33))
}

// full is a message of version 0 in which no list is empty, and its bytes.
func full() (api.Message, []byte) {
	m := api.Message{
		V0:      true,
		Header:  api.Header{Signers: 2, ReadSigned: 1, ReadOther: 3},
		Keys:    []api.Key{key(1), key(2)},
		Recent:  api.Hash(key(9)),
		Instrs:  []api.Instr{{Program: 1, Accounts: []byte{0, 255}, Data: []byte("abc")}},
		Lookups: []api.Lookup{{Table: key(5), Writes: []byte{3}, Reads: []byte{8, 200}}},
	}
	return m, join(
		[]byte{128, 2, 1, 3},
		[]byte{2}, same(1, 32), same(2, 32), same(9, 32),
		[]byte{1, 1, 2, 0, 255, 3, 'a', 'b', 'c'},
		[]byte{1}, same(5, 32), []byte{1, 3, 2, 8, 200},
	)
}

type pair struct {
	name string
	tx   api.Tx
	b    []byte
}

// pairs are transactions, with just the bytes that they must have.
func pairs() []pair {
	m, mBytes := example()
	m0, m0Bytes := full()
	s1, s1Bytes := sigs(1)
	s2, s2Bytes := sigs(2)
	s17, s17Bytes := sigs(17)
	return []pair{
		{"the example", api.Tx{M: m}, join([]byte{0}, mBytes)},
		{"one signature", api.Tx{Sigs: s1, M: m}, join([]byte{1}, s1Bytes, mBytes)},
		{"two signatures, and all there can be", api.Tx{Sigs: s2, M: m0}, join([]byte{2}, s2Bytes, m0Bytes)},
		{"seventeen signatures", api.Tx{Sigs: s17, M: m}, join([]byte{17}, s17Bytes, mBytes)},
		{"nothing", api.Tx{}, make([]byte, 38)},
		{"nothing, of version 0", api.Tx{M: api.Message{V0: true}}, join([]byte{0, 128}, make([]byte, 38))},
	}
}

// sized is a transaction of just so many bytes: an instruction's data, of which there must be 128 or more, fills them up.
func sized(t *testing.T, signatures, size int) api.Tx {
	t.Helper()
	tx := api.Tx{}
	tx.Sigs, _ = sigs(signatures)
	tx.M, _ = example()
	head := 1 + 64*signatures + 69
	data := size - head - 4 // Program, no accounts, and two bytes that tell how many the data are
	if data < 128 {
		t.Fatalf("no room for data in %d bytes", size)
	}
	tx.M.Instrs = []api.Instr{{Program: 1, Data: same(6, data)}}
	return tx
}

// raw puts a transaction of whatever size, another way than the program does.
func raw(t *testing.T, tx api.Tx) []byte {
	t.Helper()
	m, e := messages.Put(tx.M)
	if e != api.OK {
		t.Fatalf("its message: error %d", e)
	}
	b := []byte{byte(len(tx.Sigs))}
	switch n := len(tx.Sigs); {
	case n > 16383:
		b = []byte{byte(n) | 128, byte(n>>7) | 128, byte(n >> 14)}
	case n > 127:
		b = []byte{byte(n) | 128, byte(n >> 7)}
	}
	for _, s := range tx.Sigs {
		b = append(b, s[:]...)
	}
	return append(b, m...)
}

// fault tells how many bytes the transaction took that b begins with, or what is wrong first; it reads the signatures byte by byte.
func fault(b []byte) (int, api.Errno) {
	at, n := 0, 0
	for i := range 3 {
		if at >= len(b) {
			return 0, api.ErrShort
		}
		x := int(b[at])
		if x == 0 && i > 0 || i == 2 && x > 3 {
			return 0, api.ErrForm
		}
		at++
		n += (x % 128) << (7 * i)
		if x < 128 {
			break
		}
	}
	for range n {
		if len(b)-at < 64 {
			return 0, api.ErrShort
		}
		at += 64
	}
	_, took, e := messages.Get(b[at:])
	if e != api.OK {
		return 0, e
	}
	return at + took, api.OK
}

func isNothing(tx api.Tx) bool { return reflect.DeepEqual(tx, api.Tx{}) }

// held fails unless Get and Whole of b answer what they must.
func held(t *testing.T, b []byte) {
	t.Helper()
	want, wrong := fault(b)
	tx, took, e := Get(b)
	if took != want || e != wrong {
		t.Fatalf("Get(%x) took %d, error %d; want %d, %d", b, took, e, want, wrong)
	}
	whole, f := Whole(b)
	switch {
	case len(b) > api.MaxPacket:
		wrong = api.ErrLimit
	case wrong == api.OK && want < len(b):
		wrong = api.ErrForm
	}
	if f != wrong {
		t.Fatalf("Whole(%x): error %d; want %d", b, f, wrong)
	}
	if e != api.OK && !isNothing(tx) || f != api.OK && !isNothing(whole) {
		t.Fatalf("beside an error stands something: Get(%x) = %v, %d; Whole = %v, %d", b, tx, e, whole, f)
	}
	if f == api.OK && !reflect.DeepEqual(whole, tx) {
		t.Fatalf("Whole(%x) = %v; Get = %v", b, whole, tx)
	}
	if e != api.OK || took > api.MaxPacket {
		return
	}
	if put, e := Put(tx); e != api.OK || !bytes.Equal(put, b[:took]) {
		t.Fatalf("Get(%x) took %d; Put of it = %x, %d", b, took, put, e)
	}
}

// P4.1

func TestPutTellsBytes(t *testing.T) {
	for _, k := range pairs() {
		if b, e := Put(k.tx); e != api.OK || !bytes.Equal(b, k.b) {
			t.Errorf("%s: Put = %x, %d; want %x", k.name, b, e, k.b)
		}
	}
	m, mBytes := example()
	if b, e := Put(api.Tx{Sigs: []api.Sig{}, M: m}); e != api.OK || !bytes.Equal(b, join([]byte{0}, mBytes)) || len(b) != 70 {
		t.Errorf("of an empty list: %x, %d", b, e)
	}
}

func TestPutUpToLimit(t *testing.T) {
	for _, signatures := range []int{0, 1, 2, 15} {
		for _, size := range []int{api.MaxPacket - 1, api.MaxPacket} {
			tx := sized(t, signatures, size)
			if b, e := Put(tx); e != api.OK || len(b) != size || !bytes.Equal(b, raw(t, tx)) {
				t.Errorf("%d signatures: %d bytes of %d, error %d", signatures, len(b), size, e)
			}
		}
		for _, size := range []int{api.MaxPacket + 1, api.MaxPacket + 2, 2 * api.MaxPacket, 60000} {
			if b, e := Put(sized(t, signatures, size)); b != nil || e != api.ErrLimit {
				t.Errorf("%d signatures, %d bytes: %d bytes, error %d", signatures, size, len(b), e)
			}
		}
	}
}

func TestPutOfManySignatures(t *testing.T) {
	for _, k := range []struct {
		many int
		e    api.Errno
	}{
		{18, api.OK}, // 1 + 64 * 18 + 38 bytes
		{19, api.ErrLimit},
		{127, api.ErrLimit},
		{128, api.ErrLimit},
		{api.MaxShort, api.ErrLimit},
		{api.MaxShort + 1, api.ErrArg},
		{api.MaxShort + 2, api.ErrArg},
		{2 * (api.MaxShort + 1), api.ErrArg},
	} {
		b, e := Put(api.Tx{Sigs: make([]api.Sig, k.many)})
		if e != k.e || (b == nil) != (e != api.OK) {
			t.Errorf("%d signatures: %d bytes, error %d; want %d", k.many, len(b), e, k.e)
		}
	}
}

// TestPutRefusesMessages has messages that have no bytes; where these would be too many as well, that comes behind.
func TestPutRefusesMessages(t *testing.T) {
	for name, change := range map[string]func(m *api.Message){
		"elder with a lookup":    func(m *api.Message) { m.V0 = false },
		"elder with 128 Signers": func(m *api.Message) { m.V0, m.Lookups, m.Header.Signers = false, nil, 128 },
		"too many keys":          func(m *api.Message) { m.Keys = make([]api.Key, api.MaxShort+1) },
		"too many instructions":  func(m *api.Message) { m.Instrs = make([]api.Instr, api.MaxShort+1) },
		"too many accounts":      func(m *api.Message) { m.Instrs[0].Accounts = make([]byte, api.MaxShort+1) },
		"too many data":          func(m *api.Message) { m.Instrs[0].Data = make([]byte, api.MaxShort+1) },
		"too many lookups":       func(m *api.Message) { m.Lookups = make([]api.Lookup, api.MaxShort+1) },
		"too many reads":         func(m *api.Message) { m.Lookups[0].Reads = make([]byte, api.MaxShort+1) },
		"too many writes":        func(m *api.Message) { m.Lookups[0].Writes = make([]byte, api.MaxShort+1) },
	} {
		for _, many := range []int{0, 1, 20, api.MaxShort, api.MaxShort + 1} {
			tx := api.Tx{Sigs: make([]api.Sig, many)}
			tx.M, _ = full()
			change(&tx.M)
			if b, e := Put(tx); b != nil || e != api.ErrArg {
				t.Errorf("%s, %d signatures: %d bytes, error %d", name, many, len(b), e)
			}
		}
	}
}

func TestPutLeavesWhatIsHandedIn(t *testing.T) {
	for i, k := range pairs() {
		was := pairs()[i].tx
		room := append(slices.Clone(k.tx.Sigs), sig(200), sig(201))
		k.tx.Sigs = room[:len(was.Sigs)]
		if len(was.Sigs) == 0 {
			k.tx.Sigs = nil
		}
		b, _ := Put(k.tx)
		if !reflect.DeepEqual(k.tx, was) || room[len(room)-1] != sig(201) || room[len(room)-2] != sig(200) {
			t.Errorf("%s: what was handed in became %v, and behind it %v", k.name, k.tx, room[len(was.Sigs):])
		}
		for _, x := range b[len(b):cap(b)] {
			if x != 0 {
				t.Errorf("%s: behind the answer stands %x", k.name, b[len(b):cap(b)])
				break
			}
		}
		for j := range b {
			b[j] ^= 255
		}
		if !reflect.DeepEqual(k.tx, was) {
			t.Errorf("%s: the answer shares memory with what was handed in: %v", k.name, k.tx)
		}
		if again, _ := Put(k.tx); !bytes.Equal(again, k.b) {
			t.Errorf("%s: Put once more = %x", k.name, again)
		}
	}
}

// P4.2

func TestGetTakesBytes(t *testing.T) {
	for _, k := range pairs() {
		for _, rest := range [][]byte{nil, {0}, {128}, {255, 255, 255}, k.b, same(0xee, 2*api.MaxPacket)} {
			tx, took, e := Get(join(k.b, rest))
			if e != api.OK || took != len(k.b) || !reflect.DeepEqual(tx, k.tx) {
				t.Errorf("%s, %d bytes behind: Get = %v, %d, %d; want %v", k.name, len(rest), tx, took, e, k.tx)
			}
		}
	}
}

func TestGetRefuses(t *testing.T) {
	_, m := full()
	for _, k := range []struct {
		name string
		b    []byte
		e    api.Errno
	}{
		{"nothing", nil, api.ErrShort},
		{"no bytes", []byte{}, api.ErrShort},
		{"no message", []byte{0}, api.ErrShort},
		{"half a number", []byte{128}, api.ErrShort},
		{"two thirds of a number", []byte{255, 255}, api.ErrShort},
		{"a needless byte", []byte{128, 0}, api.ErrForm},
		{"a needless third byte", []byte{128, 128, 0}, api.ErrForm},
		{"too great a number", []byte{255, 255, 4}, api.ErrForm},
		{"a fourth byte", []byte{255, 255, 131, 1}, api.ErrForm},
		{"a needless byte, and all behind it", join([]byte{129, 0}, same(5, 64), m), api.ErrForm},
		{"one signature, none there", []byte{1}, api.ErrShort},
		{"one signature less a byte", join([]byte{1}, same(5, 63)), api.ErrShort},
		{"one signature, no message", join([]byte{1}, same(5, 64)), api.ErrShort},
		{"two signatures, one there", join([]byte{2}, same(5, 64)), api.ErrShort},
		{"two signatures less a byte", join([]byte{2}, same(5, 127)), api.ErrShort},
		{"all signatures, none there", []byte{255, 255, 3}, api.ErrShort},
		{"128 signatures less a byte", join([]byte{128, 1}, same(5, 64*128-1)), api.ErrShort},
		{"signatures are short ahead of a bad message", join([]byte{1}, same(255, 63)), api.ErrShort},
		{"a bad message", join([]byte{1}, same(5, 64), []byte{129}), api.ErrForm},
		{"a bad message, no signatures", []byte{0, 200}, api.ErrForm},
		{"a message less a byte", join([]byte{1}, same(5, 64), m[:len(m)-1]), api.ErrShort},
		{"a message's needless byte", join([]byte{1}, same(5, 64), []byte{1, 0, 0, 128, 0}), api.ErrForm},
		{"a message whose keys end", join([]byte{0, 1, 0, 0, 255, 255, 3}, same(1, 99)), api.ErrShort},
	} {
		tx, took, e := Get(k.b)
		if e != k.e || took != 0 || !isNothing(tx) {
			t.Errorf("%s: Get = %v, %d, %d; want error %d", k.name, tx, took, e, k.e)
		}
		if whole, e := Whole(k.b); len(k.b) <= api.MaxPacket && (e != k.e || !isNothing(whole)) {
			t.Errorf("%s: Whole = %v, %d; want error %d", k.name, whole, e, k.e)
		}
	}
}

func TestGetOfMoreThanPackets(t *testing.T) {
	txs := []api.Tx{sized(t, 0, api.MaxPacket+1), sized(t, 15, api.MaxPacket+1), sized(t, 3, 50000)}
	for _, many := range []int{19, 127, 128, 16383, 16384, api.MaxShort} {
		tx := api.Tx{}
		tx.Sigs, _ = sigs(many)
		tx.M, _ = full()
		txs = append(txs, tx)
	}
	for _, tx := range txs {
		b := raw(t, tx)
		if got, took, e := Get(join(b, []byte{1, 2})); e != api.OK || took != len(b) || !reflect.DeepEqual(got, tx) {
			t.Errorf("%d signatures: Get took %d of %d, error %d", len(tx.Sigs), took, len(b), e)
		}
		if got, took, e := Get(b[:len(b)-1]); e != api.ErrShort || took != 0 || !isNothing(got) {
			t.Errorf("%d signatures less a byte: Get took %d of %d, error %d", len(tx.Sigs), took, len(b), e)
		}
		if got, e := Whole(b); e != api.ErrLimit || !isNothing(got) {
			t.Errorf("%d signatures: Whole of %d bytes: error %d", len(tx.Sigs), len(b), e)
		}
	}
}

func TestLessBytesAreShort(t *testing.T) {
	for _, k := range pairs() {
		for n := range k.b {
			tx, took, e := Get(k.b[:n])
			if e != api.ErrShort || took != 0 || !isNothing(tx) {
				t.Errorf("%s: Get of %d bytes of %d = %v, %d, %d", k.name, n, len(k.b), tx, took, e)
			}
			if tx, e := Whole(k.b[:n]); e != api.ErrShort || !isNothing(tx) {
				t.Errorf("%s: Whole of %d bytes of %d = %v, %d", k.name, n, len(k.b), tx, e)
			}
		}
	}
}

// TestGetOfOtherBytes puts each byte at each place of transactions' bytes: what is wrong first is told, and what is right is taken.
func TestGetOfOtherBytes(t *testing.T) {
	for _, k := range pairs() {
		b := bytes.Clone(k.b)
		for i, was := range b {
			// A signature may be any bytes: a few of its places do.
			if i > 3 && i < len(k.tx.Sigs)*64-3 && i%64 > 3 {
				continue
			}
			for x := range 256 {
				b[i] = byte(x)
				held(t, b)
				held(t, join(b, []byte{1, 0, 0, 0, 128, 0}))
			}
			b[i] = was
		}
	}
}

// takers are the calls that answer a transaction of bytes.
func takers() map[string]func(b []byte) api.Tx {
	return map[string]func(b []byte) api.Tx{
		"Get":   func(b []byte) api.Tx { tx, _, _ := Get(b); return tx },
		"Whole": func(b []byte) api.Tx { tx, _ := Whole(b); return tx },
	}
}

func TestTakersLeaveWhatIsHandedIn(t *testing.T) {
	for name, take := range takers() {
		for _, k := range pairs() {
			all := join(k.b, same(0xee, 99))
			was := bytes.Clone(all)
			tx := take(all[:len(k.b)])
			if !bytes.Equal(all, was) {
				t.Errorf("%s, %s: what was handed in became %x", name, k.name, all)
			}
			clear(all)
			if !reflect.DeepEqual(tx, k.tx) {
				t.Errorf("%s, %s: what was answered shares memory with what was handed in: %v", name, k.name, tx)
			}
		}
	}
}

// TestListsOfAnAnswerAreTheirOwn writes into the signatures, and behind them: all else must stay.
func TestListsOfAnAnswerAreTheirOwn(t *testing.T) {
	for name, take := range takers() {
		for _, k := range pairs() {
			tx, other := take(join(k.b)), take(join(k.b))
			for _, s := range tx.Sigs[len(tx.Sigs):cap(tx.Sigs)] {
				if s != (api.Sig{}) {
					t.Errorf("%s, %s: behind the signatures stands %x", name, k.name, s)
				}
			}
			_ = append(tx.Sigs, slices.Repeat([]api.Sig{sig(99)}, 8)...)
			clear(tx.Sigs)
			if !reflect.DeepEqual(tx.M, k.tx.M) || !reflect.DeepEqual(other, k.tx) {
				t.Errorf("%s, %s: signatures were changed, and others with them: %v, %v", name, k.name, tx, other)
			}
		}
	}
}

// P4.3

func TestWholeIsAllOfIt(t *testing.T) {
	for _, k := range pairs() {
		if tx, e := Whole(k.b); e != api.OK || !reflect.DeepEqual(tx, k.tx) {
			t.Errorf("%s: Whole = %v, %d; want %v", k.name, tx, e, k.tx)
		}
		for _, rest := range [][]byte{{0}, {128}, {255, 255, 255}, same(0, api.MaxPacket-len(k.b))} {
			b := join(k.b, rest)
			want := api.ErrForm
			if len(b) > api.MaxPacket {
				want = api.ErrLimit
			}
			if tx, e := Whole(b); e != want || !isNothing(tx) {
				t.Errorf("%s, %d bytes behind: Whole = %v, %d; want error %d", k.name, len(rest), tx, e, want)
			}
		}
	}
}

func TestWholeUpToLimit(t *testing.T) {
	for _, signatures := range []int{0, 1, 15} {
		for _, size := range []int{api.MaxPacket - 1, api.MaxPacket} {
			tx := sized(t, signatures, size)
			if got, e := Whole(raw(t, tx)); e != api.OK || !reflect.DeepEqual(got, tx) {
				t.Errorf("%d signatures, %d bytes: error %d", signatures, size, e)
			}
		}
	}
	// Too many bytes are told ahead of all else.
	for name, b := range map[string][]byte{
		"one byte too many":               raw(t, sized(t, 1, api.MaxPacket+1)),
		"bytes that are left behind":      join(raw(t, sized(t, 1, api.MaxPacket)), []byte{0}),
		"noughts":                         make([]byte, api.MaxPacket+1),
		"a number that may not be":        join([]byte{128, 0}, make([]byte, api.MaxPacket)),
		"a message that may not be":       join([]byte{0, 200}, make([]byte, api.MaxPacket)),
		"signatures that are short":       join([]byte{255, 255, 3}, make([]byte, api.MaxPacket)),
		"a message that is short":         raw(t, sized(t, 1, 9999))[:api.MaxPacket+1],
		"many bytes that begin with none": make([]byte, 1<<20),
	} {
		if tx, e := Whole(b); e != api.ErrLimit || !isNothing(tx) {
			t.Errorf("%s: Whole = %v, %d", name, tx, e)
		}
	}
	for name, k := range map[string]struct {
		b []byte
		e api.Errno
	}{
		"noughts":                   {make([]byte, api.MaxPacket), api.ErrForm},
		"a message that is short":   {raw(t, sized(t, 1, 9999))[:api.MaxPacket], api.ErrShort},
		"signatures that are short": {join([]byte{19}, make([]byte, api.MaxPacket-1)), api.ErrShort},
	} {
		if tx, e := Whole(k.b); e != k.e || !isNothing(tx) {
			t.Errorf("%s, as many as may be: Whole = %v, %d; want error %d", name, tx, e, k.e)
		}
	}
}

// P4.4

func TestWhatIsPutIsWhole(t *testing.T) {
	for _, k := range pairs() {
		for many := range 19 {
			tx := k.tx
			tx.Sigs, _ = sigs(many)
			b, e := Put(tx)
			if e == api.ErrLimit && len(raw(t, tx)) > api.MaxPacket {
				continue
			}
			if e != api.OK {
				t.Errorf("%s, %d signatures: Put: error %d", k.name, many, e)
			}
			if whole, e := Whole(b); e != api.OK || !reflect.DeepEqual(whole, tx) {
				t.Errorf("%s, %d signatures: Whole = %v, %d", k.name, many, whole, e)
			}
		}
	}
}

// TestWhatIsWholeIsWhatIsPut has bytes of a fixed rule, small ones mostly, cut where the transaction ends, so that many are whole.
func TestWhatIsWholeIsWhatIsPut(t *testing.T) {
	n, whole := uint32(1), 0
	next := func() byte {
		n = n*1664525 + 1013904223
		return byte(n >> 24)
	}
	for range 20000 {
		b := make([]byte, 60+4*int(next()))
		for i := range b {
			switch x := next(); {
			case x > 250:
				b[i] = next()
			case x > 120:
				b[i] = x % 3
			}
		}
		held(t, b)
		_, took, e := Get(b)
		if e != api.OK {
			continue
		}
		held(t, b[:took])
		if _, e := Whole(b[:took]); e == api.OK {
			whole++
		}
	}
	if whole < 1000 {
		t.Errorf("only %d were whole", whole)
	}
}
