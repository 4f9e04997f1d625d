package roles

import (
	"reflect"
	"slices"
	"testing"

	"ferryhouse/api"
)

// keys are so many, no two alike, and none that is known; those of another mark are others.
func keys(many int, mark byte) (l []api.Key) {
	for i := range many {
		l = append(l, api.Key{mark, byte(i), byte(i >> 8), byte(i >> 16), 1})
	}
	return l
}

// near are all keys that differ from k by one bit.
func near(k api.Key) (l []api.Key) {
	for i := range k {
		for bit := range 8 {
			other := k
			other[i] ^= 1 << bit
			l = append(l, other)
		}
	}
	return l
}

// message of these keys, with that header.
func message(signers, readSigned, readOther uint8, l []api.Key) api.Message {
	return api.Message{Header: api.Header{Signers: signers, ReadSigned: readSigned, ReadOther: readOther}, Keys: l}
}

// roles of these keys: of each a word, with an s in it if the key signs, and a w if it is written.
func roles(l []api.Key, words ...string) (out []api.Role) {
	for i, k := range l {
		has := func(c byte) bool { return slices.Contains([]byte(words[i]), c) }
		out = append(out, api.Role{Key: k, Signs: has('s'), Writes: has('w')})
	}
	return out
}

// expect fails unless Of answers these roles.
func expect(t *testing.T, name string, m api.Message, writes, reads []api.Key, want []api.Role) {
	t.Helper()
	got, e := Of(m, writes, reads)
	if e != api.OK || !slices.Equal(got, want) {
		t.Errorf("%s: Of = %v, %d; want %v", name, got, e, want)
	}
	if len(got) == 0 && got != nil {
		t.Errorf("%s: Of answers an empty list that is no nil", name)
	}
	alone(t, name, got)
}

// refuse fails unless Of answers that a key stands twice.
func refuse(t *testing.T, name string, m api.Message, writes, reads []api.Key) {
	t.Helper()
	if got, e := Of(m, writes, reads); got != nil || e != api.ErrTwice {
		t.Errorf("%s: Of = %v, %d; want none, %d", name, got, e, api.ErrTwice)
	}
}

// alone fails if something stands behind an answer.
func alone[T comparable](t *testing.T, name string, l []T) {
	t.Helper()
	var nothing T
	for _, k := range l[len(l):cap(l)] {
		if k != nothing {
			t.Errorf("%s: behind an answer stands %v", name, k)
			return
		}
	}
}

// clash fails unless Conflict answers want, the other way round, too.
func clash(t *testing.T, name string, a, b []api.Role, want bool) {
	t.Helper()
	if got := Conflict(a, b); got != want {
		t.Errorf("%s: Conflict = %t; want %t", name, got, want)
	}
	if got := Conflict(b, a); got != want {
		t.Errorf("%s, the other way round: Conflict = %t; want %t", name, got, want)
	}
}

// written fails unless Written answers these keys.
func written(t *testing.T, name string, l []api.Role, want []api.Key) {
	t.Helper()
	got := Written(l)
	if !slices.Equal(got, want) {
		t.Errorf("%s: Written = %v; want %v", name, got, want)
	}
	if len(got) == 0 && got != nil {
		t.Errorf("%s: Written answers an empty list that is no nil", name)
	}
	alone(t, name, got)
}

// P7.1

func TestKnownKeys(t *testing.T) {
	var noughts, three [32]byte
	three[0] = 3
	for range 2 {
		if k := System(); k != noughts {
			t.Errorf("System = %v", k)
		}
		if k := Budget(); k != three {
			t.Errorf("Budget = %v", k)
		}
	}
}

// P7.2

func TestExample(t *testing.T) {
	l := append(keys(3, 9), System())
	expect(t, "the example", message(2, 1, 1, l), nil, nil, roles(l, "sw", "s", "w", ""))
}

func TestOfHeaders(t *testing.T) {
	l := keys(4, 9)
	for name, k := range map[string]struct {
		signers, readSigned, readOther uint8
		want                           []string
	}{
		"all noughts":               {0, 0, 0, []string{"w", "w", "w", "w"}},
		"one signs":                 {1, 0, 0, []string{"sw", "w", "w", "w"}},
		"some sign":                 {3, 0, 0, []string{"sw", "sw", "sw", "w"}},
		"all sign":                  {4, 0, 0, []string{"sw", "sw", "sw", "sw"}},
		"more sign than there are":  {5, 0, 0, []string{"sw", "sw", "sw", "sw"}},
		"one is read":               {0, 0, 1, []string{"w", "w", "w", ""}},
		"all others are read":       {1, 0, 3, []string{"sw", "", "", ""}},
		"more others are read":      {1, 0, 4, []string{"sw", "", "", ""}},
		"most others are read":      {1, 0, 255, []string{"sw", "", "", ""}},
		"no others, many are read":  {4, 0, 255, []string{"sw", "sw", "sw", "sw"}},
		"a signer is read":          {3, 1, 0, []string{"sw", "sw", "s", "w"}},
		"all signers but one":       {3, 2, 1, []string{"sw", "s", "s", ""}},
		"all signers are read":      {3, 3, 0, []string{"s", "s", "s", "w"}},
		"more signers are read":     {3, 4, 0, []string{"s", "s", "s", "w"}},
		"most signers are read":     {3, 255, 0, []string{"s", "s", "s", "w"}},
		"no signers, many are read": {0, 255, 0, []string{"w", "w", "w", "w"}},
		// The last readers are counted of the signers that the header asks for, keys or not.
		"one key more is read":       {5, 1, 0, []string{"sw", "sw", "sw", "sw"}},
		"two keys more, three read":  {6, 3, 0, []string{"sw", "sw", "sw", "s"}},
		"as great as there may be":   {255, 255, 255, []string{"s", "s", "s", "s"}},
		"of as many all are written": {255, 0, 255, []string{"sw", "sw", "sw", "sw"}},
		"of as many two are written": {255, 253, 0, []string{"sw", "sw", "s", "s"}},
	} {
		expect(t, name, message(k.signers, k.readSigned, k.readOther, l), nil, nil, roles(l, k.want...))
	}
}

func TestOfKeysThatWereLookedUp(t *testing.T) {
	l, w, r := keys(2, 9), keys(2, 10), keys(3, 11)
	all := slices.Concat(l, w, r)
	expect(t, "both", message(1, 0, 1, l), w, r, roles(all, "sw", "", "w", "w", "", "", ""))
	expect(t, "a header that asks for all", message(255, 255, 255, l), w, r, roles(all, "s", "s", "w", "w", "", "", ""))
	expect(t, "a header that has others written", message(255, 0, 0, l), w, r, roles(all, "sw", "sw", "w", "w", "", "", ""))
	expect(t, "those that are written", message(0, 0, 0, l), w, nil, roles(slices.Concat(l, w), "w", "w", "w", "w"))
	expect(t, "those that are read", message(0, 0, 0, l), nil, r, roles(slices.Concat(l, r), "w", "w", "", "", ""))
	expect(t, "no key of its own", message(2, 0, 0, nil), w, r, roles(slices.Concat(w, r), "w", "w", "", "", ""))
	expect(t, "falling ones", message(1, 0, 0, []api.Key{{9}, {4}}), []api.Key{{8}, {2}}, []api.Key{{7}, {1}}, roles([]api.Key{{9}, {4}, {8}, {2}, {7}, {1}}, "sw", "w", "w", "w", "", ""))
}

func TestOfNothing(t *testing.T) {
	expect(t, "nothing", api.Message{}, nil, nil, nil)
	expect(t, "empty lists", message(3, 1, 1, []api.Key{}), []api.Key{}, []api.Key{}, nil)
}

// TestKnownOnesAreNotWritten has both known keys at each place.
func TestKnownOnesAreNotWritten(t *testing.T) {
	for _, known := range []api.Key{System(), Budget()} {
		for at := range 6 {
			all := keys(6, 9)
			all[at] = known
			words := []string{"sw", "sw", "w", "w", "w", ""}
			words[at] = map[bool]string{true: "s"}[at < 2]
			expect(t, "a known one", message(2, 0, 0, all[:3]), all[3:5], all[5:], roles(all, words...))
		}
	}
	l := []api.Key{System(), Budget()}
	expect(t, "both, signing", message(2, 0, 0, l), nil, nil, roles(l, "s", "s"))
	expect(t, "both, written", api.Message{}, l, nil, roles(l, "", ""))
	expect(t, "both, read", api.Message{}, nil, l, roles(l, "", ""))
}

func TestNearlyKnownOnesAreWritten(t *testing.T) {
	for _, known := range []api.Key{System(), Budget()} {
		for _, k := range near(known) {
			l := []api.Key{k}
			expect(t, "signing", message(1, 0, 0, l), nil, nil, roles(l, "sw"))
			expect(t, "another one", message(0, 0, 0, l), nil, nil, roles(l, "w"))
			expect(t, "looked up", api.Message{}, l, nil, roles(l, "w"))
		}
	}
	for first := range 256 {
		k, word := api.Key{byte(first)}, "w"
		if first == 0 || first == 3 {
			word = ""
		}
		expect(t, "of one byte", message(0, 0, 0, []api.Key{k}), nil, nil, roles([]api.Key{k}, word))
	}
}

// TestOfTwice has one key at each two places, whoever is to write it; known ones, too.
func TestOfTwice(t *testing.T) {
	for _, twice := range []api.Key{{7}, System(), Budget(), {31: 1}} {
		for i := range 9 {
			for j := range i {
				all := keys(9, 9)
				all[i], all[j] = twice, twice
				for _, signers := range []uint8{0, 2, 255} {
					refuse(t, "twice", message(signers, 1, 1, all[:3]), all[3:6], all[6:])
				}
			}
		}
	}
	refuse(t, "all of one", message(1, 0, 0, make([]api.Key, 5)), make([]api.Key, 5), make([]api.Key, 5))
}

func TestAlikeIsNotTwice(t *testing.T) {
	for _, k := range []api.Key{{7, 7, 7}, System(), Budget()} {
		for _, other := range near(k) {
			one, two := []api.Key{k}, []api.Key{other}
			for _, lists := range [][3][]api.Key{{{k, other}, nil, nil}, {nil, {k, other}, nil}, {nil, nil, {k, other}}, {one, two, nil}, {one, nil, two}, {nil, one, two}} {
				m := message(1, 0, 0, lists[0])
				want, _ := cast(m, lists[1], lists[2])
				expect(t, "alike", m, lists[1], lists[2], want)
			}
		}
	}
}

// TestOfLooksAtNothingElse has messages that differ in all but header and keys.
func TestOfLooksAtNothingElse(t *testing.T) {
	l, w, r := keys(3, 9), keys(1, 10), keys(1, 11)
	want := roles(slices.Concat(l, w, r), "sw", "s", "", "w", "")
	for _, v0 := range []bool{false, true} {
		m := message(2, 1, 1, l)
		m.V0, m.Recent = v0, api.Hash{5}
		expect(t, "without instructions", m, w, r, want)
		m.Instrs = []api.Instr{{Program: 200, Accounts: []byte{0, 1, 255}, Data: []byte{1}}, {}}
		m.Lookups = []api.Lookup{{Table: l[0], Writes: []byte{0, 1}, Reads: []byte{9}}, {}}
		expect(t, "with all", m, w, r, want)
	}
}

func TestOfVeryMany(t *testing.T) {
	l, w, r := keys(70000, 9), keys(70000, 10), keys(70000, 11)
	var want []api.Role
	for i, k := range l {
		want = append(want, api.Role{Key: k, Signs: i < 200, Writes: i < 150 || i >= 200 && i < 69900})
	}
	for _, k := range w {
		want = append(want, api.Role{Key: k, Writes: true})
	}
	for _, k := range r {
		want = append(want, api.Role{Key: k})
	}
	got, e := Of(message(200, 50, 100, l), w, r)
	if e != api.OK || !slices.Equal(got, want) {
		t.Errorf("Of = %d roles, %d", len(got), e)
	}
	r[69999] = l[0]
	refuse(t, "the first is the last", message(200, 50, 100, l), w, r)
	if !Conflict(want, want[:1]) || Conflict(want[140000:], want[140000:]) || !slices.Equal(Written(want), slices.Concat(l[:150], l[200:69900], w)) {
		t.Error("Conflict, or Written, of very many")
	}
}

func TestOfLeavesWhatIsHandedIn(t *testing.T) {
	for _, twice := range []bool{false, true} {
		made := func() (api.Message, []api.Key, []api.Key, []api.Key) {
			room := keys(12, 9)
			if twice {
				room[8] = room[0]
			}
			m := message(2, 1, 1, room[:4])
			m.Lookups = []api.Lookup{{Writes: []byte{1, 0}}}
			return m, room[4:7], room[7:10], room
		}
		m, w, r, room := made()
		l, _ := Of(m, w, r)
		for i := range l {
			l[i] = api.Role{Key: api.Key{250}}
		}
		wantM, _, _, wantRoom := made()
		if !reflect.DeepEqual(m, wantM) || !slices.Equal(room, wantRoom) {
			t.Errorf("Of made of the message %v, of the keys %v", m, room)
		}
	}
}

func TestOfAnswersMemoryOfItsOwn(t *testing.T) {
	for many := range 40 {
		m, w, r := message(1, 0, 0, keys(many, 9)), keys(many/2, 10), keys(many/3, 11)
		one, _ := Of(m, w, r)
		want := slices.Clone(one)
		other, _ := Of(m, w, r)
		for i := range one {
			one[i] = api.Role{Key: api.Key{250}}
		}
		for _, l := range [][]api.Key{m.Keys, w, r} {
			clear(l)
		}
		if !slices.Equal(other, want) {
			t.Errorf("%d keys: an answer shares memory", many)
		}
		alone(t, "an answer", other)
	}
}

// cast is what Of must answer, built otherwise: the header's words are written out one behind the other, as many as it asks for, and handed to the keys in order.
func cast(m api.Message, writes, reads []api.Key) ([]api.Role, api.Errno) {
	n, h := len(m.Keys), m.Header
	var words []string
	for left := int(h.Signers); left > 0; left-- {
		words = append(words, map[bool]string{true: "s", false: "sw"}[left <= int(h.ReadSigned)])
	}
	for len(words) < n {
		words = append(words, map[bool]string{true: "", false: "w"}[n-len(words) <= int(h.ReadOther)])
	}
	words = words[:n]
	words = append(words, slices.Repeat([]string{"w"}, len(writes))...)
	words = append(words, slices.Repeat([]string{""}, len(reads))...)
	all := slices.Concat(m.Keys, writes, reads)
	l := roles(all, words...)
	for i, k := range all {
		if slices.Contains(all[:i], k) {
			return nil, api.ErrTwice
		}
		if slices.Equal(k[1:], make([]byte, 31)) && (k[0] == 0 || k[0] == 3) {
			l[i].Writes = false
		}
	}
	return l, api.OK
}

// TestAgainstACast goes through headers of all edges, and few keys.
func TestAgainstACast(t *testing.T) {
	edges := []uint8{0, 1, 2, 3, 4, 5, 6, 7, 8, 126, 127, 128, 129, 250, 251, 252, 253, 254, 255}
	known := []api.Key{System(), Budget()}
	for many := range 8 {
		for _, signers := range edges {
			for _, readSigned := range edges {
				for _, readOther := range edges {
					l := keys(many, 9) // with known ones among them, now here, now there
					if many > 2 {
						copy(l[(int(signers)+int(readOther))%(many-1):], known)
					}
					m := message(signers, readSigned, readOther, l)
					w, r := keys(many%3, 10), keys(many%2, 11)
					want, _ := cast(m, w, r)
					expect(t, "a header", m, w, r, want)
				}
			}
		}
	}
}

// P7.3

func TestConflict(t *testing.T) {
	x, y, z := api.Key{7}, api.Key{8}, api.Key{9}
	both, all := []api.Key{x, y}, []api.Key{x, y, z}
	for name, k := range map[string]struct {
		a, b []api.Role
		want bool
	}{
		"nobody":                  {nil, nil, false},
		"empty lists":             {[]api.Role{}, []api.Role{}, false},
		"nobody and one":          {nil, roles(both, "sw", "w"), false},
		"both read":               {roles(all, "", "s", ""), roles(all, "s", "", ""), false},
		"one of both writes":      {roles(both, "w", ""), roles(both, "", ""), true},
		"one signs and writes":    {roles(both, "", "sw"), roles(both, "", "s"), true},
		"both write":              {roles(both, "w", ""), roles(both, "w", ""), true},
		"other keys":              {roles(both, "w", "w"), roles([]api.Key{z}, "w"), false},
		"another one is written":  {roles(both, "w", ""), roles([]api.Key{y, z}, "", "w"), false},
		"the last of both":        {roles(all, "", "", "w"), roles([]api.Key{z, y, x}, "", "", ""), true},
		"the first of one":        {roles(all, "w", "", ""), roles([]api.Key{{1}, {2}, x}, "w", "w", ""), true},
		"a key of noughts":        {roles([]api.Key{{}}, "w"), roles([]api.Key{{}}, ""), true},
		"no key of noughts":       {roles([]api.Key{x}, "w"), roles([]api.Key{{}}, "w"), false},
		"twice, written first":    {roles([]api.Key{x, x}, "w", ""), roles([]api.Key{x}, ""), true},
		"twice, written last":     {roles([]api.Key{x, x}, "", "w"), roles([]api.Key{x}, ""), true},
		"twice in both, read":     {roles([]api.Key{x, x}, "", ""), roles([]api.Key{x, x}, "s", "s"), false},
		"twice, and another one":  {roles([]api.Key{x, x}, "w", "w"), roles([]api.Key{y, y}, "w", "w"), false},
		"written where it is not": {roles([]api.Key{x, y}, "w", ""), roles([]api.Key{y}, "s"), false},
	} {
		clash(t, name, k.a, k.b, k.want)
	}
}

func TestConflictHangsOnEachByte(t *testing.T) {
	k := api.Key{1, 2, 3}
	clash(t, "one key", roles([]api.Key{k}, "w"), roles([]api.Key{k}, ""), true)
	for _, other := range near(k) {
		clash(t, "nearly one key", roles([]api.Key{k}, "w"), roles([]api.Key{other}, "w"), false)
	}
}

func TestWritten(t *testing.T) {
	x, y, z := api.Key{9}, api.Key{7}, api.Key{8}
	all := []api.Key{x, y, z}
	written(t, "nobody", nil, nil)
	written(t, "an empty list", []api.Role{}, nil)
	written(t, "none", roles(all, "", "s", ""), nil)
	written(t, "one", roles(all, "", "sw", "s"), []api.Key{y})
	written(t, "some", roles(all, "sw", "s", "w"), []api.Key{x, z})
	written(t, "all, in order", roles(all, "w", "sw", "w"), all)
	written(t, "one, twice", roles([]api.Key{x, y, x}, "w", "", "w"), []api.Key{x, x})
	written(t, "a key of noughts", roles([]api.Key{x, {}}, "", "w"), []api.Key{{}})
}

func TestListsAreLeft(t *testing.T) {
	for many := 1; many < 40; many++ {
		made := func() []api.Role {
			words := slices.Repeat([]string{"w", "s", "sw", ""}, many)
			return roles(keys(many, 9), words[:many]...)
		}
		room := made()
		l := Written(room)
		want := slices.Clone(l)
		other := Written(room)
		clear(l)
		if !slices.Equal(other, want) {
			t.Errorf("%d roles: two answers share memory", many)
		}
		Conflict(room, room[:many/2])
		Conflict(room[:many/2], room)
		if !slices.Equal(room, made()) {
			t.Errorf("of %d roles was made %v", many, room)
		}
		clear(room)
		if !slices.Equal(other, want) {
			t.Errorf("%d roles: an answer shares memory with them", many)
		}
	}
}

// P7.4

// draw answers numbers below n by a fixed rule.
func draw(seed uint32) func(n int) int {
	return func(n int) int {
		seed = seed*1664525 + 1013904223
		return int(seed>>8) % n
	}
}

// drawn are some roles of few keys, some of which stand there twice; so often one writes.
func drawn(next func(n int) int, great, often int) (l []api.Role) {
	for range next(6) {
		l = append(l, api.Role{Key: api.Key{byte(next(great))}, Signs: next(2) == 0, Writes: next(often) == 1})
	}
	return l
}

// meddle tells whether both conflict, by holding each role against each.
func meddle(a, b []api.Role) bool {
	for _, x := range a {
		for _, y := range b {
			if x.Key == y.Key && (x.Writes || y.Writes) {
				return true
			}
		}
	}
	return false
}

func TestConflictOfDrawnOnes(t *testing.T) {
	next := draw(7)
	told := map[bool]int{}
	for range 20000 {
		a, b := drawn(next, 12, 3), drawn(next, 12, 3)
		want := meddle(a, b)
		told[want]++
		clash(t, "drawn", a, b, want)
		clash(t, "with itself", a, slices.Clone(a), len(Written(a)) > 0)
		for i := range a {
			a[i].Writes = false
		}
		for i := range b {
			b[i].Writes = false
		}
		clash(t, "with nobody who writes", a, b, false)
	}
	if told[true] < 4000 || told[false] < 4000 {
		t.Errorf("only these were drawn: %v", told)
	}
}

// TestDrawnMessages takes messages through all calls, one after the other.
func TestDrawnMessages(t *testing.T) {
	next := draw(77)
	some := func(most int) (l []api.Key) {
		for range next(most) {
			l = append(l, api.Key{byte(next(20))})
		}
		return l
	}
	told := map[api.Errno]int{}
	var last []api.Role
	for range 20000 {
		m, w, r := message(uint8(next(4)), uint8(next(3)), uint8(next(3)), some(5)), some(3), some(3)
		want, e := cast(m, w, r)
		told[e]++
		if e != api.OK {
			refuse(t, "drawn", m, w, r)
			continue
		}
		expect(t, "drawn", m, w, r, want)
		var keys []api.Key
		for _, k := range want {
			if k.Writes {
				keys = append(keys, k.Key)
			}
		}
		written(t, "drawn", want, keys)
		clash(t, "with itself", want, want, len(keys) > 0)
		clash(t, "with the last one", want, last, meddle(want, last))
		last = want
	}
	if told[api.OK] < 2000 || told[api.ErrTwice] < 2000 {
		t.Errorf("only these were drawn: %v", told)
	}
}
