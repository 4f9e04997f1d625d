package tables

import (
	"reflect"
	"slices"
	"testing"

	"ferryhouse/api"
)

// keys are so many, no two alike; those of another mark are others.
func keys(many int, mark byte) (l []api.Key) {
	for i := range many {
		l = append(l, api.Key{mark, byte(i), byte(i >> 8), byte(i >> 16)})
	}
	return l
}

// notThere are registries that New did not make.
func notThere() map[string]*Registry {
	return map[string]*Registry{"nil": nil, "a registry of noughts": {}}
}

// put fails unless Put answers e.
func put(t *testing.T, r *Registry, table api.Key, l []api.Key, e api.Errno) {
	t.Helper()
	if got := r.Put(table, l); got != e {
		t.Errorf("Put of %v, %d keys = %d; want %d", table[:2], len(l), got, e)
	}
}

// find fails unless Find answers these keys.
func find(t *testing.T, r *Registry, table api.Key, want []api.Key) {
	t.Helper()
	got, e := r.Find(table)
	if e != api.OK || !slices.Equal(got, want) {
		t.Errorf("Find of %v = %d keys, %d; want %d", table[:2], len(got), e, len(want))
	}
	alone(t, got)
}

// lacks fails unless Find answers that there is no such table.
func lacks(t *testing.T, r *Registry, table api.Key) {
	t.Helper()
	if got, e := r.Find(table); got != nil || e != api.ErrNone {
		t.Errorf("Find of %v = %d keys, %d; want none, %d", table[:2], len(got), e, api.ErrNone)
	}
}

// resolve fails unless Resolve answers these.
func resolve(t *testing.T, name string, r *Registry, l []api.Lookup, writes, reads []api.Key, e api.Errno) {
	t.Helper()
	w, d, got := r.Resolve(l)
	if !slices.Equal(w, writes) || !slices.Equal(d, reads) || got != e {
		t.Errorf("%s: Resolve = %v, %v, %d; want %v, %v, %d", name, w, d, got, writes, reads, e)
	}
	if len(w) == 0 && w != nil || len(d) == 0 && d != nil {
		t.Errorf("%s: Resolve answers empty lists that are no nil", name)
	}
	alone(t, w)
	alone(t, d)
}

// alone fails if something stands behind an answer.
func alone(t *testing.T, l []api.Key) {
	t.Helper()
	for _, k := range l[len(l):cap(l)] {
		if k != (api.Key{}) {
			t.Errorf("behind an answer stands %v", k)
			return
		}
	}
}

// scrawl spoils a list, and its room behind.
func scrawl(l []api.Key) {
	l = l[:cap(l)]
	for i := range l {
		l[i] = api.Key{250, 251}
	}
}

// P6.1

func TestNewHasNoTables(t *testing.T) {
	r := New()
	if r == nil {
		t.Fatal("New = nil")
	}
	for _, k := range append(keys(20, 0), keys(20, 3)...) {
		lacks(t, r, k)
	}
	put(t, r, api.Key{}, keys(1, 9), api.OK)
	lacks(t, New(), api.Key{})
}

func TestPutTakesAsManyAsMayBe(t *testing.T) {
	r := New()
	for i, many := range []int{0, 1, 2, 63, 64, 65, 127, 128, 255, api.MaxTable, api.MaxTable + 1, 300, 512, 1000, 65535, 65536, 65792} {
		table, l := api.Key{byte(i)}, keys(many, 5)
		if many == 0 || many > api.MaxTable {
			put(t, r, table, l, api.ErrArg)
			lacks(t, r, table)
			put(t, r, table, keys(3, 6), api.OK) // what was refused is not there
			find(t, r, table, keys(3, 6))
			continue
		}
		put(t, r, table, l, api.OK)
		find(t, r, table, l)
	}
	put(t, r, api.Key{99}, []api.Key{}, api.ErrArg)
	lacks(t, r, api.Key{99})
}

func TestPutTakesWhateverKeys(t *testing.T) {
	for name, l := range map[string][]api.Key{
		"a key of noughts":   {{}},
		"one key, twice":     {{4}, {4}, {5}, {4}},
		"the table's own":    {{7}, {8}},
		"as many of one":     make([]api.Key, api.MaxTable),
		"falling ones":       {{9}, {5}, {3}, {1}},
		"of their last byte": {{31: 1}, {31: 2}, {31: 255}},
	} {
		r := New()
		if e := r.Put(api.Key{7}, l); e != api.OK {
			t.Errorf("%s: Put = %d", name, e)
		}
		find(t, r, api.Key{7}, l)
	}
}

func TestTablesHangOnEachByte(t *testing.T) {
	r := New()
	put(t, r, api.Key{}, keys(1, 1), api.OK)
	for i := range (api.Key{}) {
		var table api.Key
		table[i] = 128
		lacks(t, r, table)
		put(t, r, table, keys(i+2, byte(i)), api.OK)
	}
	find(t, r, api.Key{}, keys(1, 1))
	for i := range (api.Key{}) {
		var table api.Key
		table[i] = 128
		find(t, r, table, keys(i+2, byte(i)))
	}
}

// TestTablesNeverChange puts once more what is there.
func TestTablesNeverChange(t *testing.T) {
	r := New()
	put(t, r, api.Key{7}, keys(3, 1), api.OK)
	for _, l := range [][]api.Key{keys(3, 1), keys(3, 2), keys(1, 1), keys(api.MaxTable, 2)} {
		put(t, r, api.Key{7}, l, api.ErrThere)
		find(t, r, api.Key{7}, keys(3, 1))
	}
	for _, l := range [][]api.Key{nil, {}, keys(api.MaxTable+1, 2)} {
		put(t, r, api.Key{7}, l, api.ErrArg) // it counts ahead of ErrThere
		find(t, r, api.Key{7}, keys(3, 1))
	}
}

func TestPutLeavesWhatIsHandedIn(t *testing.T) {
	r := New()
	room := keys(10, 1)
	l := room[2:5]
	put(t, r, api.Key{7}, l, api.OK)
	put(t, r, api.Key{7}, l, api.ErrThere)
	put(t, r, api.Key{8}, l[:0], api.ErrArg)
	if !slices.Equal(room, keys(10, 1)) {
		t.Errorf("Put made of the keys %v", room)
	}
	scrawl(room)
	find(t, r, api.Key{7}, keys(10, 1)[2:5])
	resolve(t, "what was handed in", r, []api.Lookup{{Table: api.Key{7}, Writes: []byte{0, 1, 2}}}, keys(10, 1)[2:5], nil, api.OK)
}

func TestCopyHasTheSameTables(t *testing.T) {
	r := New()
	tables := keys(40, 3)
	for i, table := range tables {
		put(t, r, table, keys(i+1, byte(i)), api.OK)
	}
	for name, o := range map[string]*Registry{"a copy": r.Copy(), "a copy's copy": r.Copy().Copy()} {
		if o == r {
			t.Fatalf("%s is the registry itself", name)
		}
		for i, table := range tables {
			find(t, o, table, keys(i+1, byte(i)))
			put(t, o, table, keys(2, 77), api.ErrThere)
			find(t, o, table, keys(i+1, byte(i)))
		}
		lacks(t, o, api.Key{})
		put(t, o, api.Key{}, keys(1, 1), api.OK)
	}
}

func TestCopyIsItsOwn(t *testing.T) {
	for name, many := range map[string]int{"of none": 0, "of one": 1, "of some": 30} {
		r := New()
		for i, table := range keys(many, 3) {
			put(t, r, table, keys(i+1, 4), api.OK)
		}
		o := r.Copy()
		if o == nil {
			t.Fatalf("a copy %s is nil", name)
		}
		p := o.Copy()
		put(t, r, api.Key{50}, keys(1, 1), api.OK)
		lacks(t, o, api.Key{50})
		lacks(t, p, api.Key{50})
		put(t, o, api.Key{51}, keys(2, 1), api.OK)
		put(t, o, api.Key{50}, keys(2, 2), api.OK)
		lacks(t, r, api.Key{51})
		lacks(t, p, api.Key{51})
		find(t, r, api.Key{50}, keys(1, 1))
		find(t, o, api.Key{50}, keys(2, 2))
		put(t, p, api.Key{50}, keys(3, 3), api.OK)
		find(t, p, api.Key{50}, keys(3, 3))
		find(t, r, api.Key{50}, keys(1, 1))
		for i, table := range keys(many, 3) {
			l, _ := o.Find(table)
			scrawl(l)
			w, _, _ := p.Resolve([]api.Lookup{{Table: table, Writes: []byte{0}}})
			scrawl(w)
			for _, g := range []*Registry{r, o, p} {
				find(t, g, table, keys(i+1, 4))
			}
		}
	}
}

func TestWhatIsNotThere(t *testing.T) {
	for name, r := range notThere() {
		for _, l := range [][]api.Key{nil, keys(1, 1), keys(api.MaxTable+1, 1)} {
			for range 2 {
				if e := r.Put(api.Key{7}, l); e != api.ErrNil {
					t.Errorf("%s: Put of %d keys = %d", name, len(l), e)
				}
			}
		}
		if l, e := r.Find(api.Key{7}); l != nil || e != api.ErrNil {
			t.Errorf("%s: Find = %v, %d", name, l, e)
		}
		for _, l := range [][]api.Lookup{nil, {{}}, {{Table: api.Key{7}, Writes: []byte{0}, Reads: []byte{255}}}} {
			resolve(t, name, r, l, nil, nil, api.ErrNil)
		}
		if o := r.Copy(); o != nil {
			t.Errorf("%s: Copy = %v", name, o)
		}
	}
}

// P6.2

func TestFindAnswersMemoryOfItsOwn(t *testing.T) {
	r := New()
	for many := 1; many <= api.MaxTable; many++ {
		table := api.Key{1, byte(many), byte(many >> 8)}
		put(t, r, table, keys(many, 2), api.OK)
		one, _ := r.Find(table)
		other, _ := r.Find(table)
		scrawl(one)
		if !slices.Equal(other, keys(many, 2)) {
			t.Errorf("%d keys: two answers share memory", many)
		}
		find(t, r, table, keys(many, 2))
	}
}

// P6.3

// known has tables a (three keys), b (two), c (one), and all (as many as may be).
func known(t *testing.T) (r *Registry, a, b, c, all api.Key) {
	t.Helper()
	r, a, b, c, all = New(), api.Key{1, 1}, api.Key{1, 2}, api.Key{1, 3}, api.Key{1, 4}
	put(t, r, a, []api.Key{{10}, {11}, {12}}, api.OK)
	put(t, r, b, []api.Key{{20}, {21}}, api.OK)
	put(t, r, c, []api.Key{{10}}, api.OK)
	put(t, r, all, keys(api.MaxTable, 40), api.OK)
	return r, a, b, c, all
}

func TestResolveInOrder(t *testing.T) {
	r, a, b, c, all := known(t)
	for name, k := range map[string]struct {
		l             []api.Lookup
		writes, reads []api.Key
	}{
		"nothing":             {},
		"an empty list":       {l: []api.Lookup{}},
		"lookups of no keys":  {l: []api.Lookup{{Table: a}, {Table: b, Writes: []byte{}, Reads: []byte{}}}},
		"the example":         {[]api.Lookup{{Table: a, Writes: []byte{2}, Reads: []byte{0, 1}}}, []api.Key{{12}}, []api.Key{{10}, {11}}},
		"written ones":        {[]api.Lookup{{Table: a, Writes: []byte{1, 2, 0}}}, []api.Key{{11}, {12}, {10}}, nil},
		"read ones":           {[]api.Lookup{{Table: a, Reads: []byte{2, 0, 1}}}, nil, []api.Key{{12}, {10}, {11}}},
		"one index, often":    {[]api.Lookup{{Table: a, Writes: []byte{1, 1}, Reads: []byte{1, 0, 1}}}, []api.Key{{11}, {11}}, []api.Key{{11}, {10}, {11}}},
		"one table, twice":    {[]api.Lookup{{Table: a, Writes: []byte{2}}, {Table: a, Writes: []byte{0}, Reads: []byte{2}}}, []api.Key{{12}, {10}}, []api.Key{{12}}},
		"tables, in order":    {[]api.Lookup{{Table: b, Writes: []byte{1}, Reads: []byte{0}}, {Table: a, Writes: []byte{2, 0}, Reads: []byte{1}}, {Table: c, Writes: []byte{0}}}, []api.Key{{21}, {12}, {10}, {10}}, []api.Key{{20}, {11}}},
		"tables, other order": {[]api.Lookup{{Table: c, Writes: []byte{0}}, {Table: a, Writes: []byte{2, 0}, Reads: []byte{1}}, {Table: b, Writes: []byte{1}, Reads: []byte{0}}}, []api.Key{{10}, {12}, {10}, {21}}, []api.Key{{11}, {20}}},
		"the last keys":       {[]api.Lookup{{Table: all, Writes: []byte{255, 0}, Reads: []byte{254, 255}}, {Table: c, Reads: []byte{0}}}, []api.Key{{40, 255}, {40}}, []api.Key{{40, 254}, {40, 255}, {10}}},
	} {
		resolve(t, name, r, k.l, k.writes, k.reads, api.OK)
	}
}

// TestResolveOfEachIndex has tables of all sizes, and asks for each index, as one that is written and as one that is read.
func TestResolveOfEachIndex(t *testing.T) {
	for many := 1; many <= api.MaxTable; many++ {
		r, l := New(), keys(many, 6)
		put(t, r, api.Key{7}, l, api.OK)
		for i := range 256 {
			wl := []api.Lookup{{Table: api.Key{7}, Writes: []byte{0, byte(i)}}}
			rl := []api.Lookup{{Table: api.Key{7}, Reads: []byte{byte(i), 0}}}
			if i < many {
				resolve(t, "a key", r, wl, []api.Key{l[0], l[i]}, nil, api.OK)
				resolve(t, "a key", r, rl, nil, []api.Key{l[i], l[0]}, api.OK)
			} else {
				resolve(t, "no key", r, wl, nil, nil, api.ErrIndex)
				resolve(t, "no key", r, rl, nil, nil, api.ErrIndex)
			}
		}
	}
}

func TestResolveOfVeryMany(t *testing.T) {
	r, _, _, _, all := known(t)
	l := api.Lookup{Table: all}
	var writes, reads []api.Key
	for i := range 100000 {
		w, d := byte(i), byte(i%7)
		l.Writes, l.Reads = append(l.Writes, w), append(l.Reads, d)
		writes, reads = append(writes, api.Key{40, w}), append(reads, api.Key{40, d})
	}
	w, d, e := r.Resolve([]api.Lookup{l, l})
	if e != api.OK || !slices.Equal(w, slices.Repeat(writes, 2)) || !slices.Equal(d, slices.Repeat(reads, 2)) {
		t.Errorf("Resolve = %d keys, %d keys, %d", len(w), len(d), e)
	}
}

func TestResolveTellsTheFirstFault(t *testing.T) {
	r, a, b, c, _ := known(t)
	fine := api.Lookup{Table: a, Writes: []byte{0, 2}, Reads: []byte{1}}
	none := api.Lookup{Table: api.Key{9}, Writes: []byte{0}}
	for name, k := range map[string]struct {
		l []api.Lookup
		e api.Errno
	}{
		"no table":                           {[]api.Lookup{none}, api.ErrNone},
		"no table, and no keys":              {[]api.Lookup{{Table: api.Key{9}}}, api.ErrNone},
		"no table of noughts":                {[]api.Lookup{{}}, api.ErrNone},
		"no table, indices too great":        {[]api.Lookup{{Table: api.Key{9}, Writes: []byte{255}, Reads: []byte{255}}}, api.ErrNone},
		"a written index":                    {[]api.Lookup{{Table: a, Writes: []byte{3}}}, api.ErrIndex},
		"a written index, not first":         {[]api.Lookup{{Table: a, Writes: []byte{0, 1, 255}, Reads: []byte{0}}}, api.ErrIndex},
		"a read index":                       {[]api.Lookup{{Table: a, Reads: []byte{3}}}, api.ErrIndex},
		"a read index behind written ones":   {[]api.Lookup{{Table: a, Writes: []byte{0}, Reads: []byte{0, 3, 1}}}, api.ErrIndex},
		"an index of another table":          {[]api.Lookup{{Table: b, Writes: []byte{2}}, {Table: a, Writes: []byte{2}}}, api.ErrIndex},
		"behind a lookup that is fine":       {[]api.Lookup{fine, {Table: c, Reads: []byte{1}}}, api.ErrIndex},
		"ahead of a lookup that is fine":     {[]api.Lookup{{Table: c, Reads: []byte{1}}, fine}, api.ErrIndex},
		"no table behind one that is fine":   {[]api.Lookup{fine, fine, none}, api.ErrNone},
		"no table ahead of one that is fine": {[]api.Lookup{none, fine}, api.ErrNone},
		"an index, then no table":            {[]api.Lookup{{Table: b, Reads: []byte{2}}, none}, api.ErrIndex},
		"no table, then an index":            {[]api.Lookup{none, {Table: b, Writes: []byte{2}}}, api.ErrNone},
		"fine, an index, no table":           {[]api.Lookup{fine, {Table: b, Writes: []byte{2}}, none}, api.ErrIndex},
		"fine, no table, an index":           {[]api.Lookup{fine, none, {Table: b, Writes: []byte{2}}}, api.ErrNone},
	} {
		resolve(t, name, r, k.l, nil, nil, k.e)
	}
}

func TestResolveLeavesWhatIsHandedIn(t *testing.T) {
	r, a, b, _, _ := known(t)
	for _, last := range []byte{1, 2} { // with an index that is none, too
		made := func() []api.Lookup {
			room := []byte{2, 0, 1, 0, last, 7, 7}
			return []api.Lookup{{Table: a, Writes: room[:2], Reads: room[2:3]}, {Table: b, Writes: room[3:4], Reads: room[4:5]}}
		}
		l := made()
		if r.Resolve(l); !reflect.DeepEqual(l, made()) || !slices.Equal(l[0].Writes[:7], made()[0].Writes[:7]) {
			t.Errorf("Resolve made of the lookups %v", l)
		}
	}
}

func TestResolveAnswersMemoryOfItsOwn(t *testing.T) {
	r, a, b, _, all := known(t)
	l := []api.Lookup{{Table: a, Writes: []byte{0, 1, 2}, Reads: []byte{0, 1, 2}}, {Table: b, Writes: []byte{1, 0}, Reads: []byte{1, 0}}}
	var whole []byte
	for i := range 256 {
		whole = append(whole, byte(i))
	}
	for _, l := range [][]api.Lookup{l[:1], l[1:], l, {{Table: all, Writes: whole}}, {{Table: all, Reads: whole}}, {{Table: all, Writes: whole, Reads: whole}}} {
		writes, reads, _ := r.Resolve(l)
		wantWrites, wantReads := slices.Clone(writes), slices.Clone(reads)
		scrawl(writes)
		if !slices.Equal(reads, wantReads) {
			t.Errorf("%d lookups: what is written shares memory with what is read", len(l))
		}
		scrawl(reads)
		resolve(t, "once more", r, l, wantWrites, wantReads, api.OK)
	}
	find(t, r, a, []api.Key{{10}, {11}, {12}})
	find(t, r, b, []api.Key{{20}, {21}})
	find(t, r, all, keys(api.MaxTable, 40))
}

// P6.4

// shelf is what a registry must be, built otherwise: a list of pairs that is gone through.
type shelf []struct {
	table api.Key
	keys  []api.Key
}

func (s shelf) find(table api.Key) ([]api.Key, api.Errno) {
	for _, k := range s {
		if k.table == table {
			return k.keys, api.OK
		}
	}
	return nil, api.ErrNone
}

// put answers the shelf with a table more, if it may be.
func (s shelf) put(table api.Key, l []api.Key) (shelf, api.Errno) {
	if len(l) < 1 || len(l) >= api.MaxTable+1 {
		return s, api.ErrArg
	}
	if _, e := s.find(table); e == api.OK {
		return s, api.ErrThere
	}
	more := slices.Clone(s)
	return append(more, shelf{{table, slices.Clone(l)}}...), api.OK
}

// resolve goes over the lookups from behind: the fault that it meets last is the first one.
func (s shelf) resolve(l []api.Lookup) (writes, reads []api.Key, e api.Errno) {
	for _, lookup := range slices.Backward(l) {
		table, none := s.find(lookup.Table)
		if none != api.OK {
			e = none
		}
		at := func(indices []byte) (l []api.Key) {
			for _, i := range indices {
				if none == api.OK && int(i) > len(table)-1 {
					e = api.ErrIndex
				}
				if e == api.OK {
					l = append(l, table[i])
				}
			}
			return l
		}
		writes, reads = append(at(lookup.Writes), writes...), append(at(lookup.Reads), reads...)
	}
	if e != api.OK {
		return nil, nil, e
	}
	return writes, reads, api.OK
}

// draw answers numbers below n by a fixed rule.
func draw(seed uint32) func(n int) int {
	return func(n int) int {
		seed = seed*1664525 + 1013904223
		return int(seed>>8) % n
	}
}

// drawn are lookups, most of which can be resolved where all tables have some keys.
func drawn(next func(n int) int, tables, great int) (l []api.Lookup) {
	for range next(4) {
		one := api.Lookup{Table: api.Key{byte(next(tables))}}
		for range next(4) {
			one.Writes = append(one.Writes, byte(next(great)))
		}
		for range next(4) {
			one.Reads = append(one.Reads, byte(next(great)))
		}
		l = append(l, one)
	}
	return l
}

// TestAgainstAShelf has registries and their copies take, and answer, what shelves do; and each answer again behind all else.
func TestAgainstAShelf(t *testing.T) {
	type asked struct {
		r             *Registry
		l             []api.Lookup
		writes, reads []api.Key
	}
	next := draw(6)
	told := map[api.Errno]int{}
	for range 60 {
		all, shelves := []*Registry{New()}, []shelf{{}}
		var could []asked
		for range 120 {
			i := next(len(all))
			switch next(12) {
			case 0:
				if len(all) < 5 {
					all, shelves = append(all, all[i].Copy()), append(shelves, shelves[i])
				}
			case 1, 2:
				table, l := api.Key{byte(next(8))}, keys(next(6), byte(next(200)))
				if next(5) == 0 {
					l = keys(api.MaxTable-1+next(3), byte(next(200)))
				}
				var e api.Errno
				shelves[i], e = shelves[i].put(table, l)
				put(t, all[i], table, l, e)
				told[e]++
			case 3:
				table := api.Key{byte(next(8))}
				if l, e := shelves[i].find(table); e == api.OK {
					find(t, all[i], table, l)
				} else {
					lacks(t, all[i], table)
				}
			default:
				l := drawn(next, 8, 4)
				writes, reads, e := shelves[i].resolve(l)
				resolve(t, "drawn", all[i], l, writes, reads, e)
				told[e]++
				if e == api.OK {
					could = append(could, asked{all[i], l, writes, reads})
				}
			}
		}
		for _, k := range could {
			resolve(t, "with more tables", k.r, k.l, k.writes, k.reads, api.OK)
		}
	}
	for _, e := range []api.Errno{api.OK, api.ErrArg, api.ErrThere, api.ErrNone, api.ErrIndex} {
		if told[e] < 100 {
			t.Errorf("error %d was drawn only %d times", e, told[e])
		}
	}
}

func TestListsBehindEachOther(t *testing.T) {
	next := draw(64)
	r := New()
	for i := range 6 {
		put(t, r, api.Key{byte(i)}, keys(3+i, byte(i)), api.OK)
	}
	both := map[[2]api.Errno]int{}
	for range 20000 {
		one, other := drawn(next, 7, 4), drawn(next, 7, 4)
		w1, r1, e1 := r.Resolve(one)
		w2, r2, e2 := r.Resolve(other)
		both[[2]api.Errno{e1, e2}]++
		writes, reads, e := slices.Concat(w1, w2), slices.Concat(r1, r2), e1
		if e == api.OK {
			e = e2
		}
		if e != api.OK {
			writes, reads = nil, nil
		}
		resolve(t, "two lists", r, slices.Concat(one, other), writes, reads, e)
	}
	if len(both) != 9 {
		t.Errorf("only these were drawn: %v", both)
	}
}
