package tests

import (
	"math"
	"math/rand"
	"reflect"
	"sort"
	"sync"
	"testing"

	"loop.example/g00331/impl"
)

// plainStore has something of each: on 10 a put, a lock alone, a delete, one taken back, another put; on 20 a lock;
// on 21 a lock that puts; on 0 and 189 the ends of the keys, with the ends of all numbers.
func plainStore() impl.Store {
	return impl.Store{
		Cells: []impl.Cell{
			{Key: 0, Start: 1, Value: 0}, {Key: 10, Start: 2, Value: 7}, {Key: 10, Start: 9, Value: 8},
			{Key: 21, Start: 12, Value: 3}, {Key: 43, Start: 5, Value: 4}, {Key: 189, Start: 99999, Value: 9999},
		},
		Locks: []impl.Lock{
			{Key: 0, Start: 100000, Kind: impl.WriteLock, Primary: 189, Until: 100000},
			{Key: 20, Start: 12, Kind: impl.WriteDelete, Primary: 21, Until: 0},
			{Key: 21, Start: 12, Kind: impl.WritePut, Primary: 21, Until: 30},
		},
		Writes: []impl.Write{
			{Key: 0, Commit: 2, Start: 1, Kind: impl.WritePut},
			{Key: 10, Commit: 3, Start: 2, Kind: impl.WritePut},
			{Key: 10, Commit: 5, Start: 4, Kind: impl.WriteLock},
			{Key: 10, Commit: 7, Start: 1, Kind: impl.WriteDelete},
			{Key: 10, Commit: 8, Start: 8, Kind: impl.WriteBack},
			{Key: 10, Commit: 11, Start: 9, Kind: impl.WritePut},
			{Key: 10, Commit: 13, Start: 12, Kind: impl.WriteLock},
			{Key: 10, Commit: 14, Start: 14, Kind: impl.WriteBack},
			{Key: 189, Commit: 100000, Start: 99999, Kind: impl.WritePut},
		},
	}
}

func copyStore(s impl.Store) impl.Store {
	return impl.Store{
		Cells:  append([]impl.Cell{}, s.Cells...),
		Locks:  append([]impl.Lock{}, s.Locks...),
		Writes: append([]impl.Write{}, s.Writes...),
	}
}

// equalStores holds two stores against each other without the program's help.
func equalStores(a, b impl.Store) bool {
	return reflect.DeepEqual(copyStore(a), copyStore(b))
}

// changed is plainStore with one thing about it changed.
func changed(change func(s *impl.Store)) impl.Store {
	s := plainStore()
	change(&s)
	return s
}

// fullCells has n cells of key 10, fullWrites n writes of it that need no cell.
func fullCells(n int) (cells []impl.Cell) {
	for i := 1; i <= n; i++ {
		cells = append(cells, impl.Cell{Key: 10, Start: int64(i), Value: int64(i)})
	}
	return cells
}

func fullWrites(n int) (writes []impl.Write) {
	for i := 1; i <= n; i++ {
		writes = append(writes, impl.Write{Key: 10, Commit: int64(i), Start: int64(i), Kind: impl.WriteBack})
	}
	return writes
}

// lockEach has a lock on each of the keys there are, manyLocks the last one over and over up to n.
func lockEach() (locks []impl.Lock) {
	for _, k := range allKeys() {
		locks = append(locks, impl.Lock{Key: k.key, Start: 6, Kind: impl.WriteLock, Primary: 0, Until: 9})
	}
	return locks
}

func manyLocks(n int) []impl.Lock {
	locks := lockEach()
	for len(locks) < n {
		locks = append(locks, locks[len(locks)-1])
	}
	return locks
}

func TestColumnConstants(t *testing.T) {
	if impl.WritePut != 1 || impl.WriteDelete != 2 || impl.WriteLock != 3 || impl.WriteBack != 4 {
		t.Error("kinds")
	}
	if impl.MaxTs != 100000 || impl.MaxCells != 200 || impl.MaxValue != 9999 {
		t.Error("bounds")
	}
}

type storeCase struct {
	name string
	s    impl.Store
	code int64
}

func checkStoreCases(t *testing.T, cases []storeCase) {
	t.Helper()
	for _, c := range cases {
		before := copyStore(c.s)
		if got := impl.StoreFault(c.s); got != c.code {
			t.Errorf("%s: StoreFault = %d, want %d", c.name, got, c.code)
		}
		if got := wantStoreFault(c.s); got != c.code {
			t.Errorf("%s: the tests' own fault = %d, want %d", c.name, got, c.code)
		}
		if !equalStores(before, c.s) {
			t.Errorf("%s: StoreFault changed the store", c.name)
		}
	}
}

func TestStoreFaultRight(t *testing.T) {
	checkStoreCases(t, []storeCase{
		{"nothing", impl.Store{}, impl.OK},
		{"empty lists", impl.Store{Cells: []impl.Cell{}, Locks: []impl.Lock{}, Writes: []impl.Write{}}, impl.OK},
		{"plain", plainStore(), impl.OK},
		{"a cell that nobody needs", impl.Store{Cells: []impl.Cell{{Key: 10, Start: 1}}}, impl.OK},
		{"a delete without a cell", impl.Store{Writes: []impl.Write{{Key: 10, Commit: 2, Start: 1, Kind: 2}}}, impl.OK},
		{"a lock alone without a cell", impl.Store{Writes: []impl.Write{{Key: 10, Commit: 2, Start: 1, Kind: 3}}}, impl.OK},
		{"taken back without a cell", impl.Store{Writes: []impl.Write{{Key: 10, Commit: 1, Start: 1, Kind: 4}}}, impl.OK},
		{"taken back at the last time", impl.Store{Writes: []impl.Write{{Key: 10, Commit: 100000, Start: 100000, Kind: 4}}}, impl.OK},
		{"taken back, its cell still there", impl.Store{Cells: []impl.Cell{{Key: 10, Start: 1, Value: 2}}, Writes: []impl.Write{{Key: 10, Commit: 1, Start: 1, Kind: 4}}}, impl.OK},
		{"a locked delete without a cell", impl.Store{Locks: []impl.Lock{{Key: 10, Start: 1, Kind: 2, Primary: 10}}}, impl.OK},
		{"a locked lock alone without a cell", impl.Store{Locks: []impl.Lock{{Key: 10, Start: 1, Kind: 3, Primary: 10}}}, impl.OK},
		{"two keys with one start", impl.Store{Writes: []impl.Write{{Key: 10, Commit: 2, Start: 1, Kind: 2}, {Key: 11, Commit: 2, Start: 1, Kind: 2}}}, impl.OK},
		{"a lock with the start of another key's write", impl.Store{Locks: []impl.Lock{{Key: 11, Start: 1, Kind: 2, Primary: 10}}, Writes: []impl.Write{{Key: 10, Commit: 2, Start: 1, Kind: 2}}}, impl.OK},
		{"starts that fall while commits rise", impl.Store{Writes: []impl.Write{{Key: 10, Commit: 5, Start: 4, Kind: 2}, {Key: 10, Commit: 6, Start: 2, Kind: 2}}}, impl.OK},
		{"a later key with earlier times", impl.Store{Cells: []impl.Cell{{Key: 10, Start: 9}, {Key: 11, Start: 1}}, Writes: []impl.Write{{Key: 10, Commit: 9, Start: 8, Kind: 2}, {Key: 11, Commit: 2, Start: 1, Kind: 2}}}, impl.OK},
		{"all cells", impl.Store{Cells: fullCells(200)}, impl.OK},
		{"all writes", impl.Store{Writes: fullWrites(200)}, impl.OK},
		{"a lock on each key", impl.Store{Locks: lockEach()}, impl.OK},
		{"all cells and all writes", impl.Store{Cells: fullCells(200), Writes: fullWrites(200)}, impl.OK},
	})
}

func TestStoreFaultMany(t *testing.T) {
	wrong := []impl.Cell{{Key: -1}}
	checkStoreCases(t, []storeCase{
		{"one cell more", impl.Store{Cells: fullCells(201)}, impl.ErrMany},
		{"one write more", impl.Store{Writes: fullWrites(201)}, impl.ErrMany},
		{"all locks do not rise", impl.Store{Locks: manyLocks(200)}, impl.ErrForm},
		{"one lock more", impl.Store{Locks: manyLocks(201)}, impl.ErrMany},
		{"many writes behind a wrong cell", impl.Store{Cells: wrong, Writes: fullWrites(201)}, impl.ErrMany},
		{"many locks behind a wrong cell", impl.Store{Cells: wrong, Locks: manyLocks(201)}, impl.ErrMany},
		{"many wrong cells", impl.Store{Cells: make([]impl.Cell, 201)}, impl.ErrMany},
		{"very many", impl.Store{Cells: make([]impl.Cell, 100000), Locks: make([]impl.Lock, 100000), Writes: make([]impl.Write, 100000)}, impl.ErrMany},
	})
}

func TestStoreFaultCells(t *testing.T) {
	one := func(key, start, value int64) impl.Store {
		return impl.Store{Cells: []impl.Cell{{Key: key, Start: start, Value: value}}}
	}
	two := func(first, second impl.Cell) impl.Store { return impl.Store{Cells: []impl.Cell{first, second}} }
	checkStoreCases(t, []storeCase{
		{"key below 0", one(-1, 1, 0), impl.ErrRange},
		{"key above", one(200, 1, 0), impl.ErrRange},
		{"key of nothing", one(1, 1, 0), impl.ErrForm},
		{"key of nothing, start wrong", one(199, 0, 0), impl.ErrForm},
		{"least of all", one(math.MinInt64, math.MinInt64, math.MinInt64), impl.ErrRange},
		{"greatest of all", one(math.MaxInt64, math.MaxInt64, math.MaxInt64), impl.ErrRange},
		{"start 0", one(10, 0, 0), impl.ErrRange},
		{"start 1", one(10, 1, 0), impl.OK},
		{"start MaxTs", one(10, 100000, 0), impl.OK},
		{"start above", one(10, 100001, 0), impl.ErrRange},
		{"start below 0", one(10, -1, 0), impl.ErrRange},
		{"start least", one(10, math.MinInt64, 0), impl.ErrRange},
		{"start greatest", one(10, math.MaxInt64, 0), impl.ErrRange},
		{"value MaxValue", one(10, 1, 9999), impl.OK},
		{"value above", one(10, 1, 10000), impl.ErrRange},
		{"value below 0", one(10, 1, -1), impl.ErrRange},
		{"value least", one(10, 1, math.MinInt64), impl.ErrRange},
		{"value greatest", one(10, 1, math.MaxInt64), impl.ErrRange},
		{"two alike", two(impl.Cell{Key: 10, Start: 3}, impl.Cell{Key: 10, Start: 3, Value: 1}), impl.ErrForm},
		{"starts fall", two(impl.Cell{Key: 10, Start: 3}, impl.Cell{Key: 10, Start: 2}), impl.ErrForm},
		{"keys fall", two(impl.Cell{Key: 11, Start: 3}, impl.Cell{Key: 10, Start: 4}), impl.ErrForm},
		{"keys fall, then wrong value", two(impl.Cell{Key: 11, Start: 3}, impl.Cell{Key: 10, Start: 4, Value: -1}), impl.ErrRange},
		{"cell by cell: order ahead of a wrong key", impl.Store{Cells: []impl.Cell{{Key: 10, Start: 3}, {Key: 10, Start: 3}, {Key: 200, Start: 1}}}, impl.ErrForm},
		{"cell by cell: value ahead of a key of nothing", two(impl.Cell{Key: 10, Start: 3, Value: -1}, impl.Cell{Key: 1, Start: 3}), impl.ErrRange},
		{"cells ahead of locks and writes", impl.Store{Cells: []impl.Cell{{Key: 1}}, Locks: []impl.Lock{{Key: -1}}, Writes: []impl.Write{{Key: -1}}}, impl.ErrForm},
	})
}

func TestStoreFaultLocks(t *testing.T) {
	one := func(key, start, kind, primary, until int64) impl.Store {
		return impl.Store{Locks: []impl.Lock{{Key: key, Start: start, Kind: kind, Primary: primary, Until: until}}}
	}
	two := func(first, second impl.Lock) impl.Store { return impl.Store{Locks: []impl.Lock{first, second}} }
	checkStoreCases(t, []storeCase{
		{"key below 0", one(-1, 1, 2, 10, 0), impl.ErrRange},
		{"key of nothing", one(1, 1, 2, 10, 0), impl.ErrForm},
		{"key of nothing, primary beyond", one(1, 1, 2, -1, 0), impl.ErrForm},
		{"key beyond, primary of nothing", one(200, 1, 2, 1, 0), impl.ErrRange},
		{"primary below 0", one(10, 1, 2, -1, 0), impl.ErrRange},
		{"primary above", one(10, 1, 2, 200, 0), impl.ErrRange},
		{"primary of nothing", one(10, 1, 2, 1, 0), impl.ErrForm},
		{"primary of nothing, start wrong", one(10, 0, 2, 26, 0), impl.ErrForm},
		{"primary least", one(10, 1, 2, math.MinInt64, 0), impl.ErrRange},
		{"primary greatest", one(10, 1, 2, math.MaxInt64, 0), impl.ErrRange},
		{"start 0", one(10, 0, 2, 10, 0), impl.ErrRange},
		{"start MaxTs", one(10, 100000, 2, 10, 0), impl.OK},
		{"start above", one(10, 100001, 2, 10, 0), impl.ErrRange},
		{"start greatest", one(10, math.MaxInt64, 2, 10, 0), impl.ErrRange},
		{"kind 0", one(10, 1, 0, 10, 0), impl.ErrRange},
		{"kind taken back", one(10, 1, 4, 10, 0), impl.ErrRange},
		{"kind lock alone", one(10, 1, 3, 10, 0), impl.OK},
		{"kind below 0", one(10, 1, -1, 10, 0), impl.ErrRange},
		{"kind least", one(10, 1, math.MinInt64, 10, 0), impl.ErrRange},
		{"until below 0", one(10, 1, 2, 10, -1), impl.ErrRange},
		{"until MaxTs", one(10, 1, 2, 10, 100000), impl.OK},
		{"until above", one(10, 1, 2, 10, 100001), impl.ErrRange},
		{"until least", one(10, 1, 2, 10, math.MinInt64), impl.ErrRange},
		{"until ahead of start", one(10, 50, 2, 10, 1), impl.OK},
		{"a put, no cell", one(10, 1, 1, 10, 0), impl.ErrNone},
		{"two of one key", two(impl.Lock{Key: 10, Start: 1, Kind: 2, Primary: 10}, impl.Lock{Key: 10, Start: 2, Kind: 2, Primary: 10}), impl.ErrForm},
		{"keys fall", two(impl.Lock{Key: 11, Start: 1, Kind: 2, Primary: 10}, impl.Lock{Key: 10, Start: 2, Kind: 2, Primary: 10}), impl.ErrForm},
		{"lock by lock: kind ahead of a key of nothing", two(impl.Lock{Key: 10, Start: 1, Kind: 9, Primary: 10}, impl.Lock{Key: 1, Start: 2, Kind: 2, Primary: 10}), impl.ErrRange},
		{"the range ahead of the order", two(impl.Lock{Key: 11, Start: 1, Kind: 2, Primary: 10}, impl.Lock{Key: 10, Start: 0, Kind: 2, Primary: 10}), impl.ErrRange},
		{"locks ahead of writes", impl.Store{Locks: []impl.Lock{{Key: 1}}, Writes: []impl.Write{{Key: -1}}}, impl.ErrForm},
	})
}

func TestStoreFaultWrites(t *testing.T) {
	one := func(key, commit, start, kind int64) impl.Store {
		return impl.Store{Writes: []impl.Write{{Key: key, Commit: commit, Start: start, Kind: kind}}}
	}
	two := func(first, second impl.Write) impl.Store { return impl.Store{Writes: []impl.Write{first, second}} }
	checkStoreCases(t, []storeCase{
		{"key below 0", one(-1, 2, 1, 2), impl.ErrRange},
		{"key above", one(200, 2, 1, 2), impl.ErrRange},
		{"key of nothing", one(1, 2, 1, 2), impl.ErrForm},
		{"key of nothing, all wrong", one(1, 0, 0, 0), impl.ErrForm},
		{"commit 0", one(10, 0, 1, 2), impl.ErrRange},
		{"commit above", one(10, 100001, 1, 2), impl.ErrRange},
		{"commit MaxTs", one(10, 100000, 99999, 2), impl.OK},
		{"commit greatest", one(10, math.MaxInt64, 1, 2), impl.ErrRange},
		{"commit least", one(10, math.MinInt64, 1, 2), impl.ErrRange},
		{"start 0", one(10, 2, 0, 2), impl.ErrRange},
		{"start above", one(10, 2, 100001, 2), impl.ErrRange},
		{"start least", one(10, 2, math.MinInt64, 2), impl.ErrRange},
		{"kind 0", one(10, 2, 1, 0), impl.ErrRange},
		{"kind 5", one(10, 2, 1, 5), impl.ErrRange},
		{"kind greatest", one(10, 2, 1, math.MaxInt64), impl.ErrRange},
		{"kind 5, commit is start", one(10, 2, 2, 5), impl.ErrRange},
		{"a put, commit is start", one(10, 2, 2, 1), impl.ErrForm},
		{"a delete, commit is start", one(10, 2, 2, 2), impl.ErrForm},
		{"a lock alone, commit is start", one(10, 2, 2, 3), impl.ErrForm},
		{"a delete, commit below start", one(10, 2, 3, 2), impl.ErrForm},
		{"taken back, commit above start", one(10, 2, 1, 4), impl.ErrForm},
		{"taken back, commit below start", one(10, 2, 3, 4), impl.ErrForm},
		{"taken back, commit is start", one(10, 2, 2, 4), impl.OK},
		{"a put, no cell", one(10, 2, 1, 1), impl.ErrNone},
		{"two of one commit", two(impl.Write{Key: 10, Commit: 4, Start: 1, Kind: 2}, impl.Write{Key: 10, Commit: 4, Start: 2, Kind: 2}), impl.ErrForm},
		{"commits fall", two(impl.Write{Key: 10, Commit: 4, Start: 1, Kind: 2}, impl.Write{Key: 10, Commit: 3, Start: 2, Kind: 2}), impl.ErrForm},
		{"keys fall", two(impl.Write{Key: 11, Commit: 4, Start: 1, Kind: 2}, impl.Write{Key: 10, Commit: 5, Start: 2, Kind: 2}), impl.ErrForm},
		{"write by write: the form ahead of a wrong key", two(impl.Write{Key: 10, Commit: 4, Start: 4, Kind: 2}, impl.Write{Key: -1, Commit: 5, Start: 2, Kind: 2}), impl.ErrForm},
		{"write by write: the range ahead of a key of nothing", two(impl.Write{Key: 10, Commit: 0, Start: 4, Kind: 2}, impl.Write{Key: 1, Commit: 5, Start: 2, Kind: 2}), impl.ErrRange},
	})
}

func TestStoreFaultBetween(t *testing.T) {
	put := impl.Write{Key: 10, Commit: 4, Start: 2, Kind: impl.WritePut}
	checkStoreCases(t, []storeCase{
		{"a put with the cell of another start", impl.Store{Cells: []impl.Cell{{Key: 10, Start: 4}}, Writes: []impl.Write{put}}, impl.ErrNone},
		{"a put with the cell of another key", impl.Store{Cells: []impl.Cell{{Key: 11, Start: 2}}, Writes: []impl.Write{put}}, impl.ErrNone},
		{"a put with its cell, of value 0", impl.Store{Cells: []impl.Cell{{Key: 10, Start: 2}}, Writes: []impl.Write{put}}, impl.OK},
		{"a locked put whose cell is gone", changed(func(s *impl.Store) { s.Cells = append(s.Cells[:3], s.Cells[4:]...) }), impl.ErrNone},
		{"a put whose cell is gone", changed(func(s *impl.Store) { s.Cells = s.Cells[1:] }), impl.ErrNone},
		{"the last put has no cell", changed(func(s *impl.Store) { s.Cells = s.Cells[:5] }), impl.ErrNone},
		{"two writes of one start", impl.Store{Writes: []impl.Write{{Key: 10, Commit: 4, Start: 2, Kind: 2}, {Key: 10, Commit: 5, Start: 2, Kind: 3}}}, impl.ErrTaken},
		{"two writes of one start, one between", impl.Store{Writes: []impl.Write{{Key: 10, Commit: 4, Start: 2, Kind: 2}, {Key: 10, Commit: 5, Start: 3, Kind: 3}, {Key: 10, Commit: 6, Start: 2, Kind: 3}}}, impl.ErrTaken},
		{"done, and taken back", impl.Store{Writes: []impl.Write{{Key: 10, Commit: 2, Start: 2, Kind: 4}, {Key: 10, Commit: 5, Start: 2, Kind: 3}}}, impl.ErrTaken},
		{"a lock with the start of its key's write", impl.Store{Locks: []impl.Lock{{Key: 10, Start: 2, Kind: 2, Primary: 10}}, Writes: []impl.Write{{Key: 10, Commit: 4, Start: 2, Kind: 2}}}, impl.ErrTaken},
		{"a lock with the start of what was taken back", impl.Store{Locks: []impl.Lock{{Key: 10, Start: 2, Kind: 2, Primary: 10}}, Writes: []impl.Write{{Key: 10, Commit: 2, Start: 2, Kind: 4}}}, impl.ErrTaken},
		{"a lock with the commit of its key's write", impl.Store{Locks: []impl.Lock{{Key: 10, Start: 4, Kind: 2, Primary: 10}}, Writes: []impl.Write{{Key: 10, Commit: 4, Start: 2, Kind: 2}}}, impl.OK},
		{"no cell, ahead of what is taken", impl.Store{Locks: []impl.Lock{{Key: 10, Start: 2, Kind: 1, Primary: 10}}, Writes: []impl.Write{{Key: 10, Commit: 4, Start: 2, Kind: 2}}}, impl.ErrNone},
		{"no cell behind what is taken", impl.Store{Writes: []impl.Write{{Key: 10, Commit: 4, Start: 2, Kind: 2}, {Key: 10, Commit: 5, Start: 2, Kind: 3}, {Key: 11, Commit: 5, Start: 2, Kind: 1}}}, impl.ErrNone},
		{"a write's form ahead of a lock's cell", impl.Store{Locks: []impl.Lock{{Key: 10, Start: 2, Kind: 1, Primary: 10}}, Writes: []impl.Write{{Key: 10, Commit: 4, Start: 4, Kind: 2}}}, impl.ErrForm},
	})
}

// wantStoreFault asks the document's codes one behind the other, each pair of things held against each other.
func wantStoreFault(s impl.Store) int64 {
	if len(s.Cells) > 200 || len(s.Locks) > 200 || len(s.Writes) > 200 {
		return impl.ErrMany
	}
	out := func(n, least, most int64) bool { return n < least || n > most }
	for i, c := range s.Cells {
		if code := wantFault(c.Key); code != 0 {
			return code
		}
		if out(c.Start, 1, 100000) || out(c.Value, 0, 9999) {
			return impl.ErrRange
		}
		if i > 0 && (c.Key < s.Cells[i-1].Key || c.Key == s.Cells[i-1].Key && c.Start <= s.Cells[i-1].Start) {
			return impl.ErrForm
		}
	}
	for i, l := range s.Locks {
		if code := wantFault(l.Key); code != 0 {
			return code
		}
		if code := wantFault(l.Primary); code != 0 {
			return code
		}
		if out(l.Start, 1, 100000) || out(l.Kind, 1, 3) || out(l.Until, 0, 100000) {
			return impl.ErrRange
		}
		if i > 0 && l.Key <= s.Locks[i-1].Key {
			return impl.ErrForm
		}
	}
	for i, w := range s.Writes {
		if code := wantFault(w.Key); code != 0 {
			return code
		}
		if out(w.Commit, 1, 100000) || out(w.Start, 1, 100000) || out(w.Kind, 1, 4) {
			return impl.ErrRange
		}
		if i > 0 && (w.Key < s.Writes[i-1].Key || w.Key == s.Writes[i-1].Key && w.Commit <= s.Writes[i-1].Commit) {
			return impl.ErrForm
		}
		if w.Kind == 4 && w.Commit != w.Start || w.Kind != 4 && w.Commit <= w.Start {
			return impl.ErrForm
		}
	}
	return wantBetween(s)
}

func wantBetween(s impl.Store) int64 {
	has := func(key, start int64) bool {
		for _, c := range s.Cells {
			if c.Key == key && c.Start == start {
				return true
			}
		}
		return false
	}
	for _, w := range s.Writes {
		if w.Kind == 1 && !has(w.Key, w.Start) {
			return impl.ErrNone
		}
	}
	for _, l := range s.Locks {
		if l.Kind == 1 && !has(l.Key, l.Start) {
			return impl.ErrNone
		}
	}
	for i, w := range s.Writes {
		for _, v := range s.Writes[:i] {
			if v.Key == w.Key && v.Start == w.Start {
				return impl.ErrTaken
			}
		}
		for _, l := range s.Locks {
			if l.Key == w.Key && l.Start == w.Start {
				return impl.ErrTaken
			}
		}
	}
	return impl.OK
}

// Each number of each thing in plainStore, in turn, at each odd number.
func TestStoreFaultAtOddNumbers(t *testing.T) {
	odd := []int64{math.MinInt64, math.MinInt64 + 1, -1, 0, 1, 2, 3, 4, 5, 6, 8, 9, 10, 12, 14, 20, 25, 26, 43, 116, 180, 189, 190, 199, 200,
		9999, 10000, 99999, 100000, 100001, math.MaxInt32, math.MaxInt64 - 1, math.MaxInt64}
	var spots []func(s *impl.Store) *int64
	plain := plainStore()
	for i := range plain.Cells {
		spots = append(spots, func(s *impl.Store) *int64 { return &s.Cells[i].Key },
			func(s *impl.Store) *int64 { return &s.Cells[i].Start }, func(s *impl.Store) *int64 { return &s.Cells[i].Value })
	}
	for i := range plain.Locks {
		spots = append(spots, func(s *impl.Store) *int64 { return &s.Locks[i].Key },
			func(s *impl.Store) *int64 { return &s.Locks[i].Start }, func(s *impl.Store) *int64 { return &s.Locks[i].Kind },
			func(s *impl.Store) *int64 { return &s.Locks[i].Primary }, func(s *impl.Store) *int64 { return &s.Locks[i].Until })
	}
	for i := range plain.Writes {
		spots = append(spots, func(s *impl.Store) *int64 { return &s.Writes[i].Key },
			func(s *impl.Store) *int64 { return &s.Writes[i].Commit }, func(s *impl.Store) *int64 { return &s.Writes[i].Start },
			func(s *impl.Store) *int64 { return &s.Writes[i].Kind })
	}
	for i, first := range spots {
		for _, n := range odd {
			s := plainStore()
			*first(&s) = n
			checkFaultEverywhere(t, s)
			second := spots[(i*7+int(n&15))%len(spots)]
			*second(&s) = odd[(i+int(n&31))%len(odd)]
			checkFaultEverywhere(t, s)
		}
	}
}

// A fault of the store is the answer of all that ask it, ahead of the key's and of the bounds'; beside it all is zero.
func checkFaultEverywhere(t *testing.T, s impl.Store) {
	t.Helper()
	code := wantStoreFault(s)
	if got := impl.StoreFault(s); got != code {
		t.Errorf("StoreFault(%+v) = %d, want %d", s, got, code)
	}
	if code == impl.OK {
		return
	}
	for _, key := range []int64{10, 1, -1} {
		locks, cell := impl.LockAt(s, key), impl.CellAt(s, key, 2)
		last, of := impl.LastWrite(s, key, 20), impl.WriteOf(s, key, 2)
		if locks.Code != code || len(locks.Locks) != 0 || cell != (impl.IntResult{Code: code}) ||
			last.Code != code || len(last.Writes) != 0 || of.Code != code || len(of.Writes) != 0 {
			t.Errorf("key %d of %+v: %+v %+v %+v %+v, want code %d alone", key, s, locks, cell, last, of, code)
		}
	}
	for _, r := range []impl.StoreResult{impl.PartStore(s, 0, 200), impl.PartStore(s, -1, 201), impl.JoinStores(s, impl.Store{}), impl.JoinStores(impl.Store{}, s)} {
		if r.Code != code || !equalStores(r.Store, impl.Store{}) {
			t.Errorf("%+v of %+v, want code %d alone", r, s, code)
		}
	}
}

func TestJoinAsksBothFaults(t *testing.T) {
	range1 := impl.Store{Cells: []impl.Cell{{Key: 10, Start: 0}}}
	form := impl.Store{Cells: []impl.Cell{{Key: 1, Start: 1}}}
	many := impl.Store{Cells: fullCells(201)}
	for _, c := range []struct {
		a, b impl.Store
		code int64
	}{
		{range1, form, impl.ErrRange}, {form, range1, impl.ErrForm}, {range1, many, impl.ErrRange}, {many, range1, impl.ErrMany},
		{plainStore(), form, impl.ErrForm}, {form, plainStore(), impl.ErrForm},
	} {
		if got := impl.JoinStores(c.a, c.b); got.Code != c.code || !equalStores(got.Store, impl.Store{}) {
			t.Errorf("JoinStores = %+v, want code %d alone", got, c.code)
		}
	}
}

// Two that are right, and have a fault only together.
func TestJoinFaultsTogether(t *testing.T) {
	cell := func(key, start, value int64) impl.Cell { return impl.Cell{Key: key, Start: start, Value: value} }
	late := fullCells(200)
	for i := range late {
		late[i].Start += 1000
	}
	for _, c := range []struct {
		name string
		a, b impl.Store
		code int64
	}{
		{"with itself", plainStore(), plainStore(), impl.ErrForm},
		{"a cell twice", impl.Store{Cells: []impl.Cell{cell(10, 1, 2)}}, impl.Store{Cells: []impl.Cell{cell(10, 1, 2)}}, impl.ErrForm},
		{"a cell with two values", impl.Store{Cells: []impl.Cell{cell(10, 1, 2)}}, impl.Store{Cells: []impl.Cell{cell(10, 1, 3)}}, impl.ErrForm},
		{"two locks of a key", impl.Store{Locks: []impl.Lock{{Key: 10, Start: 1, Kind: 2}}}, impl.Store{Locks: []impl.Lock{{Key: 10, Start: 2, Kind: 3}}}, impl.ErrForm},
		{"two writes of a commit", impl.Store{Writes: []impl.Write{{Key: 10, Commit: 5, Start: 1, Kind: 2}}}, impl.Store{Writes: []impl.Write{{Key: 10, Commit: 5, Start: 2, Kind: 2}}}, impl.ErrForm},
		{"two writes of a start", impl.Store{Writes: []impl.Write{{Key: 10, Commit: 5, Start: 1, Kind: 2}}}, impl.Store{Writes: []impl.Write{{Key: 10, Commit: 6, Start: 1, Kind: 2}}}, impl.ErrTaken},
		{"a lock with a write's start", impl.Store{Locks: []impl.Lock{{Key: 10, Start: 1, Kind: 2}}}, impl.Store{Writes: []impl.Write{{Key: 10, Commit: 6, Start: 1, Kind: 2}}}, impl.ErrTaken},
		{"too many cells", impl.Store{Cells: fullCells(200)}, impl.Store{Cells: []impl.Cell{cell(11, 1, 0)}}, impl.ErrMany},
		{"too many cells, some alike", impl.Store{Cells: fullCells(101)}, impl.Store{Cells: fullCells(100)}, impl.ErrMany},
		{"too many cells, half each", impl.Store{Cells: fullCells(200)}, impl.Store{Cells: late}, impl.ErrMany},
		{"too many writes", impl.Store{Writes: fullWrites(200)}, impl.Store{Writes: []impl.Write{{Key: 11, Commit: 6, Start: 1, Kind: 2}}}, impl.ErrMany},
		{"just enough cells", impl.Store{Cells: fullCells(199)}, impl.Store{Cells: []impl.Cell{cell(11, 1, 0)}}, impl.OK},
	} {
		for _, r := range []impl.StoreResult{impl.JoinStores(c.a, c.b), impl.JoinStores(c.b, c.a)} {
			if r.Code != c.code || c.code != impl.OK && !equalStores(r.Store, impl.Store{}) {
				t.Errorf("%s: %d, want %d", c.name, r.Code, c.code)
			}
		}
	}
}

// What lies between one another of two stores comes in order.
func TestJoinInOrder(t *testing.T) {
	a := impl.Store{
		Cells:  []impl.Cell{{Key: 10, Start: 1, Value: 1}, {Key: 10, Start: 5, Value: 5}, {Key: 30, Start: 1, Value: 9}},
		Locks:  []impl.Lock{{Key: 20, Start: 3, Kind: 2, Primary: 30, Until: 4}},
		Writes: []impl.Write{{Key: 10, Commit: 2, Start: 1, Kind: 1}, {Key: 10, Commit: 8, Start: 5, Kind: 1}},
	}
	b := impl.Store{
		Cells:  []impl.Cell{{Key: 10, Start: 3, Value: 3}, {Key: 20, Start: 1, Value: 2}},
		Locks:  []impl.Lock{{Key: 10, Start: 7, Kind: 3, Primary: 20, Until: 5}, {Key: 30, Start: 1, Kind: 2, Primary: 0}},
		Writes: []impl.Write{{Key: 0, Commit: 9, Start: 8, Kind: 2}, {Key: 10, Commit: 6, Start: 3, Kind: 1}},
	}
	want := impl.Store{
		Cells:  []impl.Cell{a.Cells[0], b.Cells[0], a.Cells[1], b.Cells[1], a.Cells[2]},
		Locks:  []impl.Lock{b.Locks[0], a.Locks[0], b.Locks[1]},
		Writes: []impl.Write{b.Writes[0], a.Writes[0], b.Writes[1], a.Writes[1]},
	}
	for _, r := range []impl.StoreResult{impl.JoinStores(a, b), impl.JoinStores(b, a)} {
		if r.Code != impl.OK || !equalStores(r.Store, want) {
			t.Errorf("joined: %+v, want %+v", r, want)
		}
	}
	for _, r := range []impl.StoreResult{impl.JoinStores(a, impl.Store{}), impl.JoinStores(impl.Store{}, a)} {
		if r.Code != impl.OK || !equalStores(r.Store, a) {
			t.Errorf("joined with nothing: %+v, want %+v", r, a)
		}
	}
	if r := impl.JoinStores(impl.Store{}, impl.Store{}); r.Code != impl.OK || !equalStores(r.Store, impl.Store{}) {
		t.Errorf("nothing with nothing: %+v", r)
	}
}

func wantLocks(s impl.Store, key int64) (r impl.LocksResult) {
	for _, l := range s.Locks {
		if l.Key == key {
			r.Locks = append(r.Locks, l)
		}
	}
	if len(r.Locks) == 0 {
		r.Code = impl.ErrNone
	}
	return r
}

func wantCell(s impl.Store, key, start int64) impl.IntResult {
	for _, c := range s.Cells {
		if c.Key == key && c.Start == start {
			return impl.IntResult{Value: c.Value}
		}
	}
	return impl.IntResult{Code: impl.ErrNone}
}

// wantWrite keeps, of the writes of key that are meant, the one of the greatest Commit.
func wantWrite(s impl.Store, key int64, meant func(w impl.Write) bool) impl.WritesResult {
	var best []impl.Write
	for _, w := range s.Writes {
		if w.Key == key && meant(w) && (best == nil || w.Commit > best[0].Commit) {
			best = []impl.Write{w}
		}
	}
	if best == nil {
		return impl.WritesResult{Code: impl.ErrNone}
	}
	return impl.WritesResult{Writes: best}
}

// checkAsked: P3, what is told of a key is what the store has of it; and a key that is none has its own fault.
func checkAsked(t *testing.T, s impl.Store, key, ts int64) {
	t.Helper()
	locks, cell := wantLocks(s, key), wantCell(s, key, ts)
	last := wantWrite(s, key, func(w impl.Write) bool { return w.Kind <= 2 && w.Commit <= ts })
	of := wantWrite(s, key, func(w impl.Write) bool { return w.Start == ts })
	if code := wantFault(key); code != impl.OK {
		locks, cell = impl.LocksResult{Code: code}, impl.IntResult{Code: code}
		last, of = impl.WritesResult{Code: code}, impl.WritesResult{Code: code}
	}
	if got := impl.LockAt(s, key); !reflect.DeepEqual(got, locks) {
		t.Errorf("LockAt(%+v, %d) = %+v, want %+v", s, key, got, locks)
	}
	if got := impl.CellAt(s, key, ts); got != cell {
		t.Errorf("CellAt(%+v, %d, %d) = %+v, want %+v", s, key, ts, got, cell)
	}
	if got := impl.LastWrite(s, key, ts); !reflect.DeepEqual(got, last) {
		t.Errorf("LastWrite(%+v, %d, %d) = %+v, want %+v", s, key, ts, got, last)
	}
	if got := impl.WriteOf(s, key, ts); !reflect.DeepEqual(got, of) {
		t.Errorf("WriteOf(%+v, %d, %d) = %+v, want %+v", s, key, ts, got, of)
	}
}

func oddTimes() []int64 {
	list := []int64{math.MinInt64, -100000, 99998, 99999, 100000, 100001, math.MaxInt32, math.MaxInt64 - 1, math.MaxInt64}
	for ts := int64(-1); ts <= 16; ts++ {
		list = append(list, ts)
	}
	return list
}

func TestAskedOfAKey(t *testing.T) {
	for _, s := range []impl.Store{{}, plainStore(), {Cells: fullCells(200), Locks: lockEach()[:1], Writes: fullWrites(200)}} {
		for _, key := range oddNumbers() {
			for _, ts := range oddTimes() {
				checkAsked(t, s, key, ts)
			}
		}
	}
}

func TestLastWriteLeavesOut(t *testing.T) {
	s := plainStore()
	for _, c := range []struct{ ts, commit int64 }{
		{2, 0}, {3, 3}, {4, 3}, {5, 3}, {6, 3}, {7, 7}, {8, 7}, {10, 7}, {11, 11}, {12, 11}, {13, 11}, {14, 11}, {100000, 11}, {math.MaxInt64, 11},
	} {
		got := impl.LastWrite(s, 10, c.ts)
		if c.commit == 0 && (got.Code != impl.ErrNone || len(got.Writes) != 0) {
			t.Errorf("at %d: %+v, want none", c.ts, got)
		}
		if c.commit != 0 && (got.Code != impl.OK || len(got.Writes) != 1 || got.Writes[0].Commit != c.commit) {
			t.Errorf("at %d: %+v, want the one of %d", c.ts, got, c.commit)
		}
	}
	only := impl.Store{Writes: []impl.Write{{Key: 10, Commit: 2, Start: 1, Kind: impl.WriteLock}, {Key: 10, Commit: 3, Start: 3, Kind: impl.WriteBack}}}
	if got := impl.LastWrite(only, 10, 100000); got.Code != impl.ErrNone || len(got.Writes) != 0 {
		t.Errorf("a lock alone and one taken back: %+v, want none", got)
	}
}

// wantPart picks by hand what stands from from on below to.
func wantPart(s impl.Store, from, to int64) (part impl.Store) {
	for _, c := range s.Cells {
		if c.Key >= from && c.Key < to {
			part.Cells = append(part.Cells, c)
		}
	}
	for _, l := range s.Locks {
		if l.Key >= from && l.Key < to {
			part.Locks = append(part.Locks, l)
		}
	}
	for _, w := range s.Writes {
		if w.Key >= from && w.Key < to {
			part.Writes = append(part.Writes, w)
		}
	}
	return part
}

func TestPartStore(t *testing.T) {
	s := plainStore()
	for _, from := range oddNumbers() {
		for _, to := range oddNumbers() {
			code, want := int64(impl.OK), wantPart(s, from, to)
			if from < 0 || from > 200 || to < 0 || to > 200 {
				code, want = impl.ErrRange, impl.Store{}
			}
			if got := impl.PartStore(s, from, to); got.Code != code || !equalStores(got.Store, want) {
				t.Fatalf("PartStore(%d, %d) = %+v, want %d %+v", from, to, got, code, want)
			}
		}
	}
	for _, c := range [][2]int64{{0, 0}, {200, 200}, {200, 0}, {21, 20}, {10, 10}} {
		if got := impl.PartStore(s, c[0], c[1]); got.Code != impl.OK || !equalStores(got.Store, impl.Store{}) {
			t.Errorf("PartStore(%d, %d) = %+v, want nothing", c[0], c[1], got)
		}
	}
	if got := impl.PartStore(s, 0, 200); got.Code != impl.OK || !equalStores(got.Store, s) {
		t.Errorf("PartStore(0, 200) = %+v, want all", got)
	}
}

// madeStore has no fault: what became of each one that wrote was thrown, its key and times among few, so that they meet.
func madeStore(r *rand.Rand, size int) impl.Store {
	keys := allKeys()
	var s impl.Store
	starts, commits := map[[2]int64]bool{}, map[[2]int64]bool{}
	locked := map[int64]bool{}
	for range size {
		key := keys[r.Intn(len(keys))].key
		if r.Intn(2) == 0 {
			key = []int64{0, 10, 20, 25, 180, 189}[r.Intn(6)]
		}
		start := 1 + r.Int63n(30)
		commit, kind := start+1+r.Int63n(5), 1+r.Int63n(4)
		if kind == impl.WriteBack {
			commit = start
		}
		if starts[[2]int64{key, start}] {
			continue
		}
		starts[[2]int64{key, start}] = true
		if kind == impl.WritePut || r.Intn(4) == 0 {
			s.Cells = append(s.Cells, impl.Cell{Key: key, Start: start, Value: r.Int63n(10000)})
		}
		if kind <= 3 && !locked[key] && r.Intn(3) == 0 {
			locked[key] = true
			s.Locks = append(s.Locks, impl.Lock{Key: key, Start: start, Kind: kind, Primary: keys[r.Intn(len(keys))].key, Until: r.Int63n(100001)})
		} else if !commits[[2]int64{key, commit}] {
			commits[[2]int64{key, commit}] = true
			s.Writes = append(s.Writes, impl.Write{Key: key, Commit: commit, Start: start, Kind: kind})
		}
	}
	sortStore(s)
	return s
}

func sortStore(s impl.Store) {
	sort.Slice(s.Cells, func(i, j int) bool {
		return s.Cells[i].Key*1000000+s.Cells[i].Start < s.Cells[j].Key*1000000+s.Cells[j].Start
	})
	sort.Slice(s.Locks, func(i, j int) bool { return s.Locks[i].Key < s.Locks[j].Key })
	sort.Slice(s.Writes, func(i, j int) bool {
		return s.Writes[i].Key*1000000+s.Writes[i].Commit < s.Writes[j].Key*1000000+s.Writes[j].Commit
	})
}

// P3: parted at any number, and joined again in either order, it is as it was.
func TestPartedAndJoined(t *testing.T) {
	r := rand.New(rand.NewSource(2))
	stores := []impl.Store{{}, plainStore(), {Cells: fullCells(200), Locks: lockEach()[2:], Writes: fullWrites(200)}}
	for size := range 30 {
		stores = append(stores, madeStore(r, size*6))
	}
	for _, s := range stores {
		if code := impl.StoreFault(s); code != impl.OK {
			t.Fatalf("%+v has the fault %d", s, code)
		}
		for at := int64(0); at <= 200; at++ {
			a, b := impl.PartStore(s, 0, at), impl.PartStore(s, at, 200)
			if a.Code != impl.OK || b.Code != impl.OK || impl.StoreFault(a.Store) != impl.OK || impl.StoreFault(b.Store) != impl.OK {
				t.Fatalf("%+v parted at %d: %+v %+v", s, at, a, b)
			}
			for _, got := range []impl.StoreResult{impl.JoinStores(a.Store, b.Store), impl.JoinStores(b.Store, a.Store)} {
				if got.Code != impl.OK || !equalStores(got.Store, s) || !impl.SameStores(got.Store, s) {
					t.Fatalf("%+v parted at %d and joined: %+v", s, at, got)
				}
			}
		}
	}
}

// P3: what is told of a key is the same in the store, and in the part that has the key.
func TestAskedOfParts(t *testing.T) {
	r := rand.New(rand.NewSource(3))
	for size := range 14 {
		s := madeStore(r, size*12)
		for _, k := range allKeys() {
			part := impl.PartStore(s, k.key, k.key+1).Store
			for _, ts := range []int64{0, 1, r.Int63n(36), r.Int63n(36), 100000} {
				checkAsked(t, s, k.key, ts)
				checkAsked(t, part, k.key, ts)
				if !reflect.DeepEqual(impl.LastWrite(s, k.key, ts), impl.LastWrite(part, k.key, ts)) {
					t.Errorf("LastWrite of %d at %d: another one in its part of %+v", k.key, ts, s)
				}
			}
		}
	}
}

func TestSameStores(t *testing.T) {
	empty := impl.Store{Cells: []impl.Cell{}, Locks: []impl.Lock{}, Writes: []impl.Write{}}
	if !impl.SameStores(impl.Store{}, empty) || !impl.SameStores(empty, impl.Store{}) || !impl.SameStores(plainStore(), plainStore()) {
		t.Error("the same stores are not the same")
	}
	wrong := impl.Store{Cells: []impl.Cell{{Key: -1}, {Key: -1}}, Writes: []impl.Write{{Kind: math.MinInt64}}}
	if !impl.SameStores(wrong, copyStore(wrong)) {
		t.Error("stores with a fault, and the same, are not the same")
	}
	many := impl.Store{Cells: fullCells(300)}
	if !impl.SameStores(many, impl.Store{Cells: fullCells(300)}) {
		t.Error("too many, and the same, are not the same")
	}
	for i, change := range []func(s *impl.Store){
		func(s *impl.Store) { s.Cells[1].Key++ }, func(s *impl.Store) { s.Cells[1].Start++ }, func(s *impl.Store) { s.Cells[5].Value-- },
		func(s *impl.Store) { s.Locks[2].Key++ }, func(s *impl.Store) { s.Locks[0].Start-- }, func(s *impl.Store) { s.Locks[1].Kind++ },
		func(s *impl.Store) { s.Locks[1].Primary++ }, func(s *impl.Store) { s.Locks[1].Until++ }, func(s *impl.Store) { s.Writes[8].Key-- },
		func(s *impl.Store) { s.Writes[3].Commit++ }, func(s *impl.Store) { s.Writes[3].Start-- }, func(s *impl.Store) { s.Writes[2].Kind-- },
		func(s *impl.Store) { s.Cells = s.Cells[:5] }, func(s *impl.Store) { s.Locks = s.Locks[:2] }, func(s *impl.Store) { s.Writes = s.Writes[:8] },
		func(s *impl.Store) { s.Cells = s.Cells[1:] }, func(s *impl.Store) { s.Locks = s.Locks[1:] }, func(s *impl.Store) { s.Writes = nil },
		func(s *impl.Store) { s.Cells[0], s.Cells[1] = s.Cells[1], s.Cells[0] },
		func(s *impl.Store) { s.Writes[0], s.Writes[1] = s.Writes[1], s.Writes[0] },
	} {
		other := changed(change)
		if impl.SameStores(plainStore(), other) || impl.SameStores(other, plainStore()) {
			t.Errorf("change %d: the same", i)
		}
	}
}

// spoil writes over all that an answer has, also behind its length.
func spoil(s impl.Store) {
	for i := range s.Cells[:cap(s.Cells)] {
		s.Cells[:cap(s.Cells)][i] = impl.Cell{Key: -7, Start: -7, Value: -7}
	}
	for i := range s.Locks[:cap(s.Locks)] {
		s.Locks[:cap(s.Locks)][i] = impl.Lock{Key: -7}
	}
	for i := range s.Writes[:cap(s.Writes)] {
		s.Writes[:cap(s.Writes)][i] = impl.Write{Key: -7}
	}
}

// roomy has the same lists with room behind them, so that whoever appends to an argument is seen.
func roomy(s impl.Store) (impl.Store, func() bool) {
	whole := impl.Store{Cells: make([]impl.Cell, 400), Locks: make([]impl.Lock, 400), Writes: make([]impl.Write, 400)}
	copy(whole.Cells, s.Cells)
	copy(whole.Locks, s.Locks)
	copy(whole.Writes, s.Writes)
	before := copyStore(whole)
	part := impl.Store{Cells: whole.Cells[:len(s.Cells)], Locks: whole.Locks[:len(s.Locks)], Writes: whole.Writes[:len(s.Writes)]}
	return part, func() bool { return equalStores(whole, before) }
}

// P1: arguments stay as they were, answers are new memory.
func TestColumnsNewMemory(t *testing.T) {
	other := impl.Store{Cells: []impl.Cell{{Key: 11, Start: 1, Value: 1}}, Locks: []impl.Lock{{Key: 11, Start: 1, Kind: 1, Primary: 10}}, Writes: []impl.Write{{Key: 12, Commit: 3, Start: 1, Kind: 2}}}
	for name, call := range map[string]func(s, o impl.Store) impl.Store{
		"fault":           func(s, o impl.Store) impl.Store { impl.StoreFault(s); return impl.Store{} },
		"lock":            func(s, o impl.Store) impl.Store { return impl.Store{Locks: impl.LockAt(s, 21).Locks} },
		"cell":            func(s, o impl.Store) impl.Store { impl.CellAt(s, 10, 2); return impl.Store{} },
		"last":            func(s, o impl.Store) impl.Store { return impl.Store{Writes: impl.LastWrite(s, 10, 9).Writes} },
		"of":              func(s, o impl.Store) impl.Store { return impl.Store{Writes: impl.WriteOf(s, 10, 9).Writes} },
		"same":            func(s, o impl.Store) impl.Store { impl.SameStores(s, o); return impl.Store{} },
		"all":             func(s, o impl.Store) impl.Store { return impl.PartStore(s, 0, 200).Store },
		"front":           func(s, o impl.Store) impl.Store { return impl.PartStore(s, 0, 21).Store },
		"back":            func(s, o impl.Store) impl.Store { return impl.PartStore(s, 11, 200).Store },
		"join":            func(s, o impl.Store) impl.Store { return impl.JoinStores(s, o).Store },
		"join, other way": func(s, o impl.Store) impl.Store { return impl.JoinStores(o, s).Store },
		"join nothing":    func(s, o impl.Store) impl.Store { return impl.JoinStores(s, impl.Store{}).Store },
		"nothing joined":  func(s, o impl.Store) impl.Store { return impl.JoinStores(impl.Store{}, s).Store },
	} {
		s, sStays := roomy(plainStore())
		o, oStays := roomy(other)
		first, second := call(s, o), call(s, o)
		kept := copyStore(second)
		if !sStays() || !oStays() {
			t.Errorf("%s: an argument changed", name)
		}
		spoil(first)
		if !sStays() || !oStays() || !equalStores(second, kept) {
			t.Errorf("%s: an answer shares memory", name)
		}
		spoil(s)
		spoil(o)
		if !equalStores(second, kept) {
			t.Errorf("%s: an answer changed with an argument", name)
		}
	}
}

type columnAnswers struct {
	fault       int64
	lock        impl.LocksResult
	cell        impl.IntResult
	last, of    impl.WritesResult
	part, joins impl.StoreResult
}

func askColumns(s impl.Store, key int64) columnAnswers {
	part := impl.PartStore(s, 0, key)
	return columnAnswers{impl.StoreFault(s), impl.LockAt(s, key), impl.CellAt(s, key, 9), impl.LastWrite(s, key, 9), impl.WriteOf(s, key, 9),
		part, impl.JoinStores(impl.PartStore(s, key, 200).Store, part.Store)}
}

// checkSteady asks at all keys, and again the other way round from four sides at once: nothing may have changed.
func checkSteady(t *testing.T, ask func(key int64) any) {
	t.Helper()
	first := map[int64]any{}
	for key := int64(-1); key <= 201; key++ {
		first[key] = ask(key)
	}
	var wait sync.WaitGroup
	for range 4 {
		wait.Add(1)
		go func() {
			defer wait.Done()
			for key := int64(201); key >= -1; key-- {
				if !reflect.DeepEqual(ask(key), first[key]) {
					t.Errorf("the answers at %d changed", key)
				}
			}
		}()
	}
	wait.Wait()
}

// P1: whatever was asked ahead of it, and beside it, an answer is the same; the order of a map is not to be seen.
func TestColumnAnswersHangOnArguments(t *testing.T) {
	s := madeStore(rand.New(rand.NewSource(5)), 150)
	checkSteady(t, func(key int64) any { return askColumns(s, key) })
}
