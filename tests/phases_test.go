package tests

import (
	"math"
	"math/rand"
	"reflect"
	"slices"
	"testing"

	"loop.example/g00331/impl"
)

// A said is one call of Prewrite without its store.
type said struct{ key, start, kind, value, primary, until int64 }

func prewrite(s impl.Store, p said) impl.StoreResult {
	return impl.Prewrite(s, p.key, p.start, p.kind, p.value, p.primary, p.until)
}

func within(n, least, most int64) bool { return n >= least && n <= most }

func lockOf(s impl.Store, key int64) *impl.Lock {
	for _, l := range s.Locks {
		if l.Key == key {
			return &l
		}
	}
	return nil
}

// writeBy has the first write of key that is meant.
func writeBy(s impl.Store, key int64, meant func(w impl.Write) bool) *impl.Write {
	for _, w := range s.Writes {
		if w.Key == key && meant(w) {
			return &w
		}
	}
	return nil
}

func withoutCell(s impl.Store, key, start int64) impl.Store {
	left := copyStore(s)
	left.Cells = slices.DeleteFunc(left.Cells, func(c impl.Cell) bool { return c.Key == key && c.Start == start })
	return left
}

func withoutLock(s impl.Store, key, start int64) impl.Store {
	left := copyStore(s)
	left.Locks = slices.DeleteFunc(left.Locks, func(l impl.Lock) bool { return l.Key == key && l.Start == start })
	return left
}

func withWrite(s impl.Store, w impl.Write) impl.Store {
	more := copyStore(s)
	more.Writes = append(more.Writes, w)
	sortStore(more)
	return more
}

func refuse(code int64) impl.StoreResult { return impl.StoreResult{Code: code} }

// wantPrewrite asks the document's codes one behind the other; so do the other wants.
func wantPrewrite(s impl.Store, p said) impl.StoreResult {
	for _, code := range []int64{wantStoreFault(s), wantFault(p.key), wantFault(p.primary)} {
		if code != impl.OK {
			return refuse(code)
		}
	}
	if !within(p.start, 1, 100000) || !within(p.kind, 1, 3) || !within(p.value, 0, 9999) || !within(p.until, 0, 100000) {
		return refuse(impl.ErrRange)
	}
	if p.value != 0 && p.kind != 1 {
		return refuse(impl.ErrForm)
	}
	if writeBy(s, p.key, func(w impl.Write) bool { return w.Start == p.start || w.Kind <= 2 && w.Commit >= p.start }) != nil {
		return refuse(impl.ErrOld)
	}
	if held := lockOf(s, p.key); held != nil {
		if held.Start == p.start {
			return impl.StoreResult{Store: s}
		}
		return refuse(impl.ErrLocked)
	}
	after := copyStore(s)
	if p.kind == 1 {
		after = withoutCell(s, p.key, p.start)
		after.Cells = append(after.Cells, impl.Cell{Key: p.key, Start: p.start, Value: p.value})
	}
	after.Locks = append(after.Locks, impl.Lock{Key: p.key, Start: p.start, Kind: p.kind, Primary: p.primary, Until: p.until})
	if len(after.Cells) > 200 || len(after.Locks) > 200 {
		return refuse(impl.ErrMany)
	}
	sortStore(after)
	return impl.StoreResult{Store: after}
}

func wantCommit(s impl.Store, key, start, commit int64) impl.StoreResult {
	for _, code := range []int64{wantStoreFault(s), wantFault(key)} {
		if code != impl.OK {
			return refuse(code)
		}
	}
	if !within(start, 1, 100000) || !within(commit, 1, 100000) {
		return refuse(impl.ErrRange)
	}
	if commit <= start {
		return refuse(impl.ErrForm)
	}
	if done := writeBy(s, key, func(w impl.Write) bool { return w.Start == start }); done != nil {
		if done.Commit == commit {
			return impl.StoreResult{Store: s}
		}
		return refuse(impl.ErrTaken)
	}
	lock := lockOf(s, key)
	if lock == nil || lock.Start != start {
		return refuse(impl.ErrNone)
	}
	if writeBy(s, key, func(w impl.Write) bool { return w.Commit == commit }) != nil {
		return refuse(impl.ErrTaken)
	}
	if len(s.Writes) == 200 {
		return refuse(impl.ErrMany)
	}
	return impl.StoreResult{Store: withWrite(withoutLock(s, key, start), impl.Write{Key: key, Commit: commit, Start: start, Kind: lock.Kind})}
}

func wantRollback(s impl.Store, key, start int64) impl.StoreResult {
	for _, code := range []int64{wantStoreFault(s), wantFault(key)} {
		if code != impl.OK {
			return refuse(code)
		}
	}
	if !within(start, 1, 100000) {
		return refuse(impl.ErrRange)
	}
	if done := writeBy(s, key, func(w impl.Write) bool { return w.Start == start }); done != nil {
		if done.Kind == 4 {
			return impl.StoreResult{Store: s}
		}
		return refuse(impl.ErrTaken)
	}
	if writeBy(s, key, func(w impl.Write) bool { return w.Commit == start }) != nil {
		return refuse(impl.ErrTaken)
	}
	if len(s.Writes) == 200 {
		return refuse(impl.ErrMany)
	}
	return impl.StoreResult{Store: withWrite(withoutLock(withoutCell(s, key, start), key, start), impl.Write{Key: key, Commit: start, Start: start, Kind: 4})}
}

// wantBlocked and wantRead ask for no fault: the store is right.
func wantBlocked(s impl.Store, key, ts int64) bool {
	lock := lockOf(s, key)
	return lock != nil && lock.Start <= ts
}

func wantRead(s impl.Store, key, ts int64) impl.GetResult {
	if wantBlocked(s, key, ts) {
		return impl.GetResult{Code: impl.ErrLocked}
	}
	last := wantWrite(s, key, func(w impl.Write) bool { return w.Kind <= 2 && w.Commit <= ts }).Writes
	if len(last) == 0 || last[0].Kind == 2 {
		return impl.GetResult{}
	}
	return impl.GetResult{Has: true, Value: wantCell(s, key, last[0].Start).Value}
}

func wantGet(s impl.Store, key, ts int64) impl.GetResult {
	for _, code := range []int64{wantStoreFault(s), wantFault(key)} {
		if code != impl.OK {
			return impl.GetResult{Code: code}
		}
	}
	if !within(ts, 1, 100000) {
		return impl.GetResult{Code: impl.ErrRange}
	}
	return wantRead(s, key, ts)
}

func wantScan(s impl.Store, from, to, ts int64) impl.ScanResult {
	if code := wantStoreFault(s); code != impl.OK {
		return impl.ScanResult{Code: code}
	}
	if !within(from, 0, 200) || !within(to, 0, 200) || !within(ts, 1, 100000) {
		return impl.ScanResult{Code: impl.ErrRange}
	}
	var r impl.ScanResult
	for _, k := range allKeys() {
		if k.key < from || k.key >= to {
			continue
		}
		got := wantRead(s, k.key, ts)
		if got.Code != impl.OK {
			return impl.ScanResult{Code: got.Code}
		}
		if got.Has {
			r.Pairs = append(r.Pairs, impl.Pair{Key: k.key, Value: got.Value})
		}
	}
	return r
}

func equalScans(a, b impl.ScanResult) bool {
	return a.Code == b.Code && reflect.DeepEqual(append([]impl.Pair{}, a.Pairs...), append([]impl.Pair{}, b.Pairs...))
}

// checkStored: the code, the whole store, and no fault in it; beside a code nothing.
func checkStored(t *testing.T, name string, got, want impl.StoreResult) {
	t.Helper()
	if got.Code != want.Code || !equalStores(got.Store, want.Store) {
		t.Errorf("%s: %+v, want %+v", name, got, want)
	}
	if fault := wantStoreFault(got.Store); fault != impl.OK {
		t.Errorf("%s: %+v has the fault %d", name, got.Store, fault)
	}
}

// put10 has a put of 10 in the state between: said at 3.
func put10() impl.Store {
	return impl.Store{
		Cells: []impl.Cell{{Key: 10, Start: 3, Value: 7}},
		Locks: []impl.Lock{{Key: 10, Start: 3, Kind: impl.WritePut, Primary: 21, Until: 9}},
	}
}

// done10 has it done at 5, back10 taken back.
func done10() impl.Store {
	return impl.Store{
		Cells:  []impl.Cell{{Key: 10, Start: 3, Value: 7}},
		Writes: []impl.Write{{Key: 10, Commit: 5, Start: 3, Kind: impl.WritePut}},
	}
}

func back10() impl.Store {
	return impl.Store{Writes: []impl.Write{{Key: 10, Commit: 3, Start: 3, Kind: impl.WriteBack}}}
}

func TestSaidDoneAndTakenBack(t *testing.T) {
	checkStored(t, "said", impl.Prewrite(impl.Store{}, 10, 3, impl.WritePut, 7, 21, 9), impl.StoreResult{Store: put10()})
	checkStored(t, "done", impl.CommitKey(put10(), 10, 3, 5), impl.StoreResult{Store: done10()})
	checkStored(t, "done again", impl.CommitKey(done10(), 10, 3, 5), impl.StoreResult{Store: done10()})
	checkStored(t, "done at another time", impl.CommitKey(done10(), 10, 3, 6), refuse(impl.ErrTaken))
	checkStored(t, "done ahead of that time", impl.CommitKey(done10(), 10, 3, 4), refuse(impl.ErrTaken))
	checkStored(t, "taken back", impl.RollbackKey(put10(), 10, 3), impl.StoreResult{Store: back10()})
	checkStored(t, "taken back again", impl.RollbackKey(back10(), 10, 3), impl.StoreResult{Store: back10()})
	checkStored(t, "taken back, then done", impl.CommitKey(back10(), 10, 3, 5), refuse(impl.ErrTaken))
	checkStored(t, "done, then taken back", impl.RollbackKey(done10(), 10, 3), refuse(impl.ErrTaken))
	checkStored(t, "taken back without a lock", impl.RollbackKey(impl.Store{}, 10, 3), impl.StoreResult{Store: back10()})
	checkStored(t, "said when it was taken back", impl.Prewrite(back10(), 10, 3, impl.WritePut, 7, 21, 9), refuse(impl.ErrOld))
	for ts, want := range map[int64]impl.GetResult{4: {}, 5: {Has: true, Value: 7}, 100000: {Has: true, Value: 7}} {
		if got := impl.GetAt(done10(), 10, ts); got != want {
			t.Errorf("done, read at %d: %+v, want %+v", ts, got, want)
		}
	}
}

// The ends of all numbers, and the order in which the codes are asked, without and with something in the store.
func TestPrewriteNumbers(t *testing.T) {
	lock := func(start, kind, primary, until int64) impl.Store {
		return impl.Store{Locks: []impl.Lock{{Key: 10, Start: start, Kind: kind, Primary: primary, Until: until}}}
	}
	withCell := func(s impl.Store, start, value int64) impl.Store {
		s.Cells = []impl.Cell{{Key: 10, Start: start, Value: value}}
		return s
	}
	ok := func(s impl.Store) impl.StoreResult { return impl.StoreResult{Store: s} }
	for _, c := range []struct {
		p    said
		want impl.StoreResult
	}{
		{said{10, 1, 1, 0, 10, 0}, ok(withCell(lock(1, 1, 10, 0), 1, 0))},
		{said{10, 100000, 1, 9999, 189, 100000}, ok(withCell(lock(100000, 1, 189, 100000), 100000, 9999))},
		{said{10, 2, 2, 0, 0, 1}, ok(lock(2, 2, 0, 1))},
		{said{10, 2, 3, 0, 25, 1}, ok(lock(2, 3, 25, 1))},
		{said{10, 0, 1, 7, 10, 9}, refuse(impl.ErrRange)},
		{said{10, 100001, 1, 7, 10, 9}, refuse(impl.ErrRange)},
		{said{10, -1, 1, 7, 10, 9}, refuse(impl.ErrRange)},
		{said{10, math.MinInt64, 1, 7, 10, 9}, refuse(impl.ErrRange)},
		{said{10, math.MaxInt64, 1, 7, 10, 9}, refuse(impl.ErrRange)},
		{said{10, 3, 0, 0, 10, 9}, refuse(impl.ErrRange)},
		{said{10, 3, 4, 0, 10, 9}, refuse(impl.ErrRange)},
		{said{10, 3, math.MinInt64, 0, 10, 9}, refuse(impl.ErrRange)},
		{said{10, 3, math.MaxInt64, 0, 10, 9}, refuse(impl.ErrRange)},
		{said{10, 3, 1, -1, 10, 9}, refuse(impl.ErrRange)},
		{said{10, 3, 1, 10000, 10, 9}, refuse(impl.ErrRange)},
		{said{10, 3, 1, math.MinInt64, 10, 9}, refuse(impl.ErrRange)},
		{said{10, 3, 2, math.MaxInt64, 10, 9}, refuse(impl.ErrRange)},
		{said{10, 3, 1, 7, 10, -1}, refuse(impl.ErrRange)},
		{said{10, 3, 1, 7, 10, 100001}, refuse(impl.ErrRange)},
		{said{10, 3, 1, 7, 10, math.MinInt64}, refuse(impl.ErrRange)},
		{said{10, 3, 1, 7, 10, math.MaxInt64}, refuse(impl.ErrRange)},
		{said{10, 3, 2, 1, 10, 9}, refuse(impl.ErrForm)},
		{said{10, 3, 3, 9999, 10, 9}, refuse(impl.ErrForm)},
		{said{10, 3, 3, 10000, 10, 9}, refuse(impl.ErrRange)},
		{said{10, 0, 2, 1, 10, 9}, refuse(impl.ErrRange)},
		{said{10, 3, 2, 1, 10, -1}, refuse(impl.ErrRange)},
		{said{1, 3, 1, 7, -1, 9}, refuse(impl.ErrForm)},
		{said{-1, 3, 1, 7, 1, 9}, refuse(impl.ErrRange)},
		{said{200, 3, 1, 7, 10, 9}, refuse(impl.ErrRange)},
		{said{26, 0, 0, 7, 10, 9}, refuse(impl.ErrForm)},
		{said{10, 0, 0, -1, 1, -1}, refuse(impl.ErrForm)},
		{said{10, 3, 2, 1, 200, 9}, refuse(impl.ErrRange)},
		{said{10, 3, 1, 7, math.MinInt64, 9}, refuse(impl.ErrRange)},
		{said{math.MaxInt64, 3, 1, 7, 1, 9}, refuse(impl.ErrRange)},
	} {
		checkStored(t, "to nothing", prewrite(impl.Store{}, c.p), c.want)
		if c.want.Code != impl.OK {
			checkStored(t, "to something", prewrite(plainStore(), c.p), c.want)
			checkStored(t, "to a lock", prewrite(put10(), c.p), c.want)
			checkStored(t, "to what is full", prewrite(impl.Store{Cells: fullCells(200), Writes: fullWrites(200)}, c.p), c.want)
		}
	}
}

// Who is too late: one write of key 10, of each kind, its Start and Commit around the start that is asked.
func TestPrewriteTooLate(t *testing.T) {
	for _, c := range []struct {
		write impl.Write
		start int64
		code  int64
	}{
		{impl.Write{Key: 10, Commit: 5, Start: 3, Kind: 1}, 4, impl.ErrOld},
		{impl.Write{Key: 10, Commit: 5, Start: 3, Kind: 1}, 5, impl.ErrOld},
		{impl.Write{Key: 10, Commit: 5, Start: 3, Kind: 1}, 6, impl.OK},
		{impl.Write{Key: 10, Commit: 5, Start: 3, Kind: 1}, 3, impl.ErrOld},
		{impl.Write{Key: 10, Commit: 5, Start: 3, Kind: 1}, 1, impl.ErrOld},
		{impl.Write{Key: 10, Commit: 5, Start: 3, Kind: 2}, 4, impl.ErrOld},
		{impl.Write{Key: 10, Commit: 5, Start: 3, Kind: 2}, 5, impl.ErrOld},
		{impl.Write{Key: 10, Commit: 5, Start: 3, Kind: 2}, 6, impl.OK},
		{impl.Write{Key: 10, Commit: 5, Start: 3, Kind: 3}, 2, impl.OK},
		{impl.Write{Key: 10, Commit: 5, Start: 3, Kind: 3}, 3, impl.ErrOld},
		{impl.Write{Key: 10, Commit: 5, Start: 3, Kind: 3}, 5, impl.OK},
		{impl.Write{Key: 10, Commit: 5, Start: 5, Kind: 4}, 4, impl.OK},
		{impl.Write{Key: 10, Commit: 5, Start: 5, Kind: 4}, 5, impl.ErrOld},
		{impl.Write{Key: 10, Commit: 5, Start: 5, Kind: 4}, 6, impl.OK},
		{impl.Write{Key: 11, Commit: 5, Start: 3, Kind: 1}, 3, impl.OK},
		{impl.Write{Key: 10, Commit: 100000, Start: 99999, Kind: 2}, 100000, impl.ErrOld},
		{impl.Write{Key: 10, Commit: 2, Start: 1, Kind: 2}, 1, impl.ErrOld},
	} {
		s := impl.Store{Cells: []impl.Cell{{Key: c.write.Key, Start: c.write.Start, Value: 1}}, Writes: []impl.Write{c.write}}
		for _, p := range []said{{10, c.start, 1, 7, 10, 9}, {10, c.start, 2, 0, 21, 0}, {10, c.start, 3, 0, 10, 9}} {
			got := prewrite(s, p)
			checkStored(t, "around a write", got, wantPrewrite(s, p))
			if got.Code != c.code {
				t.Errorf("%+v to %+v: code %d, want %d", p, s, got.Code, c.code)
			}
			if wrong := (said{10, c.start, 2, 1, 10, 9}); prewrite(s, wrong).Code != impl.ErrForm {
				t.Errorf("%+v to %+v: not ErrForm first", wrong, s)
			}
		}
	}
	later := impl.Store{
		Locks:  []impl.Lock{{Key: 10, Start: 4, Kind: 2, Primary: 10, Until: 9}},
		Writes: []impl.Write{{Key: 10, Commit: 6, Start: 5, Kind: 2}, {Key: 10, Commit: 7, Start: 2, Kind: 3}},
	}
	checkStored(t, "a lock of its own, and a later write", impl.Prewrite(later, 10, 4, 2, 0, 10, 9), refuse(impl.ErrOld))
	checkStored(t, "a lock of another, and a later write", impl.Prewrite(later, 10, 3, 2, 0, 10, 9), refuse(impl.ErrOld))
	checkStored(t, "a lock of another, and all writes ahead", impl.Prewrite(later, 10, 7, 2, 0, 10, 9), refuse(impl.ErrLocked))
}

// A lock of one's own stays as it was said first, whatever is said again; nobody else gets it, earlier or later.
func TestPrewriteLocks(t *testing.T) {
	full := put10()
	full.Cells = append(fullCells(199), impl.Cell{Key: 180, Start: 1})
	for _, s := range []impl.Store{put10(), full} {
		for _, p := range []said{{10, 3, 1, 7, 21, 9}, {10, 3, 1, 8, 21, 9}, {10, 3, 2, 0, 21, 9}, {10, 3, 3, 0, 0, 0}, {10, 3, 1, 0, 189, 100000}} {
			checkStored(t, "one's own", prewrite(s, p), impl.StoreResult{Store: s})
		}
		for _, start := range []int64{1, 2, 4, 5, 9, 10, 99999, 100000} {
			for kind := int64(1); kind <= 3; kind++ {
				checkStored(t, "another's", impl.Prewrite(s, 10, start, kind, 0, 21, 9), refuse(impl.ErrLocked))
			}
		}
	}
	beside := impl.Prewrite(put10(), 11, 3, impl.WriteDelete, 0, 10, 9)
	want := put10()
	want.Locks = append(want.Locks, impl.Lock{Key: 11, Start: 3, Kind: 2, Primary: 10, Until: 9})
	checkStored(t, "beside", beside, impl.StoreResult{Store: want})
	ahead := impl.Prewrite(put10(), 0, 9, impl.WritePut, 5, 10, 9)
	want = put10()
	want.Cells = append([]impl.Cell{{Key: 0, Start: 9, Value: 5}}, want.Cells...)
	want.Locks = append([]impl.Lock{{Key: 0, Start: 9, Kind: 1, Primary: 10, Until: 9}}, want.Locks...)
	checkStored(t, "ahead", ahead, impl.StoreResult{Store: want})
}

func TestPrewriteCells(t *testing.T) {
	left := impl.Store{Cells: []impl.Cell{{Key: 10, Start: 2, Value: 1}, {Key: 10, Start: 3, Value: 2}, {Key: 11, Start: 3, Value: 4}}}
	over := copyStore(left)
	over.Cells[1].Value = 9
	over.Locks = []impl.Lock{{Key: 10, Start: 3, Kind: 1, Primary: 10, Until: 5}}
	checkStored(t, "in place of a cell", impl.Prewrite(left, 10, 3, 1, 9, 10, 5), impl.StoreResult{Store: over})
	stays := copyStore(left)
	stays.Locks = []impl.Lock{{Key: 10, Start: 3, Kind: 2, Primary: 10, Until: 5}}
	checkStored(t, "a delete leaves a cell", impl.Prewrite(left, 10, 3, 2, 0, 10, 5), impl.StoreResult{Store: stays})

	full := impl.Store{Cells: fullCells(200)}
	for _, c := range []struct {
		p    said
		code int64
	}{
		{said{10, 201, 1, 7, 10, 9}, impl.ErrMany}, {said{11, 200, 1, 7, 10, 9}, impl.ErrMany}, {said{11, 1, 1, 0, 10, 9}, impl.ErrMany},
		{said{10, 200, 1, 7, 10, 9}, impl.OK}, {said{10, 1, 1, 0, 10, 9}, impl.OK},
		{said{10, 201, 2, 0, 10, 9}, impl.OK}, {said{11, 200, 3, 0, 10, 9}, impl.OK},
	} {
		got := prewrite(full, c.p)
		checkStored(t, "all cells", got, wantPrewrite(full, c.p))
		if got.Code != c.code {
			t.Errorf("%+v to all cells: code %d, want %d", c.p, got.Code, c.code)
		}
	}
	almost := impl.Store{Cells: fullCells(199)}
	got := impl.Prewrite(almost, 10, 200, 1, 200, 10, 9)
	if got.Code != impl.OK || !reflect.DeepEqual(got.Store.Cells, fullCells(200)) {
		t.Errorf("the last cell: %+v", got)
	}
	checkStored(t, "one more", impl.Prewrite(got.Store, 11, 200, 1, 0, 10, 9), refuse(impl.ErrMany))
	taken := impl.Store{Cells: fullCells(200), Writes: []impl.Write{{Key: 11, Commit: 2, Start: 1, Kind: 2}}}
	checkStored(t, "late ahead of many", impl.Prewrite(taken, 11, 2, 1, 0, 10, 9), refuse(impl.ErrOld))
}

// There are fewer keys than MaxCells: a store with so many locks has a fault, one with a lock on all keys but one has room.
func TestPrewriteAllLocks(t *testing.T) {
	checkStored(t, "so many locks", impl.Prewrite(impl.Store{Locks: manyLocks(200)}, 10, 3, 3, 0, 10, 9), refuse(impl.ErrForm))
	checkStored(t, "more locks", impl.Prewrite(impl.Store{Locks: manyLocks(201)}, 10, 3, 3, 0, 10, 9), refuse(impl.ErrMany))
	for i, lock := range lockEach() {
		rest := append(append([]impl.Lock{}, lockEach()[:i]...), lockEach()[i+1:]...)
		got := impl.Prewrite(impl.Store{Locks: rest}, lock.Key, lock.Start, lock.Kind, 0, lock.Primary, lock.Until)
		checkStored(t, "the last lock", got, impl.StoreResult{Store: impl.Store{Locks: lockEach()}})
	}
}

func TestCommitCodes(t *testing.T) {
	for _, c := range []struct {
		name               string
		s                  impl.Store
		key, start, commit int64
		code               int64
	}{
		{"the same", put10(), 10, 3, 3, impl.ErrForm}, {"below", put10(), 10, 3, 2, impl.ErrForm}, {"above", put10(), 10, 3, 4, impl.OK},
		{"the last time", put10(), 10, 3, 100000, impl.OK}, {"behind it", put10(), 10, 3, 100001, impl.ErrRange},
		{"start 0", put10(), 10, 0, 5, impl.ErrRange}, {"both 0", put10(), 10, 0, 0, impl.ErrRange}, {"commit 0", put10(), 10, 3, 0, impl.ErrRange},
		{"below 0", put10(), 10, -3, -2, impl.ErrRange}, {"start beyond", put10(), 10, 100001, 5, impl.ErrRange},
		{"both last", put10(), 10, 100000, 100000, impl.ErrForm}, {"least", put10(), 10, math.MinInt64, 5, impl.ErrRange},
		{"commit least", put10(), 10, 3, math.MinInt64, impl.ErrRange}, {"greatest", put10(), 10, 3, math.MaxInt64, impl.ErrRange},
		{"start greatest", put10(), 10, math.MaxInt64, math.MinInt64, impl.ErrRange},
		{"form ahead of done", done10(), 10, 3, 3, impl.ErrForm}, {"form ahead of none", impl.Store{}, 10, 3, 3, impl.ErrForm},
		{"key of nothing", put10(), 1, 0, 0, impl.ErrForm}, {"key beyond", put10(), 200, 3, 3, impl.ErrRange}, {"key below 0", put10(), -1, 3, 5, impl.ErrRange},
		{"key least", put10(), math.MinInt64, 3, 3, impl.ErrRange}, {"key greatest", put10(), math.MaxInt64, 3, 3, impl.ErrRange},
		{"no lock", impl.Store{}, 10, 3, 5, impl.ErrNone}, {"lock of another", put10(), 10, 4, 5, impl.ErrNone},
		{"lock of another, earlier", put10(), 10, 2, 3, impl.ErrNone}, {"lock of another key", put10(), 11, 3, 5, impl.ErrNone},
		{"the first and the second time", changedPut(1), 10, 1, 2, impl.OK}, {"the last two times", changedPut(99999), 10, 99999, 100000, impl.OK},
	} {
		got := impl.CommitKey(c.s, c.key, c.start, c.commit)
		checkStored(t, c.name, got, wantCommit(c.s, c.key, c.start, c.commit))
		if got.Code != c.code {
			t.Errorf("%s: code %d, want %d", c.name, got.Code, c.code)
		}
	}
}

// changedPut is put10 at another time.
func changedPut(start int64) impl.Store {
	s := put10()
	s.Cells[0].Start, s.Locks[0].Start = start, start
	return s
}

func TestCommitBesideWrites(t *testing.T) {
	for kind := int64(1); kind <= 4; kind++ {
		beside := impl.Write{Key: 10, Commit: 5, Start: 4, Kind: kind}
		if kind == impl.WriteBack {
			beside.Start = 5
		}
		s := withWrite(put10(), beside)
		s.Cells = append(s.Cells, impl.Cell{Key: 10, Start: beside.Start, Value: 2})
		checkStored(t, "this Commit, another Start", impl.CommitKey(s, 10, 3, 5), refuse(impl.ErrTaken))
		checkStored(t, "a Commit ahead of it", impl.CommitKey(s, 10, 3, 4), impl.StoreResult{Store: withWrite(withoutLock(s, 10, 3), impl.Write{Key: 10, Commit: 4, Start: 3, Kind: 1})})
		checkStored(t, "a Commit behind it", impl.CommitKey(s, 10, 3, 6), impl.StoreResult{Store: withWrite(withoutLock(s, 10, 3), impl.Write{Key: 10, Commit: 6, Start: 3, Kind: 1})})
		checkStored(t, "no lock, and this Commit", impl.CommitKey(s, 10, 2, 5), refuse(impl.ErrNone))
		other := withWrite(put10(), impl.Write{Key: 11, Commit: 5, Start: 5, Kind: 4})
		checkStored(t, "this Commit of another key", impl.CommitKey(other, 10, 3, 5), impl.StoreResult{Store: withWrite(withoutLock(other, 10, 3), impl.Write{Key: 10, Commit: 5, Start: 3, Kind: 1})})
	}
	for kind := int64(2); kind <= 3; kind++ {
		s := impl.Store{Locks: []impl.Lock{{Key: 10, Start: 3, Kind: kind, Primary: 0}, {Key: 11, Start: 3, Kind: kind, Primary: 10}}}
		want := impl.Store{Locks: s.Locks[1:], Writes: []impl.Write{{Key: 10, Commit: 5, Start: 3, Kind: kind}}}
		checkStored(t, "the kind of the lock", impl.CommitKey(s, 10, 3, 5), impl.StoreResult{Store: want})
	}
}

// At MaxCells writes nothing new is settled, and what was settled is answered as ever.
func TestSettledWhenFull(t *testing.T) {
	lock := []impl.Lock{{Key: 10, Start: 300, Kind: 2, Primary: 10, Until: 9}}
	full, almost := impl.Store{Locks: lock, Writes: fullWrites(200)}, impl.Store{Locks: lock, Writes: fullWrites(199)}
	full.Writes[199] = impl.Write{Key: 10, Commit: 350, Start: 200, Kind: 3}
	almost.Writes[198] = full.Writes[199]
	checkStored(t, "commit", impl.CommitKey(full, 10, 300, 301), refuse(impl.ErrMany))
	checkStored(t, "commit at a taken time", impl.CommitKey(full, 10, 300, 350), refuse(impl.ErrTaken))
	checkStored(t, "commit again", impl.CommitKey(full, 10, 200, 350), impl.StoreResult{Store: full})
	checkStored(t, "commit without a lock", impl.CommitKey(full, 10, 299, 301), refuse(impl.ErrNone))
	checkStored(t, "take back", impl.RollbackKey(full, 10, 300), refuse(impl.ErrMany))
	checkStored(t, "take back without a lock", impl.RollbackKey(full, 11, 1), refuse(impl.ErrMany))
	checkStored(t, "take back again", impl.RollbackKey(full, 10, 1), impl.StoreResult{Store: full})
	checkStored(t, "take back what is done", impl.RollbackKey(full, 10, 200), refuse(impl.ErrTaken))
	checkStored(t, "take back at a taken time", impl.RollbackKey(full, 10, 350), refuse(impl.ErrTaken))
	checkStored(t, "the last write", impl.CommitKey(almost, 10, 300, 301),
		impl.StoreResult{Store: withWrite(withoutLock(almost, 10, 300), impl.Write{Key: 10, Commit: 301, Start: 300, Kind: 2})})
	checkStored(t, "the last one taken back", impl.RollbackKey(almost, 10, 300),
		impl.StoreResult{Store: withWrite(withoutLock(almost, 10, 300), impl.Write{Key: 10, Commit: 300, Start: 300, Kind: 4})})
}

func TestRollbackCodes(t *testing.T) {
	for _, c := range []struct {
		name       string
		s          impl.Store
		key, start int64
		code       int64
	}{
		{"start 0", put10(), 10, 0, impl.ErrRange}, {"start below 0", put10(), 10, -1, impl.ErrRange}, {"start beyond", put10(), 10, 100001, impl.ErrRange},
		{"least", put10(), 10, math.MinInt64, impl.ErrRange}, {"greatest", put10(), 10, math.MaxInt64, impl.ErrRange},
		{"the first time", put10(), 10, 1, impl.OK}, {"the last time", put10(), 10, 100000, impl.OK},
		{"key of nothing", put10(), 26, 0, impl.ErrForm}, {"key beyond", put10(), 200, 3, impl.ErrRange},
		{"key least", put10(), math.MinInt64, 3, impl.ErrRange}, {"key greatest", put10(), math.MaxInt64, 3, impl.ErrRange},
		{"its own lock", put10(), 10, 3, impl.OK}, {"another's lock", put10(), 10, 4, impl.OK}, {"another key's", put10(), 11, 3, impl.OK},
		{"done", done10(), 10, 3, impl.ErrTaken}, {"at its commit", done10(), 10, 5, impl.ErrTaken}, {"between", done10(), 10, 4, impl.OK},
		{"behind it", done10(), 10, 6, impl.OK}, {"the commit of another key", done10(), 11, 5, impl.OK}, {"back already", back10(), 10, 3, impl.OK},
		{"a lock alone that is done", plainStore(), 10, 4, impl.ErrTaken}, {"at its commit", plainStore(), 10, 5, impl.ErrTaken},
		{"a delete that is done", plainStore(), 10, 1, impl.ErrTaken}, {"at its commit", plainStore(), 10, 7, impl.ErrTaken},
		{"back already, among others", plainStore(), 10, 8, impl.OK},
	} {
		got := impl.RollbackKey(c.s, c.key, c.start)
		checkStored(t, c.name, got, wantRollback(c.s, c.key, c.start))
		if got.Code != c.code {
			t.Errorf("%s: code %d, want %d", c.name, got.Code, c.code)
		}
	}
}

// What is gone with what is taken back: its own lock and its own cell, whether it had a lock or not.
func TestRollbackTakesItsOwn(t *testing.T) {
	back := func(key, start int64) impl.Write {
		return impl.Write{Key: key, Commit: start, Start: start, Kind: impl.WriteBack}
	}
	s := put10()
	s.Cells = []impl.Cell{{Key: 10, Start: 2, Value: 1}, {Key: 10, Start: 3, Value: 7}, {Key: 10, Start: 4, Value: 8}, {Key: 11, Start: 3, Value: 9}}
	want := impl.Store{Cells: []impl.Cell{s.Cells[0], s.Cells[2], s.Cells[3]}, Writes: []impl.Write{back(10, 3)}}
	checkStored(t, "lock and cell", impl.RollbackKey(s, 10, 3), impl.StoreResult{Store: want})
	want = impl.Store{Cells: []impl.Cell{s.Cells[0], s.Cells[1], s.Cells[3]}, Locks: s.Locks, Writes: []impl.Write{back(10, 4)}}
	checkStored(t, "a cell without a lock", impl.RollbackKey(s, 10, 4), impl.StoreResult{Store: want})
	want = impl.Store{Cells: s.Cells, Locks: s.Locks, Writes: []impl.Write{back(10, 5)}}
	checkStored(t, "neither", impl.RollbackKey(s, 10, 5), impl.StoreResult{Store: want})
	s.Locks[0].Kind = impl.WriteDelete
	want = impl.Store{Cells: []impl.Cell{s.Cells[0], s.Cells[2], s.Cells[3]}, Writes: []impl.Write{back(10, 3)}}
	checkStored(t, "a delete with a cell", impl.RollbackKey(s, 10, 3), impl.StoreResult{Store: want})
}

// plainStore has on 10 a put of 7 at 3, a delete at 7, a put of 8 at 11; on 0 a put of 0 at 2 and a lock of 100000;
// on 20 and 21 locks of 12; on 189 a put at 100000.
func TestGetAtTimes(t *testing.T) {
	s := plainStore()
	has := func(value int64) impl.GetResult { return impl.GetResult{Has: true, Value: value} }
	no := func(code int64) impl.GetResult { return impl.GetResult{Code: code} }
	for _, c := range []struct {
		key, ts int64
		want    impl.GetResult
	}{
		{10, 1, no(impl.OK)}, {10, 2, no(impl.OK)}, {10, 3, has(7)}, {10, 4, has(7)}, {10, 6, has(7)}, {10, 7, no(impl.OK)}, {10, 8, no(impl.OK)},
		{10, 9, no(impl.OK)}, {10, 10, no(impl.OK)}, {10, 11, has(8)}, {10, 13, has(8)}, {10, 14, has(8)}, {10, 100000, has(8)},
		{0, 1, no(impl.OK)}, {0, 2, has(0)}, {0, 99999, has(0)}, {0, 100000, no(impl.ErrLocked)},
		{20, 11, no(impl.OK)}, {20, 12, no(impl.ErrLocked)}, {20, 13, no(impl.ErrLocked)}, {20, 100000, no(impl.ErrLocked)},
		{21, 11, no(impl.OK)}, {21, 12, no(impl.ErrLocked)}, {43, 100000, no(impl.OK)}, {189, 99999, no(impl.OK)}, {189, 100000, has(9999)},
		{10, 0, no(impl.ErrRange)}, {10, -1, no(impl.ErrRange)}, {10, 100001, no(impl.ErrRange)}, {10, math.MinInt64, no(impl.ErrRange)},
		{10, math.MaxInt64, no(impl.ErrRange)}, {20, 100001, no(impl.ErrRange)}, {0, math.MaxInt64, no(impl.ErrRange)},
		{1, 0, no(impl.ErrForm)}, {1, 5, no(impl.ErrForm)}, {-1, 5, no(impl.ErrRange)}, {200, 5, no(impl.ErrRange)},
		{math.MinInt64, 5, no(impl.ErrRange)}, {math.MaxInt64, 5, no(impl.ErrRange)},
	} {
		if got := impl.GetAt(s, c.key, c.ts); got != c.want {
			t.Errorf("GetAt %d at %d: %+v, want %+v", c.key, c.ts, got, c.want)
		}
	}
}

func TestBlockedAtTimes(t *testing.T) {
	s := plainStore()
	for _, c := range []struct {
		key, ts int64
		want    bool
	}{
		{20, 11, false}, {20, 12, true}, {20, 13, true}, {20, 0, false}, {20, -12, false}, {20, math.MinInt64, false}, {20, math.MaxInt64, true},
		{20, 100001, true}, {0, 99999, false}, {0, 100000, true}, {10, 100000, false}, {10, math.MaxInt64, false}, {1, 100000, false},
		{-1, 100000, false}, {200, 100000, false}, {math.MinInt64, math.MaxInt64, false}, {math.MaxInt64, math.MaxInt64, false},
	} {
		if got := impl.BlockedAt(s, c.key, c.ts); got != c.want {
			t.Errorf("BlockedAt %d at %d: %v, want %v", c.key, c.ts, got, c.want)
		}
	}
	wrong := changed(func(s *impl.Store) { s.Cells[0].Value = -1 })
	if impl.BlockedAt(wrong, 20, 12) {
		t.Error("BlockedAt a store with a fault")
	}
}

func TestScanBounds(t *testing.T) {
	s := plainStore()
	pair := func(key, value int64) impl.Pair { return impl.Pair{Key: key, Value: value} }
	for _, c := range []struct {
		from, to, ts int64
		code         int64
		pairs        []impl.Pair
	}{
		{0, 200, 11, impl.OK, []impl.Pair{pair(0, 0), pair(10, 8)}}, {0, 200, 12, impl.ErrLocked, nil}, {0, 200, 1, impl.OK, nil},
		{0, 200, 2, impl.OK, []impl.Pair{pair(0, 0)}}, {0, 200, 7, impl.OK, []impl.Pair{pair(0, 0)}}, {0, 200, 100000, impl.ErrLocked, nil},
		{0, 20, 12, impl.OK, []impl.Pair{pair(0, 0), pair(10, 8)}}, {0, 21, 12, impl.ErrLocked, nil}, {20, 21, 12, impl.ErrLocked, nil},
		{21, 22, 12, impl.ErrLocked, nil}, {22, 200, 100000, impl.OK, []impl.Pair{pair(189, 9999)}}, {22, 189, 100000, impl.OK, nil},
		{189, 190, 100000, impl.OK, []impl.Pair{pair(189, 9999)}}, {0, 1, 99999, impl.OK, []impl.Pair{pair(0, 0)}}, {0, 1, 100000, impl.ErrLocked, nil},
		{1, 20, 100000, impl.OK, []impl.Pair{pair(10, 8)}}, {10, 11, 3, impl.OK, []impl.Pair{pair(10, 7)}}, {11, 20, 3, impl.OK, nil}, {0, 10, 3, impl.OK, []impl.Pair{pair(0, 0)}},
		{0, 0, 12, impl.OK, nil}, {20, 20, 12, impl.OK, nil}, {21, 20, 12, impl.OK, nil}, {200, 0, 100000, impl.OK, nil}, {200, 200, 12, impl.OK, nil}, {22, 20, 12, impl.OK, nil},
		{-1, 200, 11, impl.ErrRange, nil}, {0, 201, 11, impl.ErrRange, nil}, {201, 0, 11, impl.ErrRange, nil}, {0, -1, 11, impl.ErrRange, nil},
		{0, 201, 12, impl.ErrRange, nil}, {0, 200, 0, impl.ErrRange, nil}, {0, 200, 100001, impl.ErrRange, nil}, {0, 200, -1, impl.ErrRange, nil},
		{0, 0, 0, impl.ErrRange, nil}, {math.MinInt64, math.MaxInt64, 11, impl.ErrRange, nil}, {0, math.MaxInt64, 11, impl.ErrRange, nil},
		{math.MinInt64, 0, 11, impl.ErrRange, nil}, {0, 200, math.MinInt64, impl.ErrRange, nil}, {0, 200, math.MaxInt64, impl.ErrRange, nil},
	} {
		want := impl.ScanResult{Code: c.code, Pairs: c.pairs}
		if got := impl.ScanAt(s, c.from, c.to, c.ts); !equalScans(got, want) || !equalScans(want, wantScan(s, c.from, c.to, c.ts)) {
			t.Errorf("ScanAt %d to %d at %d: %+v, want %+v", c.from, c.to, c.ts, got, want)
		}
	}
}

// A scan of all keys tells them rising; the numbers between that stand for nothing are left out.
func TestScanAllKeys(t *testing.T) {
	var s impl.Store
	var want impl.ScanResult
	for _, k := range allKeys() {
		s.Cells = append(s.Cells, impl.Cell{Key: k.key, Start: 4, Value: 9999 - k.key})
		s.Writes = append(s.Writes, impl.Write{Key: k.key, Commit: 6, Start: 4, Kind: impl.WritePut})
		want.Pairs = append(want.Pairs, impl.Pair{Key: k.key, Value: 9999 - k.key})
	}
	if got := impl.ScanAt(s, 0, 200, 6); !equalScans(got, want) {
		t.Errorf("all: %+v", got)
	}
	if got := impl.ScanAt(s, 0, 200, 5); !equalScans(got, impl.ScanResult{}) {
		t.Errorf("ahead of all: %+v", got)
	}
	for from := int64(0); from <= 200; from += 5 {
		for to := int64(0); to <= 200; to += 11 {
			if got := impl.ScanAt(s, from, to, 6); !equalScans(got, wantScan(s, from, to, 6)) {
				t.Errorf("%d to %d: %+v", from, to, got)
			}
		}
	}
}

// faultyStores have each one thing that is not right, and nothing else.
func faultyStores() []impl.Store {
	return []impl.Store{
		changed(func(s *impl.Store) { s.Cells[1].Key = 1 }), changed(func(s *impl.Store) { s.Cells[5].Value = 10000 }),
		changed(func(s *impl.Store) { s.Cells = s.Cells[1:] }), changed(func(s *impl.Store) { s.Locks[2].Primary = math.MinInt64 }),
		changed(func(s *impl.Store) { s.Locks[0], s.Locks[1] = s.Locks[1], s.Locks[0] }), changed(func(s *impl.Store) { s.Writes[3].Start = 2 }),
		changed(func(s *impl.Store) { s.Writes[8].Commit = math.MaxInt64 }), changed(func(s *impl.Store) { s.Writes[4].Kind = 3 }),
		changed(func(s *impl.Store) { s.Locks[1].Start = 0 }),
		{Cells: fullCells(201)}, {Locks: manyLocks(201)}, {Writes: fullWrites(201)}, {Locks: manyLocks(200)},
	}
}

// checkFaultFirst asks of each store that has a fault, at numbers of all kinds; the store stays as it was.
func checkFaultFirst(t *testing.T, ask func(s impl.Store, n, code int64)) {
	t.Helper()
	for _, s := range faultyStores() {
		code := wantStoreFault(s)
		if code == impl.OK {
			t.Fatalf("%+v has no fault", s)
		}
		before := copyStore(s)
		for _, n := range []int64{math.MinInt64, -1, 0, 1, 2, 10, 12, 20, 21, 200, 100001, math.MaxInt64} {
			ask(s, n, code)
		}
		if !equalStores(before, s) {
			t.Errorf("%+v changed", s)
		}
	}
}

// A fault of the store comes first, ahead of all that is wrong with the numbers.
func TestPhasesAskTheStore(t *testing.T) {
	checkFaultFirst(t, func(s impl.Store, n, code int64) {
		for _, r := range []impl.StoreResult{
			impl.Prewrite(s, n, n, n, n, n, n), impl.Prewrite(s, 10, 15, 1, 1, 10, 10), impl.Prewrite(s, 1, n, 1, 1, -1, 10),
			impl.CommitKey(s, n, n, n), impl.CommitKey(s, 21, 12, 13), impl.RollbackKey(s, n, n), impl.RollbackKey(s, 21, 12),
		} {
			checkStored(t, "a store with a fault", r, refuse(code))
		}
		if got := impl.GetAt(s, n, n); got != (impl.GetResult{Code: code}) {
			t.Errorf("GetAt %d of %+v: %+v, want %d alone", n, s, got, code)
		}
		if got := impl.ScanAt(s, n, n, n); !equalScans(got, impl.ScanResult{Code: code}) {
			t.Errorf("ScanAt %d of %+v: %+v, want %d alone", n, s, got, code)
		}
		if impl.BlockedAt(s, n, 100000) {
			t.Errorf("BlockedAt %d of %+v", n, s)
		}
	})
}

// phaseStores are right stores of many shapes, some at their bounds.
func phaseStores(seed int64) []impl.Store {
	r := rand.New(rand.NewSource(seed))
	stores := []impl.Store{{}, plainStore(), put10(), done10(), back10(),
		{Cells: fullCells(200), Locks: lockEach()[2:], Writes: fullWrites(200)}, {Cells: fullCells(200), Writes: fullWrites(199)}}
	for size := range 8 {
		stores = append(stores, madeStore(r, 10+size*20))
	}
	return stores
}

// All six, at keys and times that meet what the store has, and at odd ones, against the document's codes one by one.
func TestPhasesAtEachTime(t *testing.T) {
	r := rand.New(rand.NewSource(8))
	odd := []int64{math.MinInt64, -1, 0, 99999, 100000, 100001, math.MaxInt64}
	for _, s := range phaseStores(7) {
		for _, key := range []int64{0, 1, 10, 11, 20, 25, 180, 189, 190, 200} {
			for i := int64(-3); i <= 37; i++ {
				start, commit := i, i+r.Int63n(7)-1
				if i < 0 {
					start = odd[r.Intn(len(odd))]
				}
				if r.Intn(12) == 0 {
					commit = odd[r.Intn(len(odd))]
				}
				p := said{key, start, r.Int63n(5), r.Int63n(2) * r.Int63n(10001), []int64{10, 10, 10, 180, 7, 200}[r.Intn(6)], r.Int63n(12) - 1}
				if r.Intn(2) == 0 {
					p.kind, p.value = 1+r.Int63n(3), 0
				}
				checkStored(t, "Prewrite", prewrite(s, p), wantPrewrite(s, p))
				checkStored(t, "CommitKey", impl.CommitKey(s, key, start, commit), wantCommit(s, key, start, commit))
				checkStored(t, "RollbackKey", impl.RollbackKey(s, key, start), wantRollback(s, key, start))
				if got := impl.GetAt(s, key, start); got != wantGet(s, key, start) {
					t.Errorf("GetAt(%+v, %d, %d) = %+v, want %+v", s, key, start, got, wantGet(s, key, start))
				}
				if got := impl.BlockedAt(s, key, start); got != wantBlocked(s, key, start) {
					t.Errorf("BlockedAt(%+v, %d, %d) = %v", s, key, start, got)
				}
				to := r.Int63n(202)
				if got := impl.ScanAt(s, key, to, start); !equalScans(got, wantScan(s, key, to, start)) {
					t.Errorf("ScanAt(%+v, %d, %d, %d) = %+v, want %+v", s, key, to, start, got, wantScan(s, key, to, start))
				}
			}
		}
	}
}

// unlocked is s without locks, so that all that is done is read.
func unlocked(s impl.Store) impl.Store {
	free := copyStore(s)
	free.Locks = nil
	return free
}

func readTimes() []int64 {
	times := []int64{50, 99999, 100000}
	for ts := int64(1); ts <= 43; ts += 2 {
		times = append(times, ts)
	}
	return times
}

// P4: who said it has the lock, and nobody else gets it.
func TestSaidHasTheLock(t *testing.T) {
	tried := 0
	for _, s := range phaseStores(11) {
		for _, key := range []int64{0, 10, 20, 180} {
			for start := int64(1); start <= 39; start += 2 {
				p := said{key, start, 1 + start%3, 0, 10, 50}
				got := prewrite(s, p)
				if got.Code != impl.OK {
					continue
				}
				tried++
				lock := impl.LockAt(got.Store, key)
				if lock.Code != impl.OK || lock.Locks[0].Start != start {
					t.Fatalf("%+v to %+v: the lock is %+v", p, s, lock)
				}
				for _, other := range []int64{1, start - 1, start + 1, 40, 100000} {
					if code := impl.Prewrite(got.Store, key, other, 3, 0, 10, 50).Code; other > 0 && other != start && code != impl.ErrLocked && code != impl.ErrOld {
						t.Fatalf("%d gets the lock of %d: code %d", other, start, code)
					}
					if code := impl.CommitKey(got.Store, key, other, 99999).Code; other > 0 && other < 99999 && other != start && code != impl.ErrNone && code != impl.ErrTaken {
						t.Fatalf("%d commits by the lock of %d: code %d", other, start, code)
					}
				}
				checkStored(t, "said again", prewrite(got.Store, p), impl.StoreResult{Store: got.Store})
			}
		}
	}
	if tried < 100 {
		t.Errorf("only %d were said", tried)
	}
}

// P4: what is committed is read from its time on, ahead of it what was there before.
func TestCommittedIsRead(t *testing.T) {
	tried := 0
	for _, s := range phaseStores(12) {
		s = unlocked(s)
		for _, key := range []int64{0, 10, 20, 180} {
			for start := int64(30); start <= 40; start++ {
				kind, value := 1+start%3, int64(0)
				if kind == impl.WritePut {
					value = start * 7
				}
				first := impl.Prewrite(s, key, start, kind, value, key, 0)
				second := impl.CommitKey(first.Store, key, start, start+1)
				if first.Code != impl.OK || second.Code != impl.OK {
					continue
				}
				tried++
				for _, ts := range readTimes() {
					want := impl.GetAt(s, key, ts)
					if ts > start && kind != impl.WriteLock {
						want = impl.GetResult{Has: kind == impl.WritePut, Value: value}
					}
					if got := impl.GetAt(second.Store, key, ts); got != want {
						t.Fatalf("%d of %d, kind %d, done to %+v, read at %d: %+v, want %+v", key, start, kind, s, ts, got, want)
					}
					between := impl.GetAt(first.Store, key, ts)
					if ts >= start && between.Code != impl.ErrLocked || ts < start && between != impl.GetAt(s, key, ts) {
						t.Fatalf("%d of %d said to %+v, read at %d: %+v", key, start, s, ts, between)
					}
				}
			}
		}
	}
	if tried < 100 {
		t.Errorf("only %d were done", tried)
	}
}

// P4: what was taken back is never done, and nothing of it is read.
func TestTakenBackIsNeverDone(t *testing.T) {
	tried := 0
	for _, s := range phaseStores(13) {
		s = unlocked(s)
		for _, key := range []int64{0, 10, 20, 180} {
			for start := int64(1); start <= 40; start += 3 {
				first := impl.Prewrite(s, key, start, impl.WritePut, 4321, key, 0)
				if first.Code != impl.OK {
					first.Store = s
				}
				back := impl.RollbackKey(first.Store, key, start)
				if back.Code != impl.OK {
					continue
				}
				tried++
				for commit := start + 1; commit <= start+12; commit++ {
					if code := impl.CommitKey(back.Store, key, start, commit).Code; code != impl.ErrTaken {
						t.Fatalf("%d of %d, taken back in %+v, is done: code %d", key, start, s, code)
					}
				}
				if code := impl.Prewrite(back.Store, key, start, impl.WritePut, 1, key, 0).Code; code != impl.ErrOld {
					t.Fatalf("%d of %d, taken back in %+v, is said again: code %d", key, start, s, code)
				}
				newly := impl.WriteOf(s, key, start).Code == impl.ErrNone
				if newly && impl.CellAt(back.Store, key, start).Code != impl.ErrNone || impl.LockAt(back.Store, key).Code != impl.ErrNone {
					t.Fatalf("%d of %d, taken back in %+v: something is left", key, start, s)
				}
				for _, ts := range readTimes() {
					if got := impl.GetAt(back.Store, key, ts); got != impl.GetAt(s, key, ts) {
						t.Fatalf("%d of %d, taken back in %+v, read at %d: %+v", key, start, s, ts, got)
					}
				}
			}
		}
	}
	if tried < 100 {
		t.Errorf("only %d were taken back", tried)
	}
}

// P4: a scan tells of each key what is read of it, and what is blocked blocks it.
func TestScanTellsWhatIsRead(t *testing.T) {
	for _, s := range phaseStores(14) {
		for _, whole := range []impl.Store{s, unlocked(s)} {
			for _, ts := range []int64{1, 6, 12, 20, 100000} {
				for _, b := range [][2]int64{{0, 200}, {10, 20}, {0, 21}, {180, 190}, {25, 26}} {
					want := impl.ScanResult{}
					for key := b[0]; key < b[1]; key++ {
						got := impl.GetAt(whole, key, ts)
						if impl.BlockedAt(whole, key, ts) != (got.Code == impl.ErrLocked) {
							t.Fatalf("%d of %+v at %d: blocked, or not, and %+v", key, whole, ts, got)
						}
						if got.Code == impl.ErrLocked {
							want.Code = impl.ErrLocked
						}
						if got.Has {
							want.Pairs = append(want.Pairs, impl.Pair{Key: key, Value: got.Value})
						}
					}
					if want.Code != impl.OK {
						want.Pairs = nil
					}
					if got := impl.ScanAt(whole, b[0], b[1], ts); !equalScans(got, want) {
						t.Fatalf("ScanAt(%+v, %v, %d) = %+v, want %+v", whole, b, ts, got, want)
					}
				}
			}
		}
	}
}

// Calls in long rows, each done to what the one ahead left: the store stays right, and what is refused changes nothing.
func TestPhasesInRows(t *testing.T) {
	r := rand.New(rand.NewSource(15))
	for range 12 {
		var s impl.Store
		for step := range int64(120) {
			key := []int64{0, 10, 20, 189}[r.Intn(4)]
			start := max(1, step-r.Int63n(12))
			var got, want impl.StoreResult
			switch r.Intn(4) {
			case 0, 1:
				p := said{key, start, 1 + r.Int63n(3), 0, 10, r.Int63n(50)}
				got, want = prewrite(s, p), wantPrewrite(s, p)
			case 2:
				if lock := lockOf(s, key); lock != nil {
					start = lock.Start
				}
				commit := start + r.Int63n(6)
				got, want = impl.CommitKey(s, key, start, commit), wantCommit(s, key, start, commit)
			case 3:
				got, want = impl.RollbackKey(s, key, start), wantRollback(s, key, start)
			}
			checkStored(t, "in a row", got, want)
			if got.Code == impl.OK {
				s = got.Store
			}
		}
		if len(s.Writes) < 10 {
			t.Errorf("a row came to %d writes alone", len(s.Writes))
		}
	}
}

// checkOwnMemory: a call leaves the store as it was, behind its length as well, and answers with memory that nobody else has.
func checkOwnMemory(t *testing.T, name string, from impl.Store, call func(s impl.Store) impl.Store) {
	t.Helper()
	s, stays := roomy(from)
	first, second := call(s), call(s)
	kept := copyStore(second)
	if !stays() {
		t.Errorf("%s: the argument changed", name)
	}
	spoil(first)
	if !stays() || !equalStores(second, kept) {
		t.Errorf("%s: an answer shares memory", name)
	}
	spoil(s)
	if !equalStores(second, kept) {
		t.Errorf("%s: an answer changed with the argument", name)
	}
}

// P1: arguments stay as they were, answers are new memory, also where nothing changes.
func TestPhasesNewMemory(t *testing.T) {
	for name, call := range map[string]func(s impl.Store) impl.Store{
		"said":                func(s impl.Store) impl.Store { return impl.Prewrite(s, 11, 3, 1, 5, 10, 9).Store },
		"said over a cell":    func(s impl.Store) impl.Store { return impl.Prewrite(s, 43, 5, 1, 6, 10, 9).Store },
		"said ahead of all":   func(s impl.Store) impl.Store { return impl.Prewrite(s, 10, 15, 3, 0, 10, 9).Store },
		"said again":          func(s impl.Store) impl.Store { return impl.Prewrite(s, 21, 12, 1, 5, 10, 9).Store },
		"said too late":       func(s impl.Store) impl.Store { return impl.Prewrite(s, 10, 9, 1, 5, 10, 9).Store },
		"done":                func(s impl.Store) impl.Store { return impl.CommitKey(s, 21, 12, 13).Store },
		"done between":        func(s impl.Store) impl.Store { return impl.CommitKey(s, 20, 12, 100000).Store },
		"done again":          func(s impl.Store) impl.Store { return impl.CommitKey(s, 10, 9, 11).Store },
		"done otherwise":      func(s impl.Store) impl.Store { return impl.CommitKey(s, 10, 9, 12).Store },
		"back":                func(s impl.Store) impl.Store { return impl.RollbackKey(s, 21, 12).Store },
		"back without a lock": func(s impl.Store) impl.Store { return impl.RollbackKey(s, 0, 1000).Store },
		"back, its cell":      func(s impl.Store) impl.Store { return impl.RollbackKey(s, 43, 5).Store },
		"back again":          func(s impl.Store) impl.Store { return impl.RollbackKey(s, 10, 8).Store },
		"back when done":      func(s impl.Store) impl.Store { return impl.RollbackKey(s, 10, 9).Store },
		"read":                func(s impl.Store) impl.Store { impl.GetAt(s, 10, 9); return impl.Store{} },
		"blocked":             func(s impl.Store) impl.Store { impl.BlockedAt(s, 20, 12); return impl.Store{} },
		"scanned":             func(s impl.Store) impl.Store { impl.ScanAt(s, 0, 200, 11); return impl.Store{} },
	} {
		checkOwnMemory(t, name, plainStore(), call)
	}
	first, second := impl.ScanAt(plainStore(), 0, 200, 11), impl.ScanAt(plainStore(), 0, 200, 11)
	for i := range first.Pairs[:cap(first.Pairs)] {
		first.Pairs[:cap(first.Pairs)][i] = impl.Pair{Key: -7}
	}
	if !equalScans(second, wantScan(plainStore(), 0, 200, 11)) {
		t.Errorf("two scans share memory: %+v", second)
	}
}

type phaseAnswers struct {
	said, done, back impl.StoreResult
	got              impl.GetResult
	scan             impl.ScanResult
	blocked          bool
}

func askPhases(s impl.Store, key int64) phaseAnswers {
	return phaseAnswers{impl.Prewrite(s, key, 40, 1, 5, 10, 9), impl.CommitKey(s, key, 12, 50), impl.RollbackKey(s, key, 12),
		impl.GetAt(s, key, 12), impl.ScanAt(s, 0, key, 12), impl.BlockedAt(s, key, 12)}
}

// P1: whatever was asked ahead of it, and beside it, an answer is the same.
func TestPhaseAnswersHangOnArguments(t *testing.T) {
	s := madeStore(rand.New(rand.NewSource(16)), 120)
	checkSteady(t, func(key int64) any { return askPhases(s, key) })
}
