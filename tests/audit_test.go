package tests

import (
	"fmt"
	"math"
	"math/rand"
	"slices"
	"testing"

	"loop.example/g00331/impl"
)

func TestAuditConstants(t *testing.T) {
	if impl.MaxRounds != 1200 {
		t.Error("bounds")
	}
}

func noDrive(code int64) impl.DriveResult { return impl.DriveResult{Code: code} }

func driven(rounds int64, w impl.World) impl.DriveResult {
	return impl.DriveResult{Rounds: rounds, World: w}
}

func checkDrive(t *testing.T, name string, got, want impl.DriveResult) {
	t.Helper()
	if got.Code != want.Code || got.Rounds != want.Rounds || !equalWorlds(got.World, want.World) {
		t.Errorf("%s: %+v, want %+v", name, got, want)
	}
	if fault := wantWorldFault(got.World); got.Code == impl.OK && fault != impl.OK {
		t.Errorf("%s: %+v has the fault %d", name, got.World, fault)
	}
}

// wantDrive says it once more, by rounds of StepWorld.
func wantDrive(w impl.World) impl.DriveResult {
	if code := wantWorldFault(w); code != impl.OK {
		return noDrive(code)
	}
	got := driven(0, copyWorld(w))
	for range 1200 {
		moved := false
		for place := range got.World.Txns {
			next := impl.StepWorld(got.World, int64(place))
			got.World, moved = next.World, moved || next.Moved
		}
		live := slices.ContainsFunc(got.World.Txns, func(txn impl.Txn) bool { return !wantOver(txn) })
		switch {
		case moved:
			got.Rounds++
		case !live || got.World.Now+21 > 100000:
			return got
		default:
			got.World.Now += 21
		}
	}
	return got
}

// wantAtomic and the others up to wantLive say the chapter once more, of all stores as one.
func wantAtomic(w impl.World) bool {
	if wantWorldFault(w) != impl.OK {
		return false
	}
	all := wantUnionOf(w.Groups)
	for _, txn := range w.Txns {
		commit := func(key int64) int64 {
			return writeBy(all, key, func(w impl.Write) bool { return w.Start == txn.Start }).Commit
		}
		first := txn.Items[0].Key
		for _, item := range txn.Items {
			status := wantStatus(all, item.Key, txn.Start)
			switch {
			case wantStatus(all, first, txn.Start) != 2:
				if status == 2 {
					return false
				}
			case status == 2:
				if commit(item.Key) != commit(first) {
					return false
				}
			case status != 1:
				return false
			}
		}
	}
	return true
}

func wantSerial(w impl.World) bool {
	if wantWorldFault(w) != impl.OK {
		return false
	}
	for _, d := range wantCommitted(w).Dones {
		txn := w.Txns[d.Place]
		begun, ahead := wantModel(w, txn.Start).Pairs, wantModel(w, d.Commit-1).Pairs
		for _, item := range txn.Items {
			if wantValueIn(begun, item.Key) != wantValueIn(ahead, item.Key) {
				return false
			}
		}
	}
	return true
}

func wantReads(w impl.World, ts int64) bool {
	if wantWorldFault(w) != impl.OK || !within(ts, 1, w.Oracle.Next-1) {
		return false
	}
	all, model := wantUnionOf(w.Groups), wantModel(w, ts).Pairs
	for _, k := range allKeys() {
		read, _ := wantReadIn(all, k.key, ts, w.Now)
		if read.Code != impl.ErrLocked && read != wantValueIn(model, k.key) {
			return false
		}
	}
	return true
}

func wantLive(w impl.World) impl.IntResult {
	if code := wantWorldFault(w); code != impl.OK {
		return impl.IntResult{Code: code}
	}
	live := impl.IntResult{}
	for _, txn := range w.Txns {
		if !wantOver(txn) {
			live.Value++
		}
	}
	return live
}

// checkAudit asks the four that change nothing, against the chapter's words; the world stays as it was.
func checkAudit(t *testing.T, name string, w impl.World, times ...int64) {
	t.Helper()
	kept := copyWorld(w)
	if got, want := impl.AtomicRight(w), wantAtomic(w); got != want {
		t.Errorf("%s: %+v is all or nothing: %v, want %v", name, w, got, want)
	}
	if got, want := impl.SerialRight(w), wantSerial(w); got != want {
		t.Errorf("%s: %+v is one behind the other: %v, want %v", name, w, got, want)
	}
	if got, want := impl.LiveTxns(w), wantLive(w); got != want {
		t.Errorf("%s: %+v are live, want %+v", name, got, want)
	}
	for _, ts := range times {
		if got, want := impl.ReadsRight(w, ts), wantReads(w, ts); got != want {
			t.Errorf("%s: %+v is read right at %d: %v, want %v", name, w, ts, got, want)
		}
	}
	if !equalWorlds(kept, w) {
		t.Errorf("%s: %+v became %+v", name, kept, w)
	}
}

// hasNoFault: that a bool is false is to be told of what is broken, and not of a fault.
func hasNoFault(t *testing.T, name string, w impl.World) {
	t.Helper()
	if code := impl.WorldFault(w); code != impl.OK {
		t.Errorf("%s: %+v has the fault %d", name, w, code)
	}
}

func checkAtomic(t *testing.T, name string, w impl.World, right bool) {
	t.Helper()
	hasNoFault(t, name, w)
	if got := impl.AtomicRight(w); got != right {
		t.Errorf("%s: %+v is all or nothing: %v", name, w, got)
	}
	checkAudit(t, name, w)
}

func checkSerial(t *testing.T, name string, w impl.World, right bool) {
	t.Helper()
	hasNoFault(t, name, w)
	if got := impl.SerialRight(w); got != right {
		t.Errorf("%s: %+v is one behind the other: %v", name, w, got)
	}
	checkAudit(t, name, w)
}

func checkReads(t *testing.T, name string, w impl.World, ts int64, right bool) {
	t.Helper()
	hasNoFault(t, name, w)
	if got := impl.ReadsRight(w, ts); got != right {
		t.Errorf("%s: %+v is read right at %d: %v", name, w, ts, got)
	}
	checkAudit(t, name, w, ts)
}

// What became of the first item (10) and of the other one (43), whatever the state says: a lock counts only where the first one is done.
func TestAtomicRight(t *testing.T) {
	none := impl.Store{}
	first, other := own(none, 10, 7), own(none, 43, 8)
	both := own(first, 43, 8)
	done, back := settled(first, 10), takenBack(none, 10)
	at := func(s impl.Store, key, commit int64) impl.Store {
		return withWrite(withoutLock(s, key, 5), impl.Write{Key: key, Commit: commit, Start: 5, Kind: impl.WritePut})
	}
	for _, c := range []struct {
		name  string
		s     impl.Store
		right bool
	}{
		{"nothing is said", none, true}, {"the other one is said", other, true}, {"the other one is taken back", takenBack(none, 43), true}, {"the other one alone is done", settled(other, 43), false},
		{"the first one is said", first, true}, {"both are said", both, true}, {"said, and the other one is taken back", takenBack(both, 43), true}, {"said, and the other one is done", settled(both, 43), false},
		{"taken back", back, true}, {"taken back, and the other one is said", own(back, 43, 8), true}, {"both are taken back", takenBack(back, 43), true}, {"taken back, and the other one is done", settled(own(back, 43, 8), 43), false},
		{"done, and nothing of the other one", done, false}, {"done, and the other one is said", settled(both, 10), true}, {"done, and the other one is taken back", takenBack(done, 43), false}, {"both are done", settled(settled(both, 10), 43), true},
		{"the other one is done one later", at(settled(both, 10), 43, 9), false}, {"the other one is done one ahead", at(settled(both, 10), 43, 7), false}, {"both are done at another Commit than its own", at(at(both, 10, 6), 43, 6), true},
		{"done at another Commit than its own, and the other one at its own", at(at(both, 10, 6), 43, 8), false}, {"done at another Commit, and the other one is said", at(both, 10, 6), true},
		{"done, and another one's lock is there", held(done, 43, 4, impl.WritePut, 10, 25), false}, {"done, and another one is done there at that Commit", wrote(done, 43, 8, 6, impl.WritePut), false},
		{"another one is done at both", wrote(wrote(none, 10, 8, 6, impl.WritePut), 43, 9, 6, impl.WritePut), true}, {"another one is done at the first one", wrote(none, 10, 8, 6, impl.WritePut), true},
		{"another one is done at the first one, and this one at the other", wrote(settled(other, 43), 10, 8, 6, impl.WritePut), false},
		{"both are done, as a delete and a lock alone", wrote(wrote(none, 10, 8, 5, impl.WriteDelete), 43, 8, 5, impl.WriteLock), true}, {"done as a lock alone, and nothing of the other one", wrote(none, 10, 8, 5, impl.WriteLock), false},
		{"both are done, and another one said more", held(held(settled(settled(both, 10), 43), 10, 9, 1, 10, 20), 43, 9, 1, 10, 20), true},
		{"the other one's lock has another primary", held(done, 43, 5, impl.WritePut, 20, 0), true}, {"a key that it does not have is done", wrote(none, 20, 8, 5, impl.WritePut), true},
	} {
		for state := int64(1); state <= 7; state++ {
			for _, g := range cutsOf(c.s) {
				w := changedWorld(stepCase{state: state, at: state % 3}.world(c.s), func(w *impl.World) { w.Groups = g })
				checkAtomic(t, fmt.Sprintf("state %d, %s", state, c.name), w, c.right)
			}
		}
	}
}

// Twelve items, and as many transactions as there may be: one that is broken is enough, wherever it stands.
func TestAtomicRightOfEachItem(t *testing.T) {
	for n := 1; n <= 12; n++ {
		whole := impl.DriveWorld(impl.BeginWorld(impl.NewWorld(4).World, nil, someItems(n)).World).World
		checkAtomic(t, "whole", whole, true)
		for i, item := range someItems(n) {
			without := changedWorld(whole, func(w *impl.World) {
				w.Groups.Stores[0].Writes = slices.DeleteFunc(w.Groups.Stores[0].Writes, func(write impl.Write) bool { return write.Key == item.Key })
			})
			checkAtomic(t, fmt.Sprintf("%d items, without the one at %d", n, i), without, n == 1)
			later := changedWorld(whole, func(w *impl.World) { w.Groups.Stores[0].Writes[i].Commit++ })
			checkAtomic(t, fmt.Sprintf("%d items, one done later", n), later, n == 1)
			said := changedWorld(without, func(w *impl.World) {
				lock := impl.Lock{Key: item.Key, Start: 4, Kind: item.Kind, Primary: 20, Until: 20}
				w.Groups.Stores[0].Locks = append(w.Groups.Stores[0].Locks, lock)
			})
			checkAtomic(t, fmt.Sprintf("%d items, the one at %d said", n, i), said, n == 1 || i > 0)
		}
	}
	whole := impl.NewWorld(1).World
	for place := range int64(16) {
		whole = impl.BeginWorld(whole, nil, items(putItem(10+place%10, 5), putItem(20+place/10, 6))).World
		whole = impl.DriveWorld(whole).World
	}
	checkAtomic(t, "all are done", whole, true)
	for place := range whole.Txns {
		more := changedWorld(whole, func(w *impl.World) { w.Txns[place].Items = append(w.Txns[place].Items, lockItem(189)) })
		checkAtomic(t, fmt.Sprintf("the one at %d has one more", place), more, false)
		other := changedWorld(whole, func(w *impl.World) { w.Txns[place].Items = items(lockItem(189), lockItem(20+int64(place)/10)) })
		checkAtomic(t, fmt.Sprintf("the one at %d has another one first", place), other, false)
	}
}

// A ran is a transaction of the time start that is done at commit (0: it is not); its first item's Key tells so.
type ran struct {
	start, commit int64
	items         []impl.Item
}

func ranWorld(rows ...ran) impl.World {
	var s impl.Store
	w := impl.World{Oracle: oracle(100000, 100000)}
	for _, row := range rows {
		w.Txns = append(w.Txns, impl.Txn{Start: row.start, State: impl.TxnLeft, Items: row.items})
		if row.commit > 0 {
			s = wrote(s, row.items[0].Key, row.commit, row.start, row.items[0].Kind)
		}
	}
	w.Groups = cutStore(s, 1, 11, 20, 43)
	return w
}

// One of the time 50 is done at 60; beside it another one does something at the same key.
func TestSerialRight(t *testing.T) {
	one := ran{50, 60, items(lockItem(10), lockItem(43))}
	puts := func(start, commit, value int64) ran {
		return ran{start, commit, items(lockItem(10+start%10), putItem(43, value))}
	}
	deletes := func(start, commit int64) ran {
		return ran{start, commit, items(lockItem(10+start%10), deleteItem(43))}
	}
	locks := func(start, commit int64) ran {
		return ran{start, commit, items(lockItem(10+start%10), lockItem(43))}
	}
	for _, c := range []struct {
		name  string
		rows  []ran
		right bool
	}{
		{"none", nil, true}, {"it alone", []ran{one}, true}, {"not done", []ran{{50, 0, one.items}}, true},
		{"a put at its Start", []ran{one, puts(41, 50, 5)}, true}, {"one ahead of its Start", []ran{one, puts(41, 49, 5)}, true}, {"one behind its Start", []ran{one, puts(41, 51, 5)}, false},
		{"a put between", []ran{one, puts(41, 55, 5)}, false}, {"one ahead of its Commit", []ran{one, puts(41, 59, 5)}, false}, {"at its Commit", []ran{one, puts(41, 60, 5)}, true}, {"one behind its Commit", []ran{one, puts(41, 61, 5)}, true},
		{"a put by one that began behind it", []ran{one, puts(51, 59, 5)}, false}, {"a put by one that stands ahead", []ran{puts(41, 55, 5), one}, false}, {"a put that is not done", []ran{one, puts(41, 0, 5)}, true},
		{"a put of 0", []ran{one, puts(41, 55, 0)}, false}, {"a put of what is there", []ran{one, puts(31, 40, 5), puts(42, 55, 5)}, true}, {"a put of another value than is there", []ran{one, puts(31, 40, 5), puts(42, 55, 6)}, false},
		{"a delete of nothing", []ran{one, deletes(41, 55)}, true}, {"a delete of what is there", []ran{one, puts(31, 40, 5), deletes(42, 55)}, false}, {"a delete of 0", []ran{one, puts(31, 40, 0), deletes(42, 55)}, false},
		{"a lock alone", []ran{one, locks(41, 55)}, true}, {"a lock alone of what is there", []ran{one, puts(31, 40, 5), locks(42, 55)}, true},
		{"put and deleted again", []ran{one, puts(41, 53, 5), deletes(54, 57)}, true}, {"deleted and put again", []ran{one, puts(31, 40, 5), deletes(42, 53), puts(54, 57, 5)}, true}, {"deleted, and put another one", []ran{one, puts(31, 40, 5), deletes(42, 53), puts(54, 57, 6)}, false},
		{"another key", []ran{one, {41, 55, items(lockItem(11), putItem(44, 5))}}, true}, {"the key of its first item", []ran{one, {41, 55, items(lockItem(11), putItem(10, 5))}}, false},
		{"another one that puts it as its first item", []ran{one, {41, 55, items(putItem(43, 5))}}, false}, {"it puts it, too", []ran{{50, 60, items(putItem(10, 1), putItem(43, 2))}, puts(41, 55, 5)}, false},
		{"it deletes it, too", []ran{{50, 60, items(putItem(10, 1), deleteItem(43))}, puts(41, 55, 5)}, false}, {"it puts what the other one puts", []ran{{50, 60, items(putItem(10, 1), putItem(43, 5))}, puts(41, 55, 5)}, false},
		{"the other one is the one that is wrong", []ran{{41, 70, items(lockItem(11), lockItem(44))}, {50, 60, items(putItem(44, 1))}}, false},
		{"each between the other's times", []ran{puts(41, 55, 5), puts(52, 58, 6)}, false}, {"one Commit for two", []ran{puts(41, 55, 5), puts(52, 55, 6)}, true},
		{"done at the next time", []ran{{50, 51, one.items}, puts(41, 51, 5)}, true}, {"done at the last time", []ran{{50, 100000, one.items}, puts(41, 99999, 5)}, false}, {"both at the last time", []ran{{50, 100000, one.items}, puts(41, 100000, 5)}, true},
		{"from the first time on", []ran{{1, 3, one.items}, puts(2, 3, 5)}, true}, {"from the first time on, and one between", []ran{{1, 4, one.items}, puts(2, 3, 5)}, false},
	} {
		checkSerial(t, c.name, ranWorld(c.rows...), c.right)
	}
}

// A key that is there with 0 is not as one that is not there, whichever key it is; and each item of twelve is asked.
func TestSerialRightOfEachKey(t *testing.T) {
	for _, k := range allKeys() {
		first := int64(180)
		if k.key == first {
			first = 181
		}
		one := ran{50, 60, items(lockItem(first), lockItem(k.key))}
		putsZero := ran{41, 55, items(putItem(k.key, 0))}
		checkSerial(t, fmt.Sprintf("a put of 0 at %d", k.key), ranWorld(one, putsZero), false)
	}
	for n := 1; n <= 12; n++ {
		for i, item := range someItems(n) {
			w := ranWorld(ran{50, 60, someItems(n)}, ran{41, 55, items(lockItem(189), putItem(item.Key, 9))})
			checkSerial(t, fmt.Sprintf("the item at %d of %d", i, n), w, false)
		}
		checkSerial(t, "no item", ranWorld(ran{50, 60, someItems(n)}, ran{41, 55, items(lockItem(189), putItem(188, 9))}), true)
	}
}

// drivenWorld: one put 7 to 10 and 8 to 43 at 2, another one (behind it) put 9 to 10 and deleted 43 at 4; Next is 5.
func drivenWorld() impl.World {
	first := impl.DriveWorld(impl.BeginWorld(impl.NewWorld(1).World, nil, items(putItem(10, 7), putItem(43, 8))).World).World
	return impl.DriveWorld(impl.BeginWorld(first, nil, items(putItem(10, 9), deleteItem(43))).World).World
}

// Of a world where all is right one thing is changed: from the time on at which it is to be seen it is not right.
func TestReadsRight(t *testing.T) {
	plain := drivenWorld()
	if plain.Oracle.Next != 5 || len(plain.Groups.Stores[0].Writes) != 4 {
		t.Fatalf("%+v", plain)
	}
	for _, c := range []struct {
		name   string
		change func(s *impl.Store, w *impl.World)
		right  []bool // at the times 1 to 4
	}{
		{"nothing", func(s *impl.Store, w *impl.World) {}, []bool{true, true, true, true}},
		{"the first cell", func(s *impl.Store, w *impl.World) { s.Cells[0].Value = 6 }, []bool{true, false, false, true}}, {"the first cell is 0", func(s *impl.Store, w *impl.World) { s.Cells[0].Value = 0 }, []bool{true, false, false, true}},
		{"the second cell", func(s *impl.Store, w *impl.World) { s.Cells[1].Value = 7 }, []bool{true, true, true, false}}, {"the last cell", func(s *impl.Store, w *impl.World) { s.Cells[2].Value = 9 }, []bool{true, false, false, true}},
		{"an item's Value", func(s *impl.Store, w *impl.World) { w.Txns[1].Items[0].Value = 8 }, []bool{true, true, true, false}}, {"an item that is a lock alone", func(s *impl.Store, w *impl.World) { w.Txns[1].Items[1].Kind = 3 }, []bool{true, true, true, false}},
		{"a delete as a lock alone", func(s *impl.Store, w *impl.World) { s.Writes[3].Kind = 3 }, []bool{true, true, true, false}}, {"a put as a delete", func(s *impl.Store, w *impl.World) { s.Writes[2].Kind = 2 }, []bool{true, false, false, true}},
		{"the last write is not there", func(s *impl.Store, w *impl.World) { s.Writes = s.Writes[:3] }, []bool{true, true, true, false}}, {"the first item's writes are not there", func(s *impl.Store, w *impl.World) { s.Writes = s.Writes[2:] }, []bool{true, false, false, true}},
		{"the other one is done later", func(s *impl.Store, w *impl.World) { s.Writes[2].Commit = 3 }, []bool{true, false, true, true}}, {"the first one is done later", func(s *impl.Store, w *impl.World) { s.Writes[0].Commit = 3 }, []bool{true, false, true, true}},
		{"a put more", func(s *impl.Store, w *impl.World) { *s = wrote(*s, 180, 3, 2, 1) }, []bool{true, true, false, false}}, {"a put more, that is not done yet", func(s *impl.Store, w *impl.World) { *s = wrote(*s, 180, 9, 2, 1) }, []bool{true, true, true, true}},
		{"a delete more", func(s *impl.Store, w *impl.World) { *s = wrote(*s, 180, 3, 2, 2) }, []bool{true, true, true, true}}, {"a cell more", func(s *impl.Store, w *impl.World) { s.Cells = append(s.Cells, impl.Cell{Key: 180, Start: 1, Value: 5}) }, []bool{true, true, true, true}},
		{"a put of 0 more, of the first key", func(s *impl.Store, w *impl.World) {
			*s = wrote(*s, 0, 3, 2, 1)
			s.Cells[0].Value = 0
		}, []bool{true, true, false, false}},
		{"an item more", func(s *impl.Store, w *impl.World) { w.Txns[0].Items = append(w.Txns[0].Items, putItem(0, 0)) }, []bool{true, false, false, false}},
		{"an item more, at the last key", func(s *impl.Store, w *impl.World) { w.Txns[0].Items = append(w.Txns[0].Items, putItem(189, 3)) }, []bool{true, false, false, false}},
		{"no transactions", func(s *impl.Store, w *impl.World) { w.Txns = nil }, []bool{true, false, false, false}}, {"no store", func(s *impl.Store, w *impl.World) { *s = impl.Store{} }, []bool{true, true, true, true}},
	} {
		for i, right := range c.right {
			w := changedWorld(plain, func(w *impl.World) { c.change(&w.Groups.Stores[0], w) })
			for _, g := range cutsOf(w.Groups.Stores[0]) {
				w.Groups = g
				checkReads(t, c.name, w, int64(i)+1, right)
			}
		}
	}
}

// Each key is read: what is wrong with one alone is found.
func TestReadsRightOfEachKey(t *testing.T) {
	for _, k := range allKeys() {
		right := impl.DriveWorld(impl.BeginWorld(impl.NewWorld(1).World, nil, items(putItem(k.key, 5))).World).World
		checkReads(t, "right", right, 2, true)
		wrong := changedWorld(right, func(w *impl.World) { w.Groups.Stores[0].Cells[0].Value++ })
		checkReads(t, fmt.Sprintf("another value at %d", k.key), wrong, 2, false)
		checkReads(t, fmt.Sprintf("another value at %d, ahead of it", k.key), wrong, 1, true)
		more := changedWorld(right, func(w *impl.World) { w.Txns = nil })
		checkReads(t, fmt.Sprintf("nobody put %d", k.key), more, 2, false)
	}
}

func TestReadsRightAtTimes(t *testing.T) {
	plain, empty := drivenWorld(), impl.NewWorld(1).World
	for ts, right := range map[int64]bool{
		math.MinInt64: false, -100000: false, -1: false, 0: false, 1: true, 2: true, 3: true, 4: true, 5: false, 6: false, 11: false, 99999: false, 100000: false, 100001: false, math.MaxInt64: false,
	} {
		checkReads(t, "times", plain, ts, right)
		checkReads(t, "a new world", empty, ts, false)
	}
	for _, next := range []int64{1, 2, 3, 50, 99999, 100000} {
		w := impl.NewWorld(next).World
		for _, ts := range []int64{-1, 0, 1, next - 1, next, next + 1, 100000, 100001} {
			checkReads(t, fmt.Sprintf("Next %d", next), w, ts, ts >= 1 && ts < next)
			fallen := changedWorld(w, func(w *impl.World) { w.Oracle.Bound = 100000 })
			checkReads(t, fmt.Sprintf("Next %d, Bound above it", next), fallen, ts, ts >= 1 && ts < next)
		}
	}
}

// One put 1 to 10 and 43 at 2; another one, of 3, says 5 and 6, and may still come, or was left: up to 20 who reads it waits, whatever there is; then it is taken back.
func TestReadsRightOfWhatIsLocked(t *testing.T) {
	first := impl.DriveWorld(impl.BeginWorld(impl.NewWorld(1).World, nil, items(putItem(10, 1), putItem(43, 1))).World).World
	begun := impl.BeginWorld(first, nil, items(putItem(10, 5), putItem(43, 6))).World
	for steps := range 6 {
		live := runAlone(begun, 1, steps)
		for _, w := range []impl.World{live, impl.LeaveWorld(live, 1).World} {
			for _, now := range []int64{0, 19, 20, 21, 100000} {
				w := changedWorld(w, func(w *impl.World) { w.Now = now })
				for ts := int64(1); ts < w.Oracle.Next; ts++ {
					checkReads(t, fmt.Sprintf("%d steps, now %d", steps, now), w, ts, true)
				}
				broken := changedWorld(w, func(w *impl.World) { w.Groups.Stores[0].Cells[0].Value = 9 })
				waitedFor := steps > 0 && steps < 4 && now <= 20
				checkReads(t, fmt.Sprintf("%d steps, now %d, a cell ahead of it", steps, now), broken, w.Oracle.Next-1, waitedFor || steps >= 4)
				checkReads(t, fmt.Sprintf("%d steps, now %d, a cell, read ahead of it", steps, now), broken, 2, false)
			}
		}
	}
}

// What a reader resolves may be what is wrong; another code than ErrLocked is not right; and each reads the groups as they are.
func TestReadsRightWhereItResolves(t *testing.T) {
	at := func(s impl.Store, now int64, txns ...impl.Txn) impl.World {
		return impl.World{Now: now, Oracle: oracle(90000, 90000), Groups: cutStore(s, 1, 20, 43), Txns: txns}
	}
	left := impl.Txn{Start: 5, Commit: 8, State: impl.TxnLeft, Items: items(putItem(10, 2010), putItem(43, 1043))}
	half := wrote(put43(10, 3), 10, 8, 5, impl.WritePut)
	checkReads(t, "half", at(half, 0, left), 9, true)
	checkReads(t, "half, at its Commit", at(half, 0, left), 8, true)
	checkReads(t, "half, ahead of it", at(half, 0, left), 7, true)
	checkReads(t, "half, of nobody", at(half, 0), 9, false)
	checkReads(t, "half, of nobody, ahead of it", at(half, 0), 7, true)
	left.Items[1].Value = 5
	checkReads(t, "half, and the other one is another value", at(half, 0, left), 9, false)
	checkReads(t, "half, so, ahead of it", at(half, 0, left), 7, true)
	taken := wrote(put43(10, 3), 10, 5, 2, impl.WriteLock)
	checkReads(t, "it may not be taken back", at(taken, 4), 9, false)
	checkReads(t, "so, but it is waited for", at(taken, 3), 9, true)
	checkReads(t, "so, but read ahead of it", at(taken, 4), 4, true)
	missed := wrote(half, 43, 8, 4, impl.WriteLock)
	checkReads(t, "it may not be done", at(missed, 0, impl.Txn{Start: 5, Commit: 8, State: impl.TxnLeft, Items: items(putItem(10, 2010))}), 9, false)
	full := crowded(put43(43, 3), 200)
	checkReads(t, "there is no room to take it back", at(full, 4), 9, false)
	checkReads(t, "there is no room, but it is waited for", at(full, 3), 9, true)
	two := crowded(held(put43(43, 3), 20, 5, impl.WritePut, 20, 3), 199)
	checkReads(t, "there is room for each, not for both", at(two, 4), 9, true)
	row := wrote(held(held(impl.Store{}, 10, 5, impl.WritePut, 0, 50), 43, 5, impl.WritePut, 10, 50), 0, 8, 5, impl.WriteLock)
	doneRow := impl.Txn{Start: 5, State: impl.TxnLeft, Items: items(lockItem(0), putItem(10, 1010))}
	checkReads(t, "the one it waits for is done by another reader", at(row, 0, doneRow), 9, true)
}

// LiveTxns: how many are not over, of transactions in each state.
func TestLiveTxns(t *testing.T) {
	for state := int64(1); state <= 7; state++ {
		live := impl.IntResult{Value: 1}
		if slices.Contains([]int64{4, 6, 7}, state) {
			live.Value = 0
		}
		for at := range int64(3) {
			w := stepCase{state: state, at: at}.world(impl.Store{})
			if got := impl.LiveTxns(w); got != live {
				t.Errorf("state %d: %+v, want %+v", state, got, live)
			}
			checkAudit(t, "each state", w)
		}
	}
	for n := range int64(17) {
		for over := range n + 1 {
			w := changedWorld(plainWorld(), func(w *impl.World) { w.Txns = manyTxns(int(n), 60) })
			for place := range over {
				w.Txns[place].State, w.Txns[place].Commit = []int64{4, 6, 7}[place%3], 78
			}
			if got := impl.LiveTxns(w); got != (impl.IntResult{Value: n - over}) {
				t.Errorf("%d of %d are over: %+v", over, n, got)
			}
		}
	}
	if got := impl.LiveTxns(plainWorld()); got != (impl.IntResult{Value: 4}) {
		t.Errorf("one of each state: %+v", got)
	}
}

// One alone says all, has its Commit, does all, and is at its end; no time goes on.
func TestDriveOne(t *testing.T) {
	for n := 1; n <= 12; n++ {
		begun := impl.BeginWorld(impl.NewWorld(4).World, nil, someItems(n)).World
		got := impl.DriveWorld(begun)
		if got.Code != impl.OK || got.Rounds != int64(2*n+2) || got.World.Now != 0 || got.World.Txns[0].State != impl.TxnDone || got.World.Txns[0].Commit != 5 {
			t.Errorf("%d items: %+v", n, got)
		}
		checkDrive(t, "one", got, wantDrive(begun))
		checkDrive(t, "again", impl.DriveWorld(got.World), driven(0, got.World))
		checkPairs(t, "one", impl.ModelAt(got.World, 5), wantApply(nil, someItems(n)))
	}
	empty := impl.NewWorld(4).World
	checkDrive(t, "none", impl.DriveWorld(empty), driven(0, empty))
}

// One left a lock of 10 that may be waited for until 20; another one wants it.
func TestDriveBehindOneThatLeft(t *testing.T) {
	begun := impl.BeginWorld(impl.BeginWorld(impl.NewWorld(1).World, nil, items(putItem(10, 7))).World, nil, items(putItem(10, 8))).World
	left := impl.LeaveWorld(impl.StepWorld(begun, 0).World, 0).World
	got := impl.DriveWorld(left)
	checkDrive(t, "left", got, wantDrive(left))
	if states := []int64{got.World.Txns[0].State, got.World.Txns[1].State}; got.World.Now != 21 || got.Rounds != 5 || !slices.Equal(states, []int64{impl.TxnLeft, impl.TxnDone}) {
		t.Errorf("left: %+v", got)
	}
	for _, c := range []struct{ now, then, state int64 }{{0, 21, impl.TxnDone}, {20, 41, impl.TxnDone}, {21, 21, impl.TxnDone}, {99979, 99979, impl.TxnDone}} {
		w := changedWorld(left, func(w *impl.World) { w.Now = c.now })
		if got := impl.DriveWorld(w); got.World.Now != c.then || got.World.Txns[1].State != c.state {
			t.Errorf("left at %d: %+v", c.now, got)
		}
	}
}

// Nobody has the lock that is waited for: time goes on as long as there is any, or for MaxRounds rounds.
func TestDriveComesToAnEnd(t *testing.T) {
	waits := stepCase{state: 1}.world(held(impl.Store{}, 10, 4, impl.WritePut, 10, 100000))
	for _, c := range []struct{ now, then int64 }{
		{0, 25200}, {74799, 99999}, {74800, 100000}, {74801, 99980}, {74820, 99999}, {74821, 100000}, {99958, 100000}, {99959, 99980}, {99979, 100000}, {99980, 99980}, {99999, 99999}, {100000, 100000},
	} {
		w := changedWorld(waits, func(w *impl.World) { w.Now = c.now })
		then := changedWorld(waits, func(w *impl.World) { w.Now = c.then })
		checkDrive(t, fmt.Sprintf("from %d on", c.now), impl.DriveWorld(w), driven(0, then))
		checkDrive(t, "by the tests", wantDrive(w), driven(0, then))
	}
}

func TestDriveAsksTheFaultFirst(t *testing.T) {
	for _, c := range wrongWorlds() {
		kept := copyWorld(c.w)
		checkDrive(t, c.name, impl.DriveWorld(c.w), noDrive(c.code))
		if !equalWorlds(kept, c.w) {
			t.Errorf("%s: the world changed", c.name)
		}
	}
}

func TestDriveIsRoundsOfSteps(t *testing.T) {
	r := rand.New(rand.NewSource(150))
	var list []impl.World
	for _, w := range startedWorlds(r) {
		list = append(list, w)
		for step := len(w.Txns); step < 40; step++ {
			if next := anyEvent(r, int64(len(w.Txns))).do(w); next.Code == impl.OK {
				w = next.World
			}
		}
		list = append(list, w)
	}
	for _, c := range rightWorlds() {
		list = append(list, c.w)
	}
	for i, w := range rawWorlds(151) {
		if i%4 == 1 {
			list = append(list, w)
		}
	}
	for _, w := range list {
		checkDrive(t, "driven", impl.DriveWorld(w), wantDrive(w))
	}
}

func TestDriveNewMemory(t *testing.T) {
	list := []impl.World{rawWorlds(154)[1], rawWorlds(154)[33]}
	for _, c := range rightWorlds() {
		list = append(list, c.w)
	}
	for _, w := range list {
		checkWorldMemory(t, "DriveWorld", w, func(w impl.World) impl.World { return impl.DriveWorld(w).World })
	}
	for _, w := range append(list, startedWorlds(rand.New(rand.NewSource(155)))[3]) {
		first := impl.DriveWorld(w)
		for range 3 {
			checkDrive(t, "again", impl.DriveWorld(w), first)
		}
	}
}
