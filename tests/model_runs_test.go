package tests

import (
	"cmp"
	"fmt"
	"math"
	"math/rand"
	"slices"
	"testing"

	"loop.example/g00331/impl"
)

func done(place, commit int64) impl.Done { return impl.Done{Place: place, Commit: commit} }

// checkModel asks for what was done, and for what there is at ts, against the chapter's words; the world stays as it was.
func checkModel(t *testing.T, name string, w impl.World, ts int64) {
	t.Helper()
	kept := copyWorld(w)
	checkDones(t, name+", done", impl.CommittedOf(w), wantCommitted(w))
	checkPairs(t, fmt.Sprintf("%s, at %d", name, ts), impl.ModelAt(w, ts), wantModel(w, ts))
	if !equalWorlds(kept, w) {
		t.Errorf("%s at %d: %+v became %+v", name, ts, kept, w)
	}
}

// One of each state, whose first item (10) is done, taken back, locked and never said, whatever became of its other one (43): the store tells it, and not the state.
func TestCommittedOfEachState(t *testing.T) {
	none := impl.Store{}
	both := own(own(none, 10, 7), 43, 8)
	first := settled(both, 10)
	for _, c := range []struct {
		name string
		s    impl.Store
		done bool
	}{
		{"never said", none, false}, {"the other one is said", own(none, 43, 8), false}, {"the other one is done", settled(own(none, 43, 8), 43), false},
		{"locked", own(none, 10, 7), false}, {"both are locked", both, false}, {"locked, and the other one is done", settled(both, 43), false}, {"locked, and the other one taken back", takenBack(both, 43), false},
		{"taken back", takenBack(none, 10), false}, {"taken back, and the other one locked", takenBack(both, 10), false}, {"taken back, and the other one done", settled(takenBack(both, 10), 43), false},
		{"done", settled(own(none, 10, 7), 10), true}, {"done, and the other one locked", first, true}, {"both are done", settled(first, 43), true}, {"done, and the other one taken back", takenBack(first, 43), true},
		{"done as a delete", wrote(none, 10, 8, 5, impl.WriteDelete), true}, {"done as a lock alone", wrote(none, 10, 8, 5, impl.WriteLock), true},
		{"another one is done there", wrote(none, 10, 8, 6, impl.WritePut), false}, {"another one has that Commit", wrote(takenBack(none, 10), 10, 8, 6, impl.WritePut), false},
		{"another one is done at its Start", wrote(none, 10, 5, 4, impl.WritePut), false}, {"it is done elsewhere", wrote(none, 20, 8, 5, impl.WritePut), false},
		{"done, and another one locked", held(settled(own(none, 10, 7), 10), 10, 9, 1, 10, 20), true},
	} {
		for state := int64(1); state <= 7; state++ {
			for at := range int64(3) {
				for _, g := range cutsOf(c.s) {
					w := changedWorld(stepCase{state: state, at: at}.world(c.s), func(w *impl.World) { w.Groups = g })
					var dones []impl.Done
					var list []impl.Pair
					if c.done {
						dones, list = []impl.Done{done(0, 8)}, pairs(pair(10, 7), pair(43, 8))
					}
					name := fmt.Sprintf("state %d, %s", state, c.name)
					checkDones(t, name, impl.CommittedOf(w), impl.DonesResult{Dones: dones})
					checkPairs(t, name, impl.ModelAt(w, 7), paired())
					checkPairs(t, name, impl.ModelAt(w, 8), paired(list...))
					checkPairs(t, name, impl.ModelAt(w, 9), paired(list...))
					checkModel(t, name, w, 8)
				}
			}
		}
	}
}

// The Commit is that of the store: a transaction's own one is none yet, or another.
func TestCommittedTellsTheStoresCommit(t *testing.T) {
	for _, commit := range []int64{6, 7, 8, 50, 99999, 100000} {
		s := wrote(impl.Store{}, 10, commit, 5, impl.WritePut)
		for state := int64(1); state <= 7; state++ {
			w := stepCase{state: state}.world(s)
			checkDones(t, "the store's", impl.CommittedOf(w), impl.DonesResult{Dones: []impl.Done{done(0, commit)}})
			checkPairs(t, "one below it", impl.ModelAt(w, commit-1), paired())
			checkPairs(t, "at it", impl.ModelAt(w, commit), paired(pair(10, 7), pair(43, 8)))
			if commit < 100000 {
				checkPairs(t, "one above it", impl.ModelAt(w, commit+1), paired(pair(10, 7), pair(43, 8)))
			}
		}
	}
	left := impl.Txn{Start: 5, State: impl.TxnLeft, Items: items(putItem(10, 7))}
	w := impl.World{Oracle: oracle(9, 9), Groups: cutStore(wrote(impl.Store{}, 10, 8, 5, impl.WritePut), 1), Txns: []impl.Txn{left}}
	checkDones(t, "left without a Commit", impl.CommittedOf(w), impl.DonesResult{Dones: []impl.Done{done(0, 8)}})
}

// doneWorld has one of each list of items, which is done at the Commit of its place; its first item's Key tells so.
func doneWorld(commits []int64, wants [][]impl.Item) impl.World {
	var s impl.Store
	w := impl.World{Oracle: oracle(99000, 99000)}
	for i, commit := range commits {
		start := int64(i) + 1
		w.Txns = append(w.Txns, impl.Txn{Start: start, State: impl.TxnLeft, Items: wants[i]})
		if commit > 0 {
			s = wrote(s, wants[i][0].Key, commit, start, impl.WriteLock)
		}
	}
	w.Groups = cutStore(s, 1, 11, 20, 43)
	return w
}

// Rising by Commit, and of the same by place, wherever they stand.
func TestCommittedRise(t *testing.T) {
	each := func(n int) (wants [][]impl.Item) {
		for _, item := range someItems(n) {
			wants = append(wants, items(item))
		}
		return wants
	}
	falling := make([]int64, 16)
	for i := range falling {
		falling[i] = 90 - int64(i)
	}
	for _, c := range []struct {
		name    string
		commits []int64
		dones   []impl.Done
	}{
		{"none", nil, nil}, {"none is done", []int64{0, 0, 0}, nil}, {"one", []int64{50}, []impl.Done{done(0, 50)}}, {"the last one", []int64{0, 0, 50}, []impl.Done{done(2, 50)}},
		{"rising", []int64{50, 60, 70}, []impl.Done{done(0, 50), done(1, 60), done(2, 70)}}, {"falling", []int64{70, 60, 50}, []impl.Done{done(2, 50), done(1, 60), done(0, 70)}},
		{"some are not", []int64{70, 0, 50, 0, 60}, []impl.Done{done(2, 50), done(4, 60), done(0, 70)}}, {"two of one Commit", []int64{50, 50}, []impl.Done{done(0, 50), done(1, 50)}},
		{"two of one Commit, between others", []int64{60, 90, 60, 50}, []impl.Done{done(3, 50), done(0, 60), done(2, 60), done(1, 90)}},
		{"two of one Commit, one that is not done between", []int64{60, 0, 60}, []impl.Done{done(0, 60), done(2, 60)}},
		{"two and two", []int64{70, 60, 70, 60}, []impl.Done{done(1, 60), done(3, 60), done(0, 70), done(2, 70)}},
		{"all of one Commit", []int64{60, 60, 60, 60, 60}, []impl.Done{done(0, 60), done(1, 60), done(2, 60), done(3, 60), done(4, 60)}},
		{"the last time", []int64{100000, 99999}, []impl.Done{done(1, 99999), done(0, 100000)}},
	} {
		w := doneWorld(c.commits, each(len(c.commits)))
		checkDones(t, c.name, impl.CommittedOf(w), impl.DonesResult{Dones: c.dones})
		for _, ts := range []int64{0, 49, 50, 59, 60, 61, 100000} {
			checkModel(t, c.name, w, ts)
		}
	}
	w := doneWorld(falling, each(16))
	got := impl.CommittedOf(w)
	if len(got.Dones) != 16 || got.Dones[0] != done(15, 75) || got.Dones[15] != done(0, 90) {
		t.Errorf("sixteen that fall: %+v", got)
	}
}

// Who was done later counts, and of one Commit the one that stands later.
func TestModelInOrder(t *testing.T) {
	wants := func(list ...impl.Item) (rows [][]impl.Item) {
		for i, item := range list {
			rows = append(rows, items(lockItem(int64(10+i)), item))
		}
		return rows
	}
	puts := wants(putItem(43, 1), putItem(43, 2), putItem(43, 3))
	gone := wants(putItem(43, 1), deleteItem(43), lockItem(43))
	for _, c := range []struct {
		name    string
		commits []int64
		rows    [][]impl.Item
		ts      int64
		want    []impl.Pair
	}{
		{"the last one", []int64{50, 60, 70}, puts, 70, pairs(pair(43, 3))}, {"not yet", []int64{50, 60, 70}, puts, 69, pairs(pair(43, 2))}, {"the first one alone", []int64{50, 60, 70}, puts, 59, pairs(pair(43, 1))},
		{"none", []int64{50, 60, 70}, puts, 49, nil}, {"the other order", []int64{70, 60, 50}, puts, 70, pairs(pair(43, 1))}, {"the other order, not yet", []int64{70, 60, 50}, puts, 60, pairs(pair(43, 2))},
		{"of one Commit", []int64{60, 60, 60}, puts, 60, pairs(pair(43, 3))}, {"of one Commit, and one behind", []int64{70, 60, 60}, puts, 70, pairs(pair(43, 1))}, {"of one Commit, the last is not done", []int64{60, 60, 0}, puts, 60, pairs(pair(43, 2))},
		{"a delete behind a put", []int64{50, 60, 70}, gone, 100000, nil}, {"a put behind a delete", []int64{60, 50, 40}, gone, 100000, pairs(pair(43, 1))}, {"a lock alone behind a put", []int64{50, 0, 60}, gone, 100000, pairs(pair(43, 1))},
		{"a delete of one Commit with a put", []int64{50, 50, 50}, gone, 50, nil}, {"the delete is not done", []int64{50, 0, 50}, gone, 50, pairs(pair(43, 1))},
		{"a put at the last time", []int64{100000}, puts, 100000, pairs(pair(43, 1))}, {"ahead of the last time", []int64{100000}, puts, 99999, nil},
	} {
		w := doneWorld(c.commits, c.rows)
		checkPairs(t, c.name, impl.ModelAt(w, c.ts), paired(c.want...))
		checkModel(t, c.name, w, c.ts)
	}
	many := doneWorld([]int64{50, 60}, [][]impl.Item{someItems(12), items(lockItem(0), putItem(23, 9), deleteItem(30), putItem(189, 9))})
	checkPairs(t, "many", impl.ModelAt(many, 50), paired(pair(20, 1), pair(23, 4), pair(30, 7), pair(33, 10)))
	checkPairs(t, "many, and more", impl.ModelAt(many, 60), paired(pair(20, 1), pair(23, 9), pair(33, 10), pair(189, 9)))
}

func TestModelAtTimes(t *testing.T) {
	w := doneWorld([]int64{50}, [][]impl.Item{items(putItem(10, 7))})
	for ts, want := range map[int64]impl.PairsResult{
		math.MinInt64: noPairs(impl.ErrRange), -1: noPairs(impl.ErrRange), 0: paired(), 1: paired(), 49: paired(), 50: paired(pair(10, 7)), 51: paired(pair(10, 7)),
		99999: paired(pair(10, 7)), 100000: paired(pair(10, 7)), 100001: noPairs(impl.ErrRange), math.MaxInt64: noPairs(impl.ErrRange),
	} {
		checkPairs(t, fmt.Sprintf("at %d", ts), impl.ModelAt(w, ts), want)
		checkModel(t, "times", w, ts)
	}
	empty := impl.NewWorld(1).World
	checkDones(t, "a new world", impl.CommittedOf(empty), impl.DonesResult{})
	checkPairs(t, "a new world", impl.ModelAt(empty, 0), paired())
	checkPairs(t, "a new world", impl.ModelAt(empty, 100000), paired())
}

// P1: a world with a fault tells it, whatever time is asked for; and each function at all worlds, at any number.
func TestModelsAskTheFaultFirst(t *testing.T) {
	for _, c := range wrongWorlds() {
		checkDones(t, c.name, impl.CommittedOf(c.w), noDones(c.code))
		for _, ts := range []int64{math.MinInt64, -1, 0, 50, 100000, 100001, math.MaxInt64} {
			checkPairs(t, c.name, impl.ModelAt(c.w, ts), noPairs(c.code))
			checkModel(t, c.name, c.w, ts)
		}
	}
	for _, c := range rightWorlds() {
		for _, ts := range append([]int64{999, 9999}, oddBounds()...) {
			checkModel(t, c.name, c.w, ts)
		}
	}
}

// anyPairs are some keys, rising, each with any value.
func anyPairs(r *rand.Rand) (list []impl.Pair) {
	keys := allKeys()
	for _, i := range r.Perm(len(keys))[:r.Intn(len(keys)+1)] {
		list = append(list, pair(keys[i].key, r.Int63n(10000)))
	}
	if r.Intn(2) == 0 {
		list = list[:min(len(list), r.Intn(6))]
	}
	slices.SortFunc(list, func(a, b impl.Pair) int { return int(a.Key - b.Key) })
	return list
}

// anyItems are up to MaxItems of a few keys, or of any; some keys come more than once.
func anyItems(r *rand.Rand, list []impl.Pair) (row []impl.Item) {
	keys := allKeys()
	for range r.Intn(13) {
		key := keys[r.Intn(len(keys))].key
		switch n := r.Intn(4); {
		case n == 0:
			key = []int64{0, 10, 20, 43, 180}[r.Intn(5)]
		case n == 1 && len(list) > 0:
			key = list[r.Intn(len(list))].Key
		}
		item := impl.Item{Key: key, Kind: 1 + r.Int63n(3)}
		if item.Kind == impl.WritePut || r.Intn(5) == 0 {
			item.Value = r.Int63n(10000)
		}
		row = append(row, item)
	}
	return row
}

// lastOf is what the items say last of key, but for locks alone.
func lastOf(row []impl.Item, key int64) (last impl.Item) {
	for _, item := range row {
		if item.Key == key && item.Kind != impl.WriteLock {
			last = item
		}
	}
	return last
}

// P12: items that are applied are there, and all other pairs stay.
func TestAppliedIsThere(t *testing.T) {
	r := rand.New(rand.NewSource(130))
	for range 3000 {
		list := anyPairs(r)
		row := anyItems(r, list)
		got := impl.ApplyItems(list, row)
		if got.Code != impl.OK || impl.PairsFault(got.Pairs) != impl.OK {
			t.Fatalf("%+v and %+v: %+v", list, row, got)
		}
		count := 0
		for _, k := range allKeys() {
			now, want := impl.ValueIn(got.Pairs, k.key), impl.ValueIn(list, k.key)
			switch last := lastOf(row, k.key); last.Kind {
			case impl.WritePut:
				want = impl.GetResult{Has: true, Value: last.Value}
			case impl.WriteDelete:
				want = impl.GetResult{}
			}
			if now != want {
				t.Fatalf("%+v and %+v: %d is %+v, want %+v", list, row, k.key, now, want)
			}
			if now.Has {
				count++
			}
		}
		if count != len(got.Pairs) {
			t.Fatalf("%+v and %+v: %+v has more than its keys", list, row, got)
		}
		checkPairs(t, "applied", got, wantApply(list, row))
	}
}

// P12: in two parts, one behind the other, they do what they do at once; and what is applied twice is as if it were once.
func TestAppliedInParts(t *testing.T) {
	r := rand.New(rand.NewSource(131))
	for range 1500 {
		list := anyPairs(r)
		row := anyItems(r, list)
		got := impl.ApplyItems(list, row).Pairs
		for cut := range len(row) + 1 {
			parts := impl.ApplyItems(impl.ApplyItems(list, row[:cut]).Pairs, row[cut:]).Pairs
			if !impl.SamePairs(parts, got) || !slices.Equal(parts, got) {
				t.Fatalf("%+v and %+v, cut at %d: %+v, want %+v", list, row, cut, parts, got)
			}
		}
		if again := impl.ApplyItems(got, row).Pairs; !impl.SamePairs(again, got) {
			t.Fatalf("%+v and %+v twice: %+v, want %+v", list, row, again, got)
		}
		if impl.SamePairs(list, got) != slices.Equal(list, got) {
			t.Fatalf("%+v and %+v are the same, or not", list, got)
		}
	}
}

// isRead asks of every key at ts: it is blocked by one that may not be resolved yet, or it is what the model has.
func isRead(t *testing.T, w impl.World, ts int64) {
	t.Helper()
	model := impl.ModelAt(w, ts).Pairs
	for _, key := range []int64{0, 10, 20, 43, 180} {
		read, has := impl.ReadAt(w.Groups, key, ts, w.Now), impl.ValueIn(model, key)
		if read.Code != impl.ErrLocked && (impl.GetResult{Code: read.Code, Has: read.Has, Value: read.Value}) != has {
			t.Fatalf("%d at %d is read as %+v, and is %+v in %+v of %+v", key, ts, read, has, model, w)
		}
	}
}

// P13, as far as it can be asked by now: what is read at a time is what was done up to it, whoever is picked, whoever leaves, however it is cut.
func TestReadIsWhatWasDone(t *testing.T) {
	r := rand.New(rand.NewSource(132))
	for range 5 {
		for _, w := range startedWorlds(r) {
			for step := len(w.Txns); step < 90; step++ {
				if next := anyEvent(r, int64(len(w.Txns))).do(w); next.Code == impl.OK {
					w = next.World
				}
				last := w.Oracle.Next - 1
				for _, ts := range []int64{last, max(1, last-r.Int63n(12)), max(1, last-r.Int63n(40))} {
					isRead(t, w, ts)
				}
				checkModel(t, "on the way", w, max(0, last-r.Int63n(12)))
			}
		}
	}
}

// A reader looked at key at ts, and found this.
type reading struct {
	key, ts int64
	found   impl.GetResult
}

// P13: and it is read so for ever: what a reader found (what it resolved stays so) is what the model has from then on, and what each later reader finds who need not wait.
func TestReadSoForEver(t *testing.T) {
	r := rand.New(rand.NewSource(133))
	later, something := 0, 0
	for range 5 {
		for _, w := range startedWorlds(r) {
			var known []reading
			for step := len(w.Txns); step < 90; step++ {
				if next := anyEvent(r, int64(len(w.Txns))).do(w); next.Code == impl.OK {
					w = next.World
				}
				at := reading{key: []int64{0, 10, 20, 43, 180}[r.Intn(5)], ts: max(1, w.Oracle.Next-1-r.Int63n(10))}
				if read := impl.ReadAt(w.Groups, at.key, at.ts, w.Now); at.ts < w.Oracle.Next && read.Code == impl.OK {
					at.found = impl.GetResult{Has: read.Has, Value: read.Value}
					w.Groups, known = read.Groups, append(known, at)
				}
				for _, was := range known {
					if has := impl.ValueIn(impl.ModelAt(w, was.ts).Pairs, was.key); has != was.found {
						t.Fatalf("%+v was read, and is %+v in %+v", was, has, w)
					}
				}
				if len(known) == 0 {
					continue
				}
				was := known[r.Intn(len(known))]
				if again := impl.ReadAt(w.Groups, was.key, was.ts, w.Now); again.Code != impl.ErrLocked {
					if (impl.GetResult{Code: again.Code, Has: again.Has, Value: again.Value}) != was.found {
						t.Fatalf("%+v was read, and is read as %+v in %+v", was, again, w)
					}
					later++
					if was.found.Has {
						something++
					}
				}
			}
		}
	}
	if later < 1000 || something < 200 {
		t.Errorf("only %d were read again, and %d had something", later, something)
	}
}

// P10, as far as it can be asked only now: what may be cleared is, and changes nothing of what was done; where nothing is locked, the model is all that is read.
func TestClearedIsTheModel(t *testing.T) {
	r := rand.New(rand.NewSource(134))
	locks, told := 0, 0
	for range 5 {
		for _, w := range startedWorlds(r) {
			for step := len(w.Txns); step < 90; step++ {
				if next := anyEvent(r, int64(len(w.Txns))).do(w); next.Code == impl.OK {
					w = next.World
				}
				if step%9 != 0 {
					continue
				}
				locks += len(impl.UnionOf(w.Groups).Store.Locks)
				cleared := changedWorld(w, func(w *impl.World) { w.Groups = impl.ClearAll(w.Groups, 100000).Groups })
				checkDones(t, "cleared", impl.CommittedOf(cleared), impl.CommittedOf(w))
				all := impl.UnionOf(cleared.Groups).Store
				if len(all.Locks) != 0 {
					t.Fatalf("%+v has locks", cleared)
				}
				for ts := w.Oracle.Next - 1; ts > max(0, w.Oracle.Next-14); ts-- {
					model := impl.ModelAt(w, ts)
					told += len(model.Pairs)
					checkPairs(t, "cleared", impl.ModelAt(cleared, ts), model)
					read, scan := impl.ReadAll(cleared.Groups, ts, w.Now), impl.ScanAt(all, 0, 200, ts)
					if read.Code != impl.OK || !impl.SamePairs(read.Pairs, model.Pairs) || !impl.SamePairs(scan.Pairs, model.Pairs) {
						t.Fatalf("at %d %+v and %+v are read, want %+v", ts, read.Pairs, scan.Pairs, model.Pairs)
					}
					for _, key := range []int64{0, 10, 20, 43, 180} {
						if impl.GetAt(all, key, ts) != impl.ValueIn(model.Pairs, key) {
							t.Fatalf("%d at %d is not what the model %+v has", key, ts, model.Pairs)
						}
					}
				}
			}
		}
	}
	if locks < 300 || told < 1000 {
		t.Errorf("only %d locks were cleared, and %d pairs told", locks, told)
	}
}

// What was done stays done: its place has the same Commit for ever, and those behind it rise.
func TestDonesStay(t *testing.T) {
	r := rand.New(rand.NewSource(135))
	for range 5 {
		for _, w := range startedWorlds(r) {
			dones := impl.CommittedOf(w).Dones
			for step := len(w.Txns); step < 90; step++ {
				if next := anyEvent(r, int64(len(w.Txns))).do(w); next.Code == impl.OK {
					w = next.World
				}
				then := impl.CommittedOf(w).Dones
				for _, was := range dones {
					if !slices.Contains(then, was) {
						t.Fatalf("%+v was done, and now there are %+v", was, then)
					}
				}
				for _, d := range then {
					if txn := w.Txns[d.Place]; txn.Commit != d.Commit || d.Commit <= txn.Start {
						t.Fatalf("%+v is done at %d", txn, d.Commit)
					}
				}
				dones = then
			}
		}
	}
}

// withDones has in place of transactions ones of writes that the stores have, which are done if these are; they all have 20 and 43.
func withDones(w impl.World) impl.World {
	next, writes := copyWorld(w), wantUnionOf(w.Groups).Writes
	slices.SortStableFunc(writes, func(a, b impl.Write) int { return cmp.Compare(a.Commit, b.Commit) })
	for i, write := range writes[:min(len(w.Txns), len(writes))] {
		taken := slices.ContainsFunc(next.Txns, func(txn impl.Txn) bool { return txn.Start == write.Start })
		if taken || write.Start >= w.Oracle.Next {
			continue
		}
		row := items(putItem(write.Key, int64(i)))
		for _, item := range items(deleteItem(43), putItem(20, 5)) {
			if item.Key != write.Key {
				row = append(row, item)
			}
		}
		next.Txns[i] = impl.Txn{Start: write.Start, State: impl.TxnLeft, Items: row}
	}
	return next
}

// Worlds that came of no new one: the chapter's words hold for them, too.
func TestModelsOfRawWorlds(t *testing.T) {
	dones, alike := 0, 0
	for _, raw := range append(rawWorlds(136), rawWorlds(139)...) {
		for _, w := range []impl.World{raw, withDones(raw)} {
			got := impl.CommittedOf(w)
			dones += len(got.Dones)
			for i := 1; i < len(got.Dones); i++ {
				if got.Dones[i].Commit == got.Dones[i-1].Commit {
					alike++
				}
			}
			for _, ts := range []int64{0, 1, 7, 15, 22, 30, 40, 60, 80, 99999, 100000} {
				checkModel(t, "raw", w, ts)
			}
		}
	}
	if dones < 200 || alike < 10 {
		t.Errorf("only %d were done, and %d of the same Commit", dones, alike)
	}
}

func spoilPairs(list []impl.Pair) {
	whole := list[:cap(list)]
	for i := range whole {
		whole[i] = pair(-7, -7)
	}
}

// P1: arguments stay as they were, and answers are new memory, also where nothing changes.
func TestAppliedIsNewMemory(t *testing.T) {
	r := rand.New(rand.NewSource(142))
	for i := range 2000 {
		fromList := anyPairs(r)
		fromItems := anyItems(r, fromList)
		switch i % 5 {
		case 3:
			fromItems = nil
		case 4:
			fromItems = items(lockItem(10))
		}
		list, listStays := roomyList(fromList, pair(-7, -7))
		row, itemsStay := roomyList(fromItems, impl.Item{Key: -7})
		first, second := impl.ApplyItems(list, row), impl.ApplyItems(list, row)
		impl.PairsFault(list)
		impl.ValueIn(list, 43)
		impl.SamePairs(list, list)
		spoilPairs(first.Pairs)
		if !listStays() || !itemsStay() {
			t.Fatalf("%+v and %+v: an argument changed", fromList, fromItems)
		}
		want := wantApply(fromList, fromItems)
		checkPairs(t, "second", second, want)
		checkPairs(t, "third", impl.ApplyItems(list, row), want)
		spoilPairs(list)
		spoilItems(row)
		checkPairs(t, "second, and the arguments spoiled", second, want)
	}
}

// P1: so of what is told of a world.
func TestModelsAreNewMemory(t *testing.T) {
	list := []impl.World{doneWorld([]int64{50, 60, 50}, [][]impl.Item{someItems(12), items(lockItem(0), putItem(189, 9)), items(putItem(10, 1))})}
	for _, c := range rightWorlds() {
		list = append(list, c.w)
	}
	for _, from := range append(list, rawWorlds(143)...) {
		w, stays := roomyWorld(from)
		dones, models := impl.CommittedOf(w), impl.ModelAt(w, 100000)
		second, third := impl.CommittedOf(w), impl.ModelAt(w, 100000)
		for i := range dones.Dones[:cap(dones.Dones)] {
			dones.Dones[:cap(dones.Dones)][i] = done(-7, -7)
		}
		spoilPairs(models.Pairs)
		if !stays() {
			t.Fatalf("%+v changed", from)
		}
		checkDones(t, "second", second, wantCommitted(from))
		checkPairs(t, "second", third, wantModel(from, 100000))
		checkModel(t, "again", w, 100000)
		inner, outer := spoilWorld(w)
		for _, spoilOne := range append(inner, outer...) {
			spoilOne()
		}
		checkDones(t, "second, and the world spoiled", second, wantCommitted(from))
		checkPairs(t, "second, and the world spoiled", third, wantModel(from, 100000))
	}
}

type modelAnswers struct {
	fault, pairsFault int64
	applied, model    impl.PairsResult
	value             impl.GetResult
	dones             impl.DonesResult
	same              bool
}

func askModel(w impl.World, n int64) modelAnswers {
	model := impl.ModelAt(w, n)
	applied := impl.ApplyItems(model.Pairs, items(putItem(n, 5), putItem(20, n)))
	return modelAnswers{impl.WorldFault(w), impl.PairsFault(pairs(pair(n, n))), applied, model, impl.ValueIn(model.Pairs, n), impl.CommittedOf(w), impl.SamePairs(model.Pairs, applied.Pairs)}
}

// P1: whatever was asked ahead of it, and beside it, an answer is the same.
func TestModelAnswersHangOnArguments(t *testing.T) {
	three := doneWorld([]int64{50, 60, 50}, [][]impl.Item{someItems(12), items(lockItem(0), putItem(189, 9)), items(putItem(10, 1))})
	for _, w := range []impl.World{three, plainWorld(), rawWorlds(146)[60]} {
		checkSteady(t, func(n int64) any { return askModel(w, n) })
	}
}
