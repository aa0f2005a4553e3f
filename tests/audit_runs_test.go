package tests

import (
	"fmt"
	"math"
	"math/rand"
	"slices"
	"testing"

	"loop.example/g00331/impl"
)

// timesOf are all times below Next from least on, and the first ones.
func timesOf(w impl.World, least int64) []int64 {
	list := []int64{1, 2}
	for ts := max(1, least); ts < w.Oracle.Next; ts++ {
		list = append(list, ts)
	}
	return slices.DeleteFunc(list, func(ts int64) bool { return ts >= w.Oracle.Next })
}

// looksLikeOne: no fault, and all three are right, at all times below Next from least on.
func looksLikeOne(t *testing.T, name string, w impl.World, least int64) {
	t.Helper()
	if code := impl.WorldFault(w); code != impl.OK {
		t.Fatalf("%s: %+v has the fault %d", name, w, code)
	}
	if !impl.AtomicRight(w) || !impl.SerialRight(w) {
		t.Fatalf("%s: %+v is all or nothing: %v, one behind the other: %v", name, w, impl.AtomicRight(w), impl.SerialRight(w))
	}
	for _, ts := range timesOf(w, least) {
		if !impl.ReadsRight(w, ts) {
			t.Fatalf("%s: %+v is not read right at %d", name, w, ts)
		}
	}
}

// drivesToItsEnd: each that was not left comes to its end, those that are over stay, and it still looks like one.
func drivesToItsEnd(t *testing.T, name string, w impl.World, least int64) impl.World {
	t.Helper()
	got := impl.DriveWorld(w)
	if got.Code != impl.OK || impl.LiveTxns(got.World) != (impl.IntResult{}) || len(got.World.Txns) != len(w.Txns) {
		t.Fatalf("%s: %+v was driven to %+v", name, w, got)
	}
	for place, txn := range got.World.Txns {
		was := w.Txns[place]
		if impl.IsOver(was) && !equalTxns(was, txn) || !impl.IsOver(was) && txn.State != impl.TxnDone && txn.State != impl.TxnGone {
			t.Fatalf("%s: %+v was driven to %+v", name, was, txn)
		}
	}
	for _, was := range impl.CommittedOf(w).Dones {
		if !slices.Contains(impl.CommittedOf(got.World).Dones, was) {
			t.Fatalf("%s: %+v is not done any more in %+v", name, was, got.World)
		}
	}
	looksLikeOne(t, name+", driven", got.World, least)
	return got.World
}

// readsSoBehind: who reads (and what it resolves stays so) finds the same when all have come to their end.
func readsSoBehind(t *testing.T, name string, w impl.World, times []int64) (found int) {
	t.Helper()
	keys := []int64{0, 10, 20, 43, 180}
	var known []reading
	for i, ts := range times {
		at := reading{key: keys[i%5], ts: ts}
		if read := impl.ReadAt(w.Groups, at.key, at.ts, w.Now); read.Code == impl.OK {
			at.found = impl.GetResult{Has: read.Has, Value: read.Value}
			w = changedWorld(w, func(w *impl.World) { w.Groups = read.Groups })
			known = append(known, at)
		}
	}
	driven := impl.DriveWorld(w).World
	for _, was := range known {
		again := impl.ReadAt(driven.Groups, was.key, was.ts, driven.Now)
		if (impl.GetResult{Code: again.Code, Has: again.Has, Value: again.Value}) != was.found {
			t.Fatalf("%s: %+v was read of %+v, and is read as %+v", name, was, w, again)
		}
		if was.found.Has {
			found++
		}
	}
	return found
}

// readsAllSoBehind: so of who reads all at once.
func readsAllSoBehind(t *testing.T, name string, w impl.World, ts int64) bool {
	t.Helper()
	all := impl.ReadAll(w.Groups, ts, w.Now)
	if all.Code != impl.OK {
		return false
	}
	driven := impl.DriveWorld(changedWorld(w, func(w *impl.World) { w.Groups = all.Groups })).World
	again := impl.ReadAll(driven.Groups, ts, driven.Now)
	if again.Code != impl.OK || !impl.SamePairs(again.Pairs, all.Pairs) || !impl.SamePairs(impl.ModelAt(driven, ts).Pairs, all.Pairs) {
		t.Fatalf("%s: %+v were read of %+v at %d, and then %+v", name, all.Pairs, w, ts, again)
	}
	return true
}

// allLeave: all that are not over leave; when their time is over no lock stays, what was done is what it was, and still it looks like one.
func allLeave(t *testing.T, name string, w impl.World, least int64) (cleared int) {
	t.Helper()
	for place, txn := range w.Txns {
		if !impl.IsOver(txn) {
			w = impl.LeaveWorld(w, int64(place)).World
		}
	}
	looksLikeOne(t, name+", all left", w, least)
	later := impl.TickWorld(w, impl.Patience+1)
	clear := impl.ClearAll(later.World.Groups, later.World.Now)
	if later.Code != impl.OK || clear.Code != impl.OK || len(impl.UnionOf(clear.Groups).Store.Locks) != 0 {
		t.Fatalf("%s: %+v, all left, was cleared to %+v", name, w, clear)
	}
	then := changedWorld(later.World, func(w *impl.World) { w.Groups = clear.Groups })
	looksLikeOne(t, name+", all left, and cleared", then, least)
	checkDones(t, name+", all left, and cleared", impl.CommittedOf(then), impl.CommittedOf(w))
	all := impl.UnionOf(clear.Groups).Store
	for _, txn := range then.Txns {
		first := impl.CommitOf(all, txn.Items[0].Key, txn.Start)
		for _, item := range txn.Items {
			if impl.CommitOf(all, item.Key, txn.Start) != first {
				t.Fatalf("%s: of %+v not all is done, or some, in %+v", name, txn, all)
			}
		}
	}
	return len(impl.UnionOf(w.Groups).Store.Locks)
}

// P13, P11: up to 90 steps from a new world, whoever is picked, whoever leaves, however it is cut: no fault, and it looks like one; so behind it when all are driven to their end, and when all leave.
func TestLooksLikeOneWhateverHappens(t *testing.T) {
	r := rand.New(rand.NewSource(160))
	found, whole, cleared, states := 0, 0, 0, map[int64]int{}
	for range 4 {
		for _, w := range startedWorlds(r) {
			least := w.Txns[0].Start - 2
			for step := len(w.Txns); step < 90; step++ {
				e := anyEvent(r, int64(len(w.Txns)))
				if next := e.do(w); next.Code == impl.OK {
					w = next.World
				}
				if !impl.AtomicRight(w) || !impl.SerialRight(w) || w.Oracle.Next > 1 && !impl.ReadsRight(w, w.Oracle.Next-1) {
					t.Fatalf("behind %s %+v does not look like one", e.name, w)
				}
				if step%17 != 0 && step < 89 {
					continue
				}
				looksLikeOne(t, "on the way", w, least)
				drivesToItsEnd(t, "on the way", w, least)
				times := timesOf(w, w.Oracle.Next-20)
				r.Shuffle(len(times), func(i, j int) { times[i], times[j] = times[j], times[i] })
				found += readsSoBehind(t, "on the way", w, times)
				if readsAllSoBehind(t, "on the way", w, times[0]) {
					whole++
				}
				cleared += allLeave(t, "on the way", w, least)
				for _, txn := range w.Txns {
					states[txn.State]++
				}
			}
		}
	}
	for state := int64(1); state <= 7; state++ {
		if states[state] < 20 {
			t.Errorf("state %d was there only %d times: %v", state, states[state], states)
		}
	}
	if found < 200 || whole < 100 || cleared < 200 {
		t.Errorf("only %d were read again, %d times all, and %d locks were cleared", found, whole, cleared)
	}
}

// P13: two that want the same keys, in every order of their steps, each of which may leave at any time, with a cut, a join, a crash and time that goes on anywhere between.
func TestTwoLookLikeOneInEachOrder(t *testing.T) {
	begun := func(first, second []impl.Item) impl.World {
		return impl.BeginWorld(impl.BeginWorld(impl.NewWorld(1).World, nil, first).World, nil, second).World
	}
	worlds := []impl.World{
		begun(items(putItem(10, 1), putItem(43, 2)), items(putItem(43, 3), deleteItem(10))),
		begun(items(putItem(10, 1)), items(putItem(43, 2), lockItem(10))),
		begun(items(lockItem(10), putItem(43, 1)), items(lockItem(43), putItem(10, 2))),
	}
	extras := [][]event{{leaveEvent(0), tickEvent(21)}, {leaveEvent(1), tickEvent(21)}, {leaveEvent(0), leaveEvent(1)}, {cutEvent(43), cutEvent(0), fallEvent()}}
	left, count := map[int64]int{}, 0
	for _, from := range worlds {
		for _, once := range extras {
			seen := map[string]int{}
			var visit func(w impl.World, used int)
			visit = func(w impl.World, used int) {
				told := fmt.Sprint(used, toldWorld(w))
				if seen[told]++; seen[told] > 1 {
					return
				}
				count++
				looksLikeOne(t, "each order", w, 1)
				drivesToItsEnd(t, "each order", w, 1)
				readsSoBehind(t, "each order", w, timesOf(w, 1))
				allLeave(t, "each order", w, 1)
				for place := range int64(2) {
					visit(impl.StepWorld(w, place).World, used)
				}
				for i, e := range once {
					if got := e.do(w); used>>i&1 == 0 && got.Code == impl.OK {
						if e.name == "leave" {
							left[w.Txns[0].State]++
							left[w.Txns[1].State]++
						}
						visit(got.World, used|1<<i)
					}
				}
			}
			visit(from, 0)
		}
	}
	for _, state := range []int64{1, 2, 3, 5} {
		if left[state] < 20 {
			t.Errorf("in state %d it was left only %d times: %v", state, left[state], left)
		}
	}
	if count < 2500 {
		t.Errorf("only %d worlds were come to", count)
	}
}

// P13: with as many as there may be, of as many items as there may be, and with times that go on as far as they can in 90 steps.
func TestManyLookLikeOne(t *testing.T) {
	r := rand.New(rand.NewSource(161))
	for _, n := range []int{1, 5, 12} {
		w := impl.NewWorld(1).World
		for place := range 16 {
			row := someItems(12)
			r.Shuffle(len(row), func(i, j int) { row[i], row[j] = row[j], row[i] })
			if place%3 == 0 {
				slices.Reverse(row)
			}
			w = impl.BeginWorld(w, nil, row[:n]).World
		}
		for step := 16; step < 90; step++ {
			w = impl.StepWorld(w, r.Int63n(16)).World
		}
		looksLikeOne(t, "many", w, 1)
		drivesToItsEnd(t, "many", w, 1)
		checkDrive(t, "many", impl.DriveWorld(w), wantDrive(w))
		allLeave(t, "many", w, 1)
	}
	for _, before := range []int{0, 1, 50, 84} {
		w := impl.NewWorld(1).World
		for range before {
			w = impl.TickWorld(w, 1000).World
		}
		w = impl.BeginWorld(impl.BeginWorld(w, nil, items(putItem(10, 1), putItem(43, 2))).World, nil, items(putItem(43, 3), putItem(10, 4))).World
		w = impl.LeaveWorld(impl.StepWorld(impl.StepWorld(w, 0).World, 1).World, 0).World
		looksLikeOne(t, "late", w, 1)
		driven := drivesToItsEnd(t, "late", w, 1)
		if driven.Now != int64(before)*1000+21 || driven.Txns[1].State != impl.TxnDone {
			t.Errorf("behind %d ticks: %+v", before, driven)
		}
		allLeave(t, "late", w, 1)
		for step := before + 5; step < 90; step++ {
			w = impl.TickWorld(w, 1000).World
		}
		if driven := drivesToItsEnd(t, "as late as it can be", w, 1); driven.Txns[1].State != impl.TxnDone {
			t.Errorf("as late as it can be: %+v", driven)
		}
	}
}

// P11: cuts, joins and crashes of the oracle change nothing of what was done, nor of what there is at any time; nor does a cut of what comes behind it.
func TestCutsAndCrashesChangeNothingOfWhatWasDone(t *testing.T) {
	r := rand.New(rand.NewSource(162))
	cuts, falls, dones := 0, 0, 0
	for range 3 {
		for _, w := range startedWorlds(r) {
			least := w.Txns[0].Start - 2
			for step := len(w.Txns); step < 90; step++ {
				if next := anyEvent(r, int64(len(w.Txns))).do(w); next.Code == impl.OK {
					w = next.World
				}
				if step%4 != 0 {
					continue
				}
				dones += len(impl.CommittedOf(w).Dones)
				for _, e := range []event{cutEvent(1 + r.Int63n(199)), cutEvent([]int64{10, 20, 43}[r.Intn(3)]), cutEvent(-r.Int63n(3)), fallEvent()} {
					then := e.do(w)
					if then.Code != impl.OK {
						continue
					}
					changesNothingDone(t, e.name, w, then.World, least)
					if e.name == "fall" {
						falls++
						continue
					}
					cuts++
					if step%20 == 0 {
						changesNothingDone(t, e.name+", driven", impl.DriveWorld(w).World, impl.DriveWorld(then.World).World, least)
					}
				}
			}
		}
	}
	if cuts < 500 || falls < 300 || dones < 500 {
		t.Errorf("only %d cuts, %d falls, %d done", cuts, falls, dones)
	}
}

func changesNothingDone(t *testing.T, name string, from, to impl.World, least int64) {
	t.Helper()
	checkDones(t, name, impl.CommittedOf(to), impl.CommittedOf(from))
	for _, ts := range append([]int64{0, 100000}, timesOf(from, least)...) {
		checkPairs(t, name, impl.ModelAt(to, ts), impl.ModelAt(from, ts))
	}
	if impl.AtomicRight(from) != impl.AtomicRight(to) || impl.SerialRight(from) != impl.SerialRight(to) || impl.LiveTxns(from) != impl.LiveTxns(to) {
		t.Fatalf("%s: %+v looks like one, or not, and %+v", name, from, to)
	}
}

// Worlds that came of no new one: the chapter's words hold for them, too, and each is right of some, and wrong of others.
func TestAuditsOfRawWorlds(t *testing.T) {
	r := rand.New(rand.NewSource(163))
	right := map[string]int{}
	for i, raw := range append(rawWorlds(164), rawWorlds(167)...) {
		list := []impl.World{raw, withDones(raw)}
		if i%9 == 0 {
			list = append(list, impl.DriveWorld(raw).World)
		}
		for _, w := range list {
			times := []int64{0, 1, 7, r.Int63n(80), w.Oracle.Next - 1, w.Oracle.Next, 100000}
			checkAudit(t, "raw", w, times...)
			right[fmt.Sprint("atomic ", impl.AtomicRight(w))]++
			right[fmt.Sprint("serial ", impl.SerialRight(w))]++
			right[fmt.Sprint("reads ", impl.ReadsRight(w, 1+r.Int63n(6)))]++
		}
	}
	for _, what := range []string{"atomic true", "atomic false", "serial true", "serial false", "reads true", "reads false"} {
		if right[what] < 10 {
			t.Errorf("%s only %d times: %v", what, right[what], right)
		}
	}
}

// Of worlds where all is right one thing is changed, to anything: by the chapter's words some of them are right still.
func TestAuditsOfWorldsThatAreBrokenOnce(t *testing.T) {
	r := rand.New(rand.NewSource(170))
	wrong := map[string]int{}
	for range 12 {
		for _, w := range startedWorlds(r) {
			if w.Oracle.Next > 100 {
				continue
			}
			for step := len(w.Txns); step < 60; step++ {
				if next := anyEvent(r, int64(len(w.Txns))).do(w); next.Code == impl.OK {
					w = next.World
				}
			}
			for len(w.Txns) < 13 {
				w = impl.DriveWorld(beginEvent(fewWants(r)).do(w).World).World
			}
			for range 12 {
				broken := brokenOnce(r, w)
				if impl.WorldFault(broken) != impl.OK {
					continue
				}
				times := timesOf(broken, broken.Oracle.Next-8)
				checkAudit(t, "broken once", broken, times...)
				if !impl.AtomicRight(broken) {
					wrong["atomic"]++
				}
				if !impl.SerialRight(broken) {
					wrong["serial"]++
				}
				if !impl.ReadsRight(broken, times[len(times)-1]) {
					wrong["reads"]++
				}
			}
		}
	}
	if wrong["atomic"] < 50 || wrong["serial"] < 10 || wrong["reads"] < 50 {
		t.Errorf("too few were wrong: %v", wrong)
	}
}

func brokenOnce(r *rand.Rand, w impl.World) impl.World {
	return changedWorld(w, func(w *impl.World) {
		s := &w.Groups.Stores[r.Intn(len(w.Groups.Stores))]
		txn := &w.Txns[r.Intn(len(w.Txns))]
		switch r.Intn(8) {
		case 0:
			if len(s.Cells) > 0 {
				s.Cells[r.Intn(len(s.Cells))].Value = r.Int63n(10000)
			}
		case 1:
			if len(s.Writes) > 0 {
				at := r.Intn(len(s.Writes))
				s.Writes = slices.Delete(s.Writes, at, at+1)
			}
		case 2:
			if len(s.Writes) > 0 {
				s.Writes[r.Intn(len(s.Writes))].Commit += r.Int63n(9) - 4
			}
		case 3:
			if len(s.Writes) > 0 {
				s.Writes[r.Intn(len(s.Writes))].Kind = 1 + r.Int63n(3)
			}
		case 4:
			key := []int64{0, 10, 20, 43, 180}[r.Intn(5)]
			if !impl.HasKey(*txn, key) {
				txn.Items = append(txn.Items, putItem(key, r.Int63n(10000)))
			}
		case 5:
			slices.Reverse(txn.Items)
		default:
			beginEarlier(w, txn, 1+r.Int63n(txn.Start))
		}
	})
}

// beginEarlier has txn, and all that the stores have of it, of the time start, unless another one is of that.
func beginEarlier(w *impl.World, txn *impl.Txn, start int64) {
	if slices.ContainsFunc(w.Txns, func(other impl.Txn) bool { return other.Start == start }) {
		return
	}
	was := txn.Start
	txn.Start = start
	for _, s := range w.Groups.Stores {
		for i := range s.Cells {
			if s.Cells[i].Start == was {
				s.Cells[i].Start = start
			}
		}
		for i := range s.Locks {
			if s.Locks[i].Start == was {
				s.Locks[i].Start = start
			}
		}
		for i := range s.Writes {
			if s.Writes[i].Start == was {
				s.Writes[i].Start = start
			}
			if s.Writes[i].Kind == impl.WriteBack {
				s.Writes[i].Commit = s.Writes[i].Start
			}
		}
		sortStore(s)
	}
}

// wrongDriven are worlds where all would be right, but for a fault.
func wrongDriven() (list []worldCase) {
	for _, c := range []struct {
		name   string
		code   int64
		change func(w *impl.World)
	}{
		{"now below", impl.ErrRange, func(w *impl.World) { w.Now = -1 }}, {"now above", impl.ErrRange, func(w *impl.World) { w.Now = 100001 }},
		{"the oracle's Next", impl.ErrForm, func(w *impl.World) { w.Oracle.Next = w.Oracle.Bound + 1 }}, {"the oracle's Bound", impl.ErrRange, func(w *impl.World) { w.Oracle.Bound = 100001 }},
		{"no ranges", impl.ErrMany, func(w *impl.World) { w.Groups = impl.Groups{} }}, {"an epoch", impl.ErrRange, func(w *impl.World) { w.Groups.Ranges[0].Epoch = 0 }}, {"the last range", impl.ErrForm, func(w *impl.World) { w.Groups.Ranges[0].To = 199 }},
		{"no stores", impl.ErrForm, func(w *impl.World) { w.Groups.Stores = nil }}, {"a store more", impl.ErrForm, func(w *impl.World) { w.Groups.Stores = append(w.Groups.Stores, impl.Store{}) }},
		{"a cell of no key", impl.ErrForm, func(w *impl.World) {
			w.Groups.Stores[0].Cells = append(w.Groups.Stores[0].Cells, impl.Cell{Key: 199, Start: 1})
		}},
		{"a lock of no kind", impl.ErrRange, func(w *impl.World) { w.Groups.Stores[0].Locks = []impl.Lock{{Key: 180, Start: 1}} }},
		{"a write's Start", impl.ErrForm, func(w *impl.World) { w.Groups.Stores[0].Writes[0].Start = 2 }},
		{"a lock of a put without its cell", impl.ErrNone, func(w *impl.World) {
			w.Groups.Stores[0].Locks = []impl.Lock{{Key: 180, Start: 9, Kind: 1, Primary: 180}}
		}},
		{"a lock beside its write", impl.ErrTaken, func(w *impl.World) {
			w.Groups.Stores[0].Locks = []impl.Lock{{Key: 10, Start: 1, Kind: 3, Primary: 10}}
		}},
		{"too many txns", impl.ErrMany, func(w *impl.World) { w.Oracle, w.Txns = oracle(900, 900), manyTxns(17, 20) }},
		{"a txn of no items", impl.ErrMany, func(w *impl.World) { w.Txns[0].Items = nil }}, {"a txn of no state", impl.ErrRange, func(w *impl.World) { w.Txns[1].State = 8 }},
		{"a txn's Start", impl.ErrRange, func(w *impl.World) { w.Oracle.Next = 3 }}, {"two of one Start", impl.ErrTaken, func(w *impl.World) { w.Txns = append(w.Txns, w.Txns[1]) }},
	} {
		list = append(list, worldCase{c.name, changedWorld(drivenWorld(), c.change), c.code})
	}
	return list
}

// P1: a world with a fault tells it; of it none of the three is right, whatever time is asked for.
func TestAuditsAskTheFaultFirst(t *testing.T) {
	for _, c := range append(wrongWorlds(), wrongDriven()...) {
		kept := copyWorld(c.w)
		checkDrive(t, c.name, impl.DriveWorld(c.w), noDrive(c.code))
		if live := impl.LiveTxns(c.w); live != (impl.IntResult{Code: c.code}) {
			t.Errorf("%s: %+v are live", c.name, live)
		}
		if impl.AtomicRight(c.w) || impl.SerialRight(c.w) {
			t.Errorf("%s: all or nothing: %v, one behind the other: %v", c.name, impl.AtomicRight(c.w), impl.SerialRight(c.w))
		}
		for _, ts := range []int64{math.MinInt64, -1, 0, 1, 2, 3, 78, 100000, math.MaxInt64} {
			if impl.ReadsRight(c.w, ts) {
				t.Errorf("%s: it is read right at %d", c.name, ts)
			}
		}
		if !equalWorlds(kept, c.w) {
			t.Errorf("%s: the world changed", c.name)
		}
	}
}

// P1: each at right worlds, and at any number.
func TestAuditsAtOddNumbers(t *testing.T) {
	list := append(rightWorlds(), worldCase{"driven", drivenWorld(), impl.OK})
	for _, c := range list {
		checkAudit(t, c.name, c.w, append(oddBounds(), oddNumbers()...)...)
	}
}

// Rounds counts those in which one moved; where none did, time goes on, and that is none of them.
func TestDriveRounds(t *testing.T) {
	begun := func(first, second []impl.Item) impl.World {
		return impl.BeginWorld(impl.BeginWorld(impl.NewWorld(1).World, nil, first).World, nil, second).World
	}
	apart := begun(items(putItem(10, 1)), items(putItem(43, 1), putItem(180, 2), putItem(20, 3)))
	crossed := begun(items(putItem(10, 1), putItem(43, 2)), items(putItem(43, 3), putItem(10, 4)))
	same := begun(items(putItem(10, 1)), items(putItem(10, 2)))
	left := impl.LeaveWorld(impl.StepWorld(same, 0).World, 0).World
	over := impl.DriveWorld(apart).World
	for _, c := range []struct {
		name        string
		w           impl.World
		rounds, now int64
		states      []int64
	}{
		{"no transaction", impl.NewWorld(1).World, 0, 0, nil}, {"all are over", over, 0, 0, []int64{4, 4}}, {"all were left", impl.LeaveWorld(impl.LeaveWorld(same, 0).World, 1).World, 0, 0, []int64{7, 7}},
		{"apart", apart, 8, 0, []int64{4, 4}}, {"the same key", same, 5, 0, []int64{4, 6}}, {"one waits for one that left", left, 5, 21, []int64{7, 4}},
		{"each waits for the other", crossed, 8, 21, []int64{6, 6}},
	} {
		got := impl.DriveWorld(c.w)
		var states []int64
		for _, txn := range got.World.Txns {
			states = append(states, txn.State)
		}
		if got.Rounds != c.rounds || got.World.Now != c.now || !slices.Equal(states, c.states) {
			t.Errorf("%s: %d rounds, now %d, %v; want %+v", c.name, got.Rounds, got.World.Now, states, c)
		}
		checkDrive(t, c.name, got, wantDrive(c.w))
	}
	for now, then := range map[int64]int64{99977: 99998, 99978: 99999, 99979: 100000, 99980: 99980, 100000: 100000} {
		late := changedWorld(left, func(w *impl.World) { w.Now, w.Groups.Stores[0].Locks[0].Until = now, min(100000, now+20) })
		got := impl.DriveWorld(late)
		checkDrive(t, "late", got, wantDrive(late))
		if ends := got.World.Txns[1].State == impl.TxnDone; got.World.Now != then || ends != (then > now) || impl.LiveTxns(got.World).Value != map[bool]int64{true: 0, false: 1}[ends] {
			t.Errorf("now %d: %+v", now, got)
		}
	}
}

// P1: arguments stay as they were, also behind the lengths of their lists, and what is asked twice is told twice.
func TestAuditsChangeNothing(t *testing.T) {
	list := append(rawWorlds(173)[:40], drivenWorld())
	for _, c := range append(rightWorlds(), wrongDriven()...) {
		list = append(list, c.w)
	}
	for _, from := range list {
		w, stays := roomyWorld(from)
		first, again := askAudit(w, 3), askAudit(w, 3)
		if first != again || !stays() {
			t.Fatalf("%+v: %+v, then %+v, or the world changed", from, first, again)
		}
		driven := impl.DriveWorld(w)
		inner, outer := spoilWorld(driven.World)
		for _, spoilOne := range append(inner, outer...) {
			spoilOne()
		}
		if then := askAudit(w, 3); then != first || !stays() {
			t.Fatalf("%+v: %+v, then %+v, or an answer shares memory", from, first, then)
		}
	}
}

type auditAnswers struct {
	atomic, serial, reads bool
	live                  impl.IntResult
}

func askAudit(w impl.World, ts int64) auditAnswers {
	return auditAnswers{impl.AtomicRight(w), impl.SerialRight(w), impl.ReadsRight(w, ts), impl.LiveTxns(w)}
}

// P1: whatever was asked ahead of it, and beside it, an answer is the same.
func TestAuditAnswersHangOnArguments(t *testing.T) {
	type answers struct {
		audit  auditAnswers
		driven impl.DriveResult
	}
	for _, w := range []impl.World{drivenWorld(), plainWorld(), rawWorlds(176)[60]} {
		checkSteady(t, func(n int64) any {
			begun := impl.BeginWorld(w, []int64{n}, nil)
			if begun.Code != impl.OK {
				begun.World = w
			}
			return answers{askAudit(w, n), impl.DriveWorld(begun.World)}
		})
	}
}
