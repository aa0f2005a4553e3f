package tests

import (
	"fmt"
	"math/rand"
	"slices"
	"testing"

	"loop.example/g00331/impl"
)

func TestAuditConstants(t *testing.T) {
	if impl.MaxRounds != 1200 {
		t.Error("bounds")
	}
}

func noDrive(code int64) impl.DriveResult { return impl.DriveResult{Code: code} }

func driven(rounds int64, w impl.World) impl.DriveResult {
	return impl.DriveResult{Rounds: rounds, World: w}
}

func checkDrive(t *testing.T, name string, got, want impl.DriveResult) {
	t.Helper()
	if got.Code != want.Code || got.Rounds != want.Rounds || !equalWorlds(got.World, want.World) {
		t.Errorf("%s: %+v, want %+v", name, got, want)
	}
	if fault := wantWorldFault(got.World); got.Code == impl.OK && fault != impl.OK {
		t.Errorf("%s: %+v has the fault %d", name, got.World, fault)
	}
}

// wantDrive says it once more, by rounds of StepWorld.
func wantDrive(w impl.World) impl.DriveResult {
	if code := wantWorldFault(w); code != impl.OK {
		return noDrive(code)
	}
	got := driven(0, copyWorld(w))
	for range 1200 {
		moved := false
		for place := range got.World.Txns {
			next := impl.StepWorld(got.World, int64(place))
			got.World, moved = next.World, moved || next.Moved
		}
		live := slices.ContainsFunc(got.World.Txns, func(txn impl.Txn) bool { return !wantOver(txn) })
		switch {
		case moved:
			got.Rounds++
		case !live || got.World.Now+21 > 100000:
			return got
		default:
			got.World.Now += 21
		}
	}
	return got
}

// One alone says all, has its Commit, does all, and is at its end; no time goes on.
func TestDriveOne(t *testing.T) {
	for n := 1; n <= 12; n++ {
		begun := impl.BeginWorld(impl.NewWorld(4).World, nil, someItems(n)).World
		got := impl.DriveWorld(begun)
		if got.Code != impl.OK || got.Rounds != int64(2*n+2) || got.World.Now != 0 || got.World.Txns[0].State != impl.TxnDone || got.World.Txns[0].Commit != 5 {
			t.Errorf("%d items: %+v", n, got)
		}
		checkDrive(t, "one", got, wantDrive(begun))
		checkDrive(t, "again", impl.DriveWorld(got.World), driven(0, got.World))
		checkPairs(t, "one", impl.ModelAt(got.World, 5), wantApply(nil, someItems(n)))
	}
	empty := impl.NewWorld(4).World
	checkDrive(t, "none", impl.DriveWorld(empty), driven(0, empty))
}

// One left a lock of 10 that may be waited for until 20; another one wants it.
func TestDriveBehindOneThatLeft(t *testing.T) {
	begun := impl.BeginWorld(impl.BeginWorld(impl.NewWorld(1).World, nil, items(putItem(10, 7))).World, nil, items(putItem(10, 8))).World
	left := impl.LeaveWorld(impl.StepWorld(begun, 0).World, 0).World
	got := impl.DriveWorld(left)
	checkDrive(t, "left", got, wantDrive(left))
	if states := []int64{got.World.Txns[0].State, got.World.Txns[1].State}; got.World.Now != 21 || got.Rounds != 5 || !slices.Equal(states, []int64{impl.TxnLeft, impl.TxnDone}) {
		t.Errorf("left: %+v", got)
	}
	for _, c := range []struct{ now, then, state int64 }{{0, 21, impl.TxnDone}, {20, 41, impl.TxnDone}, {21, 21, impl.TxnDone}, {99979, 99979, impl.TxnDone}} {
		w := changedWorld(left, func(w *impl.World) { w.Now = c.now })
		if got := impl.DriveWorld(w); got.World.Now != c.then || got.World.Txns[1].State != c.state {
			t.Errorf("left at %d: %+v", c.now, got)
		}
	}
}

// Nobody has the lock that is waited for: time goes on as long as there is any, or for MaxRounds rounds.
func TestDriveComesToAnEnd(t *testing.T) {
	waits := stepCase{state: 1}.world(held(impl.Store{}, 10, 4, impl.WritePut, 10, 100000))
	for _, c := range []struct{ now, then int64 }{
		{0, 25200}, {74799, 99999}, {74800, 100000}, {74801, 99980}, {74820, 99999}, {74821, 100000}, {99958, 100000}, {99959, 99980}, {99979, 100000}, {99980, 99980}, {99999, 99999}, {100000, 100000},
	} {
		w := changedWorld(waits, func(w *impl.World) { w.Now = c.now })
		then := changedWorld(waits, func(w *impl.World) { w.Now = c.then })
		checkDrive(t, fmt.Sprintf("from %d on", c.now), impl.DriveWorld(w), driven(0, then))
		checkDrive(t, "by the tests", wantDrive(w), driven(0, then))
	}
}

func TestDriveAsksTheFaultFirst(t *testing.T) {
	for _, c := range wrongWorlds() {
		kept := copyWorld(c.w)
		checkDrive(t, c.name, impl.DriveWorld(c.w), noDrive(c.code))
		if !equalWorlds(kept, c.w) {
			t.Errorf("%s: the world changed", c.name)
		}
	}
}

func TestDriveIsRoundsOfSteps(t *testing.T) {
	r := rand.New(rand.NewSource(150))
	var list []impl.World
	for _, w := range startedWorlds(r) {
		list = append(list, w)
		for step := len(w.Txns); step < 40; step++ {
			if next := anyEvent(r, int64(len(w.Txns))).do(w); next.Code == impl.OK {
				w = next.World
			}
		}
		list = append(list, w)
	}
	for _, c := range rightWorlds() {
		list = append(list, c.w)
	}
	for i, w := range rawWorlds(151) {
		if i%4 == 1 {
			list = append(list, w)
		}
	}
	for _, w := range list {
		checkDrive(t, "driven", impl.DriveWorld(w), wantDrive(w))
	}
}

func TestDriveNewMemory(t *testing.T) {
	list := []impl.World{rawWorlds(154)[1], rawWorlds(154)[33]}
	for _, c := range rightWorlds() {
		list = append(list, c.w)
	}
	for _, w := range list {
		checkWorldMemory(t, "DriveWorld", w, func(w impl.World) impl.World { return impl.DriveWorld(w).World })
	}
	for _, w := range append(list, startedWorlds(rand.New(rand.NewSource(155)))[3]) {
		first := impl.DriveWorld(w)
		for range 3 {
			checkDrive(t, "again", impl.DriveWorld(w), first)
		}
	}
}
