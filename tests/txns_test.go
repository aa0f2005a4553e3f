package tests

import (
	"fmt"
	"math"
	"math/rand"
	"slices"
	"testing"

	"loop.example/g00331/impl"
)

func TestTxnConstants(t *testing.T) {
	got := []int64{impl.TxnFirst, impl.TxnSecond, impl.TxnRest, impl.TxnDone, impl.TxnUndo, impl.TxnGone, impl.TxnLeft, impl.MaxItems}
	if want := []int64{1, 2, 3, 4, 5, 6, 7, 12}; !slices.Equal(got, want) {
		t.Errorf("%v, want %v", got, want)
	}
}

func putItem(key, value int64) impl.Item {
	return impl.Item{Key: key, Kind: impl.WritePut, Value: value}
}

func deleteItem(key int64) impl.Item { return impl.Item{Key: key, Kind: impl.WriteDelete} }

func lockItem(key int64) impl.Item { return impl.Item{Key: key, Kind: impl.WriteLock} }

// someItems are n of different keys and all kinds, from the entry 20 on; there are 60 entries.
func someItems(n int) (items []impl.Item) {
	for i := range int64(n) {
		item := impl.Item{Key: 20 + i/6*10 + i%6, Kind: i%3 + 1}
		if item.Kind == impl.WritePut {
			item.Value = i + 1
		}
		items = append(items, item)
	}
	return items
}

func someKeys(n int) (keys []int64) {
	for _, item := range someItems(n) {
		keys = append(keys, item.Key)
	}
	return keys
}

// txnIn is a right transaction of n items in a state: Start 5, and a Commit of 9 where it has to have one.
func txnIn(state int64, n int) impl.Txn {
	t := impl.Txn{Start: 5, Until: 25, State: state, Items: someItems(n)}
	if within(state, impl.TxnSecond, impl.TxnDone) {
		t.Commit = 9
	}
	return t
}

func changedTxn(t impl.Txn, change func(t *impl.Txn)) impl.Txn {
	t.Items = slices.Clone(t.Items)
	change(&t)
	return t
}

func equalTxns(a, b impl.Txn) bool {
	same := a.Start == b.Start && a.Commit == b.Commit && a.Until == b.Until && a.State == b.State && a.At == b.At
	return same && slices.Equal(a.Items, b.Items)
}

func noTxn(code int64) impl.TxnResult { return impl.TxnResult{Code: code} }

// wantTxnFault and the others behind it say the chapter once more, with its own numbers.
func wantTxnFault(t impl.Txn) int64 {
	if !within(t.Start, 1, 100000) || !within(t.Commit, 0, 100000) || !within(t.Until, 0, 100000) || !within(t.State, 1, 7) {
		return impl.ErrRange
	}
	if len(t.Items) == 0 || len(t.Items) > 12 {
		return impl.ErrMany
	}
	seen := map[int64]bool{}
	for _, item := range t.Items {
		if code := wantFault(item.Key); code != impl.OK {
			return code
		}
		if !within(item.Kind, 1, 3) || !within(item.Value, 0, 9999) {
			return impl.ErrRange
		}
		if item.Value != 0 && item.Kind != 1 {
			return impl.ErrForm
		}
		if seen[item.Key] {
			return impl.ErrTaken
		}
		seen[item.Key] = true
	}
	if !within(t.At, 0, int64(len(t.Items))) {
		return impl.ErrRange
	}
	if within(t.State, 2, 4) && t.Commit <= t.Start || t.State == 1 && t.Commit != 0 {
		return impl.ErrForm
	}
	return impl.OK
}

func wantNewTxn(start, until int64, reads []int64, writes []impl.Item) impl.TxnResult {
	if len(reads) > 12 {
		return noTxn(impl.ErrMany)
	}
	txn := impl.Txn{Start: start, Until: until, State: 1, Items: slices.Clone(writes)}
	seen := map[int64]bool{}
	for _, write := range writes {
		seen[write.Key] = true
	}
	for _, key := range reads {
		if !seen[key] {
			txn.Items = append(txn.Items, impl.Item{Key: key, Kind: 3})
		}
		seen[key] = true
	}
	if code := wantTxnFault(txn); code != impl.OK {
		return noTxn(code)
	}
	return impl.TxnResult{Txn: txn}
}

func wantPrimary(t impl.Txn) impl.IntResult {
	if code := wantTxnFault(t); code != impl.OK {
		return impl.IntResult{Code: code}
	}
	return impl.IntResult{Value: t.Items[0].Key}
}

func wantOver(t impl.Txn) bool {
	return wantTxnFault(t) == impl.OK && (t.State == 4 || t.State == 6 || t.State == 7)
}

func wantSteps(t impl.Txn) impl.IntResult {
	if code := wantTxnFault(t); code != impl.OK {
		return impl.IntResult{Code: code}
	}
	n := int64(len(t.Items))
	return impl.IntResult{Value: []int64{1: 2*n - t.At + 1, 2: n, 3: n - t.At + 1, 4: 0, 5: n - t.At + 1, 6: 0, 7: 0}[t.State]}
}

func wantHas(t impl.Txn, key int64) bool {
	return wantTxnFault(t) == impl.OK && slices.Contains(txnKeys(t), key)
}

func txnKeys(t impl.Txn) (keys []int64) {
	for _, item := range t.Items {
		keys = append(keys, item.Key)
	}
	return keys
}

// checkTxn asks all that take a transaction, and that it stays as it was.
func checkTxn(t *testing.T, name string, txn impl.Txn, code int64) {
	t.Helper()
	kept := changedTxn(txn, func(*impl.Txn) {})
	if got := impl.TxnFault(txn); got != code || wantTxnFault(txn) != code {
		t.Errorf("%s: %+v has the fault %d, want %d", name, txn, got, code)
	}
	if got := impl.PrimaryOf(txn); got != wantPrimary(txn) {
		t.Errorf("%s: the primary of %+v is %+v, want %+v", name, txn, got, wantPrimary(txn))
	}
	if got := impl.IsOver(txn); got != wantOver(txn) {
		t.Errorf("%s: %+v is over: %v", name, txn, got)
	}
	if got := impl.StepsLeft(txn); got != wantSteps(txn) {
		t.Errorf("%s: the steps left of %+v are %+v, want %+v", name, txn, got, wantSteps(txn))
	}
	keys := append([]int64{math.MinInt64, -1, 0, 1, 10, 20, 26, 189, 199, 200, math.MaxInt64}, txnKeys(txn)...)
	for _, key := range keys {
		if got := impl.HasKey(txn, key); got != wantHas(txn, key) {
			t.Errorf("%s: %+v has the key %d: %v", name, txn, key, got)
		}
	}
	if !equalTxns(txn, kept) {
		t.Errorf("%s: %+v became %+v", name, kept, txn)
	}
}

type txnCase struct {
	name string
	txn  impl.Txn
	code int64
}

func rightTxns() (list []txnCase) {
	for state := int64(1); state <= 7; state++ {
		for _, n := range []int{1, 2, 3, 11, 12} {
			for _, at := range []int{0, 1, n - 1, n} {
				name := fmt.Sprintf("state %d, %d items, %d at their end", state, n, at)
				txn := changedTxn(txnIn(state, n), func(t *impl.Txn) { t.At = int64(at) })
				list = append(list, txnCase{name, txn, impl.OK})
			}
		}
	}
	return list
}

func wrongTxns() []txnCase {
	list := []txnCase{{"nothing", impl.Txn{}, impl.ErrRange}, {"no items, in an empty list", impl.Txn{Start: 1, State: 1, Items: []impl.Item{}}, impl.ErrMany}}
	for state := int64(1); state <= 7; state++ {
		for _, n := range []int{1, 2, 12} {
			last := n - 1
			for _, c := range []struct {
				name   string
				change func(t *impl.Txn)
				code   int64
			}{
				{"start 0", func(t *impl.Txn) { t.Start = 0 }, impl.ErrRange},
				{"until below 0", func(t *impl.Txn) { t.Until = -1 }, impl.ErrRange},
				{"commit below 0", func(t *impl.Txn) { t.Commit = -1 }, impl.ErrRange},
				{"no state", func(t *impl.Txn) { t.State = 8 }, impl.ErrRange},
				{"no items", func(t *impl.Txn) { t.Items = nil }, impl.ErrMany},
				{"too many items", func(t *impl.Txn) { t.Items = someItems(13) }, impl.ErrMany},
				{"a key too great", func(t *impl.Txn) { t.Items[last].Key = 200 }, impl.ErrRange},
				{"a key that stands for nothing", func(t *impl.Txn) { t.Items[0].Key = 26 }, impl.ErrForm},
				{"a value too great", func(t *impl.Txn) { t.Items[last].Value = 10000 }, impl.ErrRange},
				{"a delete with a value", func(t *impl.Txn) { t.Items[last].Kind, t.Items[last].Value = 2, 1 }, impl.ErrForm},
				{"a key twice", func(t *impl.Txn) { t.Items = append(t.Items[:min(n, 11)], t.Items[0]) }, impl.ErrTaken},
				{"at below 0", func(t *impl.Txn) { t.At = -1 }, impl.ErrRange},
				{"at too great", func(t *impl.Txn) { t.At = int64(n) + 1 }, impl.ErrRange},
			} {
				name := fmt.Sprintf("%s, state %d, %d items", c.name, state, n)
				list = append(list, txnCase{name, changedTxn(txnIn(state, n), c.change), c.code})
			}
		}
	}
	return list
}

func allTxns() []txnCase { return append(rightTxns(), wrongTxns()...) }

func TestTxnFault(t *testing.T) {
	for _, c := range allTxns() {
		checkTxn(t, c.name, c.txn, c.code)
	}
}

// Times and states at their ends, where nothing else hangs on them.
func TestTxnFaultNumbers(t *testing.T) {
	base := txnIn(impl.TxnGone, 2)
	fields := map[string]func(t *impl.Txn) *int64{
		"start":  func(t *impl.Txn) *int64 { return &t.Start },
		"commit": func(t *impl.Txn) *int64 { return &t.Commit },
		"until":  func(t *impl.Txn) *int64 { return &t.Until },
	}
	for name, field := range fields {
		for _, n := range []int64{math.MinInt64, -100000, -1, 0, 1, 2, 99999, 100000, 100001, math.MaxInt32 + 1, math.MaxInt64} {
			code := int64(impl.ErrRange)
			if n >= 1 && n <= 100000 || n == 0 && name != "start" {
				code = impl.OK
			}
			checkTxn(t, name, changedTxn(base, func(t *impl.Txn) { *field(t) = n }), code)
		}
	}
	for _, n := range []int64{math.MinInt64, -7, -1, 0, 1, 2, 6, 7, 8, 9, 257, 1<<32 + 1, math.MaxInt64} {
		code := int64(impl.ErrRange)
		if n >= 1 && n <= 7 {
			code = impl.OK
		}
		txn := changedTxn(base, func(t *impl.Txn) {
			t.State = n
			if n != impl.TxnFirst {
				t.Commit = 6
			}
		})
		checkTxn(t, "state", txn, code)
	}
}

func TestTxnFaultNumberOfItems(t *testing.T) {
	for state := int64(1); state <= 7; state++ {
		for _, n := range []int{0, 1, 2, 11, 12, 13, 14, 60} {
			code := int64(impl.OK)
			if n < 1 || n > 12 {
				code = impl.ErrMany
			}
			checkTxn(t, "items", txnIn(state, n), code)
		}
	}
	far := txnIn(impl.TxnFirst, 1)
	far.Items = make([]impl.Item, 100000)
	checkTxn(t, "far too many", far, impl.ErrMany)
}

// An item of each key, kind and value alone, first, between and last.
func TestTxnFaultOfAnItem(t *testing.T) {
	cases := []struct {
		name string
		item impl.Item
		code int64
	}{
		{"the next inode", putItem(0, 5), impl.OK}, {"an inode", putItem(10, 5), impl.OK}, {"bytes", putItem(189, 5), impl.OK}, {"the last entry", putItem(115, 5), impl.OK},
		{"a gap behind the next inode", putItem(1, 5), impl.ErrForm}, {"a gap between the names", putItem(26, 5), impl.ErrForm}, {"a gap behind the entries", putItem(120, 5), impl.ErrForm},
		{"MaxKey stands for nothing", putItem(199, 5), impl.ErrForm}, {"behind MaxKey", putItem(200, 5), impl.ErrRange}, {"below 0", putItem(-1, 5), impl.ErrRange},
		{"the least key", putItem(math.MinInt64, 5), impl.ErrRange}, {"the greatest key", putItem(math.MaxInt64, 5), impl.ErrRange},
		{"kind 0", impl.Item{Key: 180, Kind: 0}, impl.ErrRange}, {"kind 1", impl.Item{Key: 180, Kind: 1}, impl.OK}, {"kind 2", impl.Item{Key: 180, Kind: 2}, impl.OK},
		{"kind 3", impl.Item{Key: 180, Kind: 3}, impl.OK}, {"kind 4", impl.Item{Key: 180, Kind: 4}, impl.ErrRange}, {"kind -1", impl.Item{Key: 180, Kind: -1}, impl.ErrRange},
		{"the least kind", impl.Item{Key: 180, Kind: math.MinInt64}, impl.ErrRange}, {"the greatest kind", impl.Item{Key: 180, Kind: math.MaxInt64}, impl.ErrRange},
		{"a put of -1", putItem(180, -1), impl.ErrRange}, {"a put of 0", putItem(180, 0), impl.OK}, {"a put of 1", putItem(180, 1), impl.OK}, {"a put of MaxValue", putItem(180, 9999), impl.OK},
		{"a put of one more", putItem(180, 10000), impl.ErrRange}, {"a put of the least", putItem(180, math.MinInt64), impl.ErrRange}, {"a put of the greatest", putItem(180, math.MaxInt64), impl.ErrRange},
		{"kind 0 with a value", impl.Item{Key: 180, Kind: 0, Value: 1}, impl.ErrRange}, {"kind 4 with a value", impl.Item{Key: 180, Kind: 4, Value: 1}, impl.ErrRange},
		{"a key for nothing, kind and value wrong", impl.Item{Key: 26, Kind: 4, Value: -1}, impl.ErrForm}, {"a key too great, a delete with a value", impl.Item{Key: 200, Kind: 2, Value: 1}, impl.ErrRange},
	}
	for kind := int64(impl.WriteDelete); kind <= impl.WriteLock; kind++ {
		for value, code := range map[int64]int64{
			math.MinInt64: impl.ErrRange, -1: impl.ErrRange, 0: impl.OK, 1: impl.ErrForm, 9998: impl.ErrForm, 9999: impl.ErrForm,
			10000: impl.ErrRange, math.MaxInt64: impl.ErrRange,
		} {
			name := fmt.Sprintf("kind %d with the value %d", kind, value)
			cases = append(cases, struct {
				name string
				item impl.Item
				code int64
			}{name, impl.Item{Key: 180, Kind: kind, Value: value}, code})
		}
	}
	for _, c := range cases {
		for _, n := range []int{1, 2, 7, 12} {
			for _, place := range []int{0, n / 2, n - 1} {
				for state := int64(1); state <= 7; state++ {
					txn := changedTxn(txnIn(state, n), func(t *impl.Txn) { t.Items[place] = c.item })
					checkTxn(t, fmt.Sprintf("%s at %d of %d", c.name, place, n), txn, c.code)
				}
			}
		}
	}
}

// A key that is there twice, in any two places, whatever the kinds.
func TestTxnFaultKeyTwice(t *testing.T) {
	for _, n := range []int{2, 3, 12} {
		for first := range n {
			for second := first + 1; second < n; second++ {
				for _, again := range []func(key int64) impl.Item{deleteItem, lockItem, func(key int64) impl.Item { return putItem(key, 9) }} {
					txn := changedTxn(txnIn(impl.TxnUndo, n), func(t *impl.Txn) { t.Items[second] = again(t.Items[first].Key) })
					checkTxn(t, fmt.Sprintf("twice, at %d and %d of %d", first, second, n), txn, impl.ErrTaken)
				}
			}
		}
	}
	same := changedTxn(txnIn(impl.TxnFirst, 12), func(t *impl.Txn) {
		for i := range t.Items {
			t.Items[i] = putItem(0, 0)
		}
	})
	checkTxn(t, "all of one key", same, impl.ErrTaken)
}

func TestTxnFaultAt(t *testing.T) {
	for state := int64(1); state <= 7; state++ {
		for _, n := range []int64{1, 2, 5, 12} {
			for _, at := range []int64{math.MinInt64, -1, 0, 1, n - 1, n, n + 1, 12, 13, math.MaxInt64 - 1, math.MaxInt64} {
				code := int64(impl.OK)
				if at < 0 || at > n {
					code = impl.ErrRange
				}
				checkTxn(t, "at", changedTxn(txnIn(state, int(n)), func(t *impl.Txn) { t.At = at }), code)
			}
		}
	}
}

// In each state a Commit of 0, one below, at and above Start.
func TestTxnFaultCommitBesideStart(t *testing.T) {
	right := map[int64]string{1: "none", 2: "above", 3: "above", 4: "above", 5: "any", 6: "any", 7: "any"}
	for state, suits := range right {
		for _, start := range []int64{1, 2, 5, 99999, 100000} {
			for _, commit := range []int64{0, 1, start - 1, start, start + 1, 100000} {
				if commit > 100000 {
					continue
				}
				code := int64(impl.OK)
				if suits == "none" && commit != 0 || suits == "above" && commit <= start {
					code = impl.ErrForm
				}
				txn := changedTxn(txnIn(state, 2), func(t *impl.Txn) { t.Start, t.Commit = start, commit })
				checkTxn(t, "commit", txn, code)
			}
		}
	}
}

// Each fault beside each that is asked behind it: the first one is told.
func TestTxnFaultFirstCode(t *testing.T) {
	faults := []struct {
		name  string
		wrong func(t *impl.Txn)
		code  int64
	}{
		{"start", func(t *impl.Txn) { t.Start = 0 }, impl.ErrRange},
		{"commit", func(t *impl.Txn) { t.Commit = 100001 }, impl.ErrRange},
		{"until", func(t *impl.Txn) { t.Until = -1 }, impl.ErrRange},
		{"state", func(t *impl.Txn) { t.State = 0 }, impl.ErrRange},
		{"first key", func(t *impl.Txn) { t.Items[0].Key = 26 }, impl.ErrForm},
		{"first kind", func(t *impl.Txn) { t.Items[0].Kind = 4 }, impl.ErrRange},
		{"first value without place", func(t *impl.Txn) { t.Items[0].Kind, t.Items[0].Value = 2, 3 }, impl.ErrForm},
		{"second value", func(t *impl.Txn) { t.Items[1].Value = 10000 }, impl.ErrRange},
		{"second key again", func(t *impl.Txn) { t.Items[1].Key = t.Items[0].Key }, impl.ErrTaken},
		{"third key", func(t *impl.Txn) { t.Items[2].Key = 199 }, impl.ErrForm},
		{"third kind", func(t *impl.Txn) { t.Items[2].Kind = 0 }, impl.ErrRange},
		{"third key again", func(t *impl.Txn) { t.Items[2].Key = 20 }, impl.ErrTaken},
		{"at", func(t *impl.Txn) { t.At = 4 }, impl.ErrRange},
		{"commit at start", func(t *impl.Txn) { t.Commit = t.Start }, impl.ErrForm},
	}
	sameField := map[[2]string]bool{
		{"commit", "commit at start"}: true, {"first kind", "first value without place"}: true, {"third key", "third key again"}: true,
		{"first key", "second key again"}: true,
	}
	for i, first := range faults {
		for _, second := range faults[i:] {
			if sameField[[2]string{first.name, second.name}] {
				continue
			}
			txn := changedTxn(txnIn(impl.TxnRest, 3), func(t *impl.Txn) { second.wrong(t); first.wrong(t) })
			checkTxn(t, first.name+" and "+second.name, txn, first.code)
		}
	}
	for _, fault := range faults[4:12] {
		txn := changedTxn(txnIn(impl.TxnRest, 13), fault.wrong)
		checkTxn(t, "too many, and "+fault.name, txn, impl.ErrMany)
	}
	for _, fault := range faults[:4] {
		for _, n := range []int{0, 13} {
			checkTxn(t, "not as many, and "+fault.name, changedTxn(txnIn(impl.TxnRest, n), fault.wrong), impl.ErrRange)
		}
	}
}

// All of a transaction's numbers at odd ones, one and two at once.
func TestTxnAtOddNumbers(t *testing.T) {
	odd := []int64{math.MinInt64, math.MinInt64 + 1, -1, 0, 1, 2, 3, 4, 5, 6, 7, 8, 10, 12, 20, 26, 199, 200, 9999, 10000, 99999, 100000, 100001, math.MaxInt64 - 1, math.MaxInt64}
	fields := []func(t *impl.Txn) *int64{
		func(t *impl.Txn) *int64 { return &t.Start }, func(t *impl.Txn) *int64 { return &t.Commit }, func(t *impl.Txn) *int64 { return &t.Until },
		func(t *impl.Txn) *int64 { return &t.State }, func(t *impl.Txn) *int64 { return &t.At },
		func(t *impl.Txn) *int64 { return &t.Items[0].Key }, func(t *impl.Txn) *int64 { return &t.Items[1].Key },
		func(t *impl.Txn) *int64 { return &t.Items[1].Kind }, func(t *impl.Txn) *int64 { return &t.Items[1].Value },
	}
	for state := int64(1); state <= 7; state++ {
		for i, one := range fields {
			for _, other := range fields[i:] {
				for _, a := range odd {
					for _, b := range odd {
						txn := changedTxn(txnIn(state, 2), func(t *impl.Txn) { *one(t), *other(t) = a, b })
						checkTxn(t, "odd", txn, wantTxnFault(txn))
					}
				}
			}
		}
	}
}

func TestStepsLeft(t *testing.T) {
	type row struct{ n, at, steps int64 }
	rows := map[int64][]row{
		impl.TxnFirst:  {{1, 0, 3}, {1, 1, 2}, {2, 0, 5}, {2, 1, 4}, {2, 2, 3}, {5, 0, 11}, {5, 3, 8}, {5, 5, 6}, {12, 0, 25}, {12, 6, 19}, {12, 12, 13}},
		impl.TxnSecond: {{1, 0, 1}, {1, 1, 1}, {2, 0, 2}, {2, 1, 2}, {2, 2, 2}, {5, 0, 5}, {5, 3, 5}, {5, 5, 5}, {12, 0, 12}, {12, 6, 12}, {12, 12, 12}},
		impl.TxnRest:   {{1, 0, 2}, {1, 1, 1}, {2, 0, 3}, {2, 1, 2}, {2, 2, 1}, {5, 0, 6}, {5, 3, 3}, {5, 5, 1}, {12, 0, 13}, {12, 6, 7}, {12, 12, 1}},
		impl.TxnDone:   {{1, 0, 0}, {1, 1, 0}, {5, 0, 0}, {5, 3, 0}, {5, 5, 0}, {12, 0, 0}, {12, 12, 0}},
		impl.TxnUndo:   {{1, 0, 2}, {1, 1, 1}, {2, 0, 3}, {2, 1, 2}, {2, 2, 1}, {5, 0, 6}, {5, 3, 3}, {5, 5, 1}, {12, 0, 13}, {12, 6, 7}, {12, 12, 1}},
		impl.TxnGone:   {{1, 0, 0}, {1, 1, 0}, {5, 0, 0}, {5, 3, 0}, {5, 5, 0}, {12, 0, 0}, {12, 12, 0}},
		impl.TxnLeft:   {{1, 0, 0}, {1, 1, 0}, {5, 0, 0}, {5, 3, 0}, {5, 5, 0}, {12, 0, 0}, {12, 12, 0}},
	}
	for state, list := range rows {
		for _, r := range list {
			txn := changedTxn(txnIn(state, int(r.n)), func(t *impl.Txn) { t.At = r.at })
			if got := impl.StepsLeft(txn); got != (impl.IntResult{Value: r.steps}) {
				t.Errorf("state %d, %d of %d: %+v, want %d", state, r.at, r.n, got, r.steps)
			}
		}
	}
}

func TestIsOver(t *testing.T) {
	over := map[int64]bool{1: false, 2: false, 3: false, 4: true, 5: false, 6: true, 7: true}
	for state, want := range over {
		for _, at := range []int64{0, 1, 3} {
			txn := changedTxn(txnIn(state, 3), func(t *impl.Txn) { t.At = at })
			if got := impl.IsOver(txn); got != want {
				t.Errorf("state %d, at %d: %v", state, at, got)
			}
			txn.At = 4
			if impl.IsOver(txn) {
				t.Errorf("state %d: one with a fault is over", state)
			}
		}
	}
}

func TestHasKey(t *testing.T) {
	for state := int64(1); state <= 7; state++ {
		for _, n := range []int{1, 2, 7, 12} {
			txn := txnIn(state, n)
			keys := txnKeys(txn)
			for _, key := range append(oddNumbers(), 20, keys[n-1]) {
				if got := impl.HasKey(txn, key); got != slices.Contains(keys, key) {
					t.Errorf("state %d, %v has %d: %v", state, keys, key, got)
				}
			}
			wrong := changedTxn(txn, func(t *impl.Txn) { t.Until = 100001 })
			if impl.HasKey(wrong, keys[0]) || impl.HasKey(wrong, keys[n-1]) {
				t.Errorf("%+v has a fault, and keys", wrong)
			}
		}
	}
	stray := changedTxn(txnIn(1, 2), func(t *impl.Txn) { t.Items[1].Key = 26 })
	if impl.HasKey(stray, 26) || impl.HasKey(stray, 20) {
		t.Errorf("%+v has a fault, and keys", stray)
	}
}

func TestPrimaryOf(t *testing.T) {
	for _, items := range [][]impl.Item{
		{putItem(0, 3)}, {lockItem(189)}, {deleteItem(43), putItem(10, 1)}, {lockItem(180), putItem(0, 1), deleteItem(43)},
	} {
		for state := int64(1); state <= 7; state++ {
			for at := range int64(len(items) + 1) {
				txn := changedTxn(txnIn(state, 1), func(t *impl.Txn) { t.Items, t.At = items, at })
				if got := impl.PrimaryOf(txn); got != (impl.IntResult{Value: items[0].Key}) {
					t.Errorf("%+v: %+v", txn, got)
				}
			}
		}
	}
	for state := int64(1); state <= 7; state++ {
		if got := impl.PrimaryOf(txnIn(state, 12)); got != (impl.IntResult{Value: 20}) {
			t.Errorf("state %d, of many: %+v", state, got)
		}
	}
}

// checkNew: the code, all of the transaction, and no fault in it; beside a code nothing; the lists that came in stay.
func checkNew(t *testing.T, name string, start, until int64, reads []int64, writes []impl.Item, want impl.TxnResult) {
	t.Helper()
	keptReads, keptWrites := slices.Clone(reads), slices.Clone(writes)
	got := impl.NewTxn(start, until, reads, writes)
	if got.Code != want.Code || !equalTxns(got.Txn, want.Txn) {
		t.Errorf("%s: NewTxn of %d, %d, %v, %v is %+v, want %+v", name, start, until, reads, writes, got, want)
	}
	if fault := wantTxnFault(got.Txn); got.Code == impl.OK && fault != impl.OK {
		t.Errorf("%s: %+v has the fault %d", name, got.Txn, fault)
	}
	if !slices.Equal(reads, keptReads) || !slices.Equal(writes, keptWrites) {
		t.Errorf("%s: %v, %v became %v, %v", name, keptReads, keptWrites, reads, writes)
	}
}

func TestNewTxn(t *testing.T) {
	list := func(items ...impl.Item) []impl.Item { return items }
	for _, c := range []struct {
		name   string
		reads  []int64
		writes []impl.Item
		items  []impl.Item
	}{
		{"a write", nil, list(putItem(20, 1)), list(putItem(20, 1))},
		{"a write, no reads in an empty list", []int64{}, list(deleteItem(20)), list(deleteItem(20))},
		{"a read", []int64{20}, nil, list(lockItem(20))},
		{"a read, no writes in an empty list", []int64{20}, list(), list(lockItem(20))},
		{"a read of key 0", []int64{0}, nil, list(lockItem(0))},
		{"writes ahead of reads", []int64{10, 0}, list(putItem(180, 1), deleteItem(20)), list(putItem(180, 1), deleteItem(20), lockItem(10), lockItem(0))},
		{"each in its order", []int64{189, 10, 43}, list(lockItem(115), putItem(0, 9999), deleteItem(11)), list(lockItem(115), putItem(0, 9999), deleteItem(11), lockItem(189), lockItem(10), lockItem(43))},
		{"a key that is read twice", []int64{10, 10}, nil, list(lockItem(10))},
		{"one that is read twice, another between", []int64{10, 20, 10}, nil, list(lockItem(10), lockItem(20))},
		{"one that is read twelve times", []int64{10, 10, 10, 10, 10, 10, 10, 10, 10, 10, 10, 10}, nil, list(lockItem(10))},
		{"one that is put and read", []int64{10}, list(putItem(10, 4)), list(putItem(10, 4))},
		{"one that is deleted and read twice", []int64{10, 10}, list(deleteItem(10)), list(deleteItem(10))},
		{"one that is locked and read", []int64{10}, list(lockItem(10)), list(lockItem(10))},
		{"the last write is read first", []int64{20, 10, 11}, list(putItem(10, 1), putItem(20, 2)), list(putItem(10, 1), putItem(20, 2), lockItem(11))},
		{"all that is written is read", someKeys(12), someItems(12), someItems(12)},
		{"twelve reads", someKeys(12), nil, nil},
		{"twelve writes", nil, someItems(12), someItems(12)},
		{"twelve together", someKeys(12)[5:], someItems(5), nil},
		{"twelve reads, one of them written", someKeys(12), list(putItem(20, 3)), nil},
	} {
		want := impl.Txn{Start: 3, Until: 9, State: impl.TxnFirst, Items: c.items}
		if c.items == nil {
			want = wantNewTxn(3, 9, c.reads, c.writes).Txn
			if len(want.Items) != 12 {
				t.Fatalf("%s: %d items", c.name, len(want.Items))
			}
		}
		checkNew(t, c.name, 3, 9, c.reads, c.writes, impl.TxnResult{Txn: want})
	}
}

func TestNewTxnCodes(t *testing.T) {
	one := []impl.Item{putItem(20, 1)}
	tens := slices.Repeat([]int64{10}, 13)
	for _, c := range []struct {
		name         string
		start, until int64
		reads        []int64
		writes       []impl.Item
		code         int64
	}{
		{"neither", 3, 9, nil, nil, impl.ErrMany},
		{"neither, in empty lists", 3, 9, []int64{}, []impl.Item{}, impl.ErrMany},
		{"neither, and no time", 0, 9, nil, nil, impl.ErrRange},
		{"start 0", 0, 9, nil, one, impl.ErrRange},
		{"start 1", 1, 9, nil, one, impl.OK},
		{"start MaxTs", 100000, 9, nil, one, impl.OK},
		{"start above MaxTs", 100001, 9, nil, one, impl.ErrRange},
		{"the least start", math.MinInt64, 9, nil, one, impl.ErrRange},
		{"the greatest start", math.MaxInt64, 9, nil, one, impl.ErrRange},
		{"until -1", 3, -1, nil, one, impl.ErrRange},
		{"until 0", 3, 0, nil, one, impl.OK},
		{"until below start", 9, 3, nil, one, impl.OK},
		{"until MaxTs", 3, 100000, nil, one, impl.OK},
		{"until above MaxTs", 3, 100001, nil, one, impl.ErrRange},
		{"the least until", 3, math.MinInt64, nil, one, impl.ErrRange},
		{"the greatest until", 3, math.MaxInt64, nil, one, impl.ErrRange},
		{"thirteen reads", 3, 9, someKeys(13), nil, impl.ErrMany},
		{"thirteen reads of one key", 3, 9, tens, nil, impl.ErrMany},
		{"thirteen reads of a key that is written", 3, 9, tens, []impl.Item{putItem(10, 1)}, impl.ErrMany},
		{"thirteen reads, and no time", 0, -1, tens, one, impl.ErrMany},
		{"thirteen reads of nothing", 3, 9, slices.Repeat([]int64{-1}, 13), nil, impl.ErrMany},
		{"far too many reads", 3, 9, make([]int64, 100000), nil, impl.ErrMany},
		{"thirteen writes", 3, 9, nil, someItems(13), impl.ErrMany},
		{"thirteen writes, and no time", 0, 9, nil, someItems(13), impl.ErrRange},
		{"thirteen writes, one of nothing", 3, 9, nil, append([]impl.Item{putItem(26, 1)}, someItems(12)...), impl.ErrMany},
		{"thirteen writes of one key", 3, 9, nil, slices.Repeat(one, 13), impl.ErrMany},
		{"far too many writes", 3, 9, []int64{10}, make([]impl.Item, 100000), impl.ErrMany},
		{"thirteen together", 3, 9, someKeys(13)[5:], someItems(5), impl.ErrMany},
		{"thirteen together, a read of nothing last", 3, 9, append(someKeys(12)[1:12:12], 26), someItems(1), impl.ErrMany},
		{"twelve reads and one write", 3, 9, someKeys(12), []impl.Item{putItem(180, 1)}, impl.ErrMany},
		{"one read and twelve writes", 3, 9, []int64{180}, someItems(12), impl.ErrMany},
		{"a key that is written twice", 3, 9, nil, []impl.Item{putItem(20, 1), putItem(20, 1)}, impl.ErrTaken},
		{"one that is written twice, and read", 3, 9, []int64{20}, []impl.Item{putItem(20, 1), putItem(10, 1), deleteItem(20)}, impl.ErrTaken},
		{"a read of a gap", 3, 9, []int64{10, 26}, one, impl.ErrForm},
		{"a read of a gap twice", 3, 9, []int64{26, 26}, nil, impl.ErrForm},
		{"a read of MaxKey", 3, 9, []int64{199}, one, impl.ErrForm},
		{"a read behind MaxKey", 3, 9, []int64{200}, one, impl.ErrRange},
		{"a read below 0", 3, 9, []int64{-1, 26}, nil, impl.ErrRange},
		{"a read of the least", 3, 9, []int64{math.MinInt64}, one, impl.ErrRange},
		{"a read of the greatest", 3, 9, []int64{math.MaxInt64}, one, impl.ErrRange},
		{"a read of a gap, a write with a fault", 3, 9, []int64{26}, []impl.Item{putItem(20, 10000)}, impl.ErrRange},
		{"a write of a gap", 3, 9, []int64{10}, []impl.Item{putItem(20, 1), putItem(26, 1)}, impl.ErrForm},
		{"a write of a gap that is read", 3, 9, []int64{26}, []impl.Item{putItem(26, 1)}, impl.ErrForm},
		{"a write of kind 0", 3, 9, nil, []impl.Item{{Key: 20}}, impl.ErrRange},
		{"a write of kind 4", 3, 9, nil, []impl.Item{{Key: 20, Kind: impl.WriteBack}}, impl.ErrRange},
		{"a put of -1", 3, 9, nil, []impl.Item{putItem(20, -1)}, impl.ErrRange},
		{"a put of MaxValue", 3, 9, nil, []impl.Item{putItem(20, 9999)}, impl.OK},
		{"a put of one more", 3, 9, nil, []impl.Item{putItem(20, 10000)}, impl.ErrRange},
		{"a delete with a value", 3, 9, nil, []impl.Item{{Key: 20, Kind: impl.WriteDelete, Value: 1}}, impl.ErrForm},
		{"a lock alone with a value, read", 3, 9, []int64{20}, []impl.Item{{Key: 20, Kind: impl.WriteLock, Value: 1}}, impl.ErrForm},
	} {
		want := wantNewTxn(c.start, c.until, c.reads, c.writes)
		if want.Code != c.code {
			t.Fatalf("%s: the chapter tells %d", c.name, want.Code)
		}
		checkNew(t, c.name, c.start, c.until, c.reads, c.writes, want)
	}
}

// P1: NewTxn at any numbers, alone and beside others.
func TestNewTxnAtOddNumbers(t *testing.T) {
	odd := append(oddTimes(), 20, 26, 189, 199, 200, 9999, 10000)
	for _, a := range odd {
		for _, b := range odd {
			one := []impl.Item{putItem(20, 1)}
			checkNew(t, "times", a, b, nil, one, wantNewTxn(a, b, nil, one))
			reads := []int64{a, b}
			checkNew(t, "reads", 3, 9, reads, nil, wantNewTxn(3, 9, reads, nil))
			checkNew(t, "reads beside a write", 3, 9, reads, one, wantNewTxn(3, 9, reads, one))
			for _, writes := range [][]impl.Item{{{Key: a, Kind: b}}, {{Key: 20, Kind: a, Value: b}}, {{Key: a, Kind: 1, Value: b}}, {putItem(a, 0), putItem(b, 0)}} {
				checkNew(t, "writes", 3, 9, nil, writes, wantNewTxn(3, 9, nil, writes))
				checkNew(t, "writes beside reads", 3, 9, reads, writes, wantNewTxn(3, 9, reads, writes))
			}
		}
	}
}

// anyWants are reads and writes of a few keys, so that many are wanted twice; writes have a key once, but where wrong is so.
func anyWants(r *rand.Rand, wrong bool) (reads []int64, writes []impl.Item) {
	keys := []int64{0, 10, 11, 19, 20, 21, 25, 43, 115, 180, 181, 189}
	for range r.Intn(13) {
		reads = append(reads, keys[r.Intn(len(keys))])
	}
	r.Shuffle(len(keys), func(i, j int) { keys[i], keys[j] = keys[j], keys[i] })
	for _, key := range keys[:r.Intn(len(keys)+1)] {
		item := impl.Item{Key: key, Kind: int64(r.Intn(3) + 1)}
		if item.Kind == impl.WritePut {
			item.Value = int64(r.Intn(10000))
		}
		writes = append(writes, item)
	}
	if wrong && len(writes) > 1 {
		writes[r.Intn(len(writes))].Key = keys[r.Intn(len(keys))]
	}
	return reads, writes
}

// P9: what is read or written has just one item, and nothing else has one; writes come first, as they came in, and are what they were.
func TestEachKeyOnce(t *testing.T) {
	r := rand.New(rand.NewSource(81))
	for range 5000 {
		reads, writes := anyWants(r, false)
		got := impl.NewTxn(3, 9, reads, writes)
		if len(reads)+len(writes) == 0 {
			checkNew(t, "nothing", 3, 9, reads, writes, noTxn(impl.ErrMany))
			continue
		}
		if got.Code != impl.OK {
			t.Fatalf("%v, %v: code %d", reads, writes, got.Code)
		}
		items := map[int64]int{}
		for _, item := range got.Txn.Items {
			items[item.Key]++
		}
		wanted := map[int64]bool{}
		for _, key := range append(txnKeys(impl.Txn{Items: writes}), reads...) {
			wanted[key] = true
			if items[key] != 1 || !impl.HasKey(got.Txn, key) {
				t.Errorf("%v, %v: %d items of %d", reads, writes, items[key], key)
			}
		}
		for _, k := range allKeys() {
			if impl.HasKey(got.Txn, k.key) != wanted[k.key] {
				t.Errorf("%v, %v: has %d: %v", reads, writes, k.key, !wanted[k.key])
			}
		}
		if len(items) != len(wanted) || !slices.Equal(got.Txn.Items[:len(writes)], writes) {
			t.Errorf("%v, %v: items %v", reads, writes, got.Txn.Items)
		}
		for _, item := range got.Txn.Items[len(writes):] {
			if item != lockItem(item.Key) {
				t.Errorf("%v, %v: %+v of a read", reads, writes, item)
			}
		}
		checkTxn(t, "each key once", got.Txn, impl.OK)
		checkNew(t, "each key once", 3, 9, reads, writes, wantNewTxn(3, 9, reads, writes))
	}
}

// P9: a key that would be there twice is a code, and no transaction.
func TestNoKeyTwice(t *testing.T) {
	r := rand.New(rand.NewSource(82))
	codes := map[int64]int{}
	for range 5000 {
		reads, writes := anyWants(r, true)
		want := wantNewTxn(3, 9, reads, writes)
		checkNew(t, "written twice", 3, 9, reads, writes, want)
		codes[want.Code]++
	}
	if codes[impl.OK] == 0 || codes[impl.ErrTaken] == 0 {
		t.Errorf("too few were tried: %v", codes)
	}
}

// roomyList has room behind it, and tells whether list and room are as they were.
func roomyList[T comparable](list []T, behind T) ([]T, func() bool) {
	whole := append(slices.Clone(list), slices.Repeat([]T{behind}, 30)...)
	kept := slices.Clone(whole)
	return whole[:len(list)], func() bool { return slices.Equal(whole, kept) }
}

func spoilItems(items []impl.Item) {
	whole := items[:cap(items)]
	for i := range whole {
		whole[i] = impl.Item{Key: -7, Kind: -7, Value: -7}
	}
}

// P1: writing into the items of an answer, also behind their length, changes no argument, no other answer and none that comes.
func TestItemsAreNewMemory(t *testing.T) {
	r := rand.New(rand.NewSource(83))
	for i := range 2000 {
		fromReads, fromWrites := anyWants(r, i%2 == 0)
		switch i % 5 {
		case 3:
			fromReads = nil
		case 4:
			fromWrites = nil
		}
		reads, readsStay := roomyList(fromReads, -7)
		writes, writesStay := roomyList(fromWrites, impl.Item{Key: -7})
		first, second := impl.NewTxn(3, 9, reads, writes), impl.NewTxn(3, 9, reads, writes)
		kept := changedTxn(second.Txn, func(*impl.Txn) {})
		if !equalTxns(first.Txn, kept) || !equalTxns(kept, wantNewTxn(3, 9, fromReads, fromWrites).Txn) {
			t.Errorf("%v, %v: %+v and %+v", reads, writes, first, second)
		}
		spoilItems(first.Txn.Items)
		third := impl.NewTxn(3, 9, reads, writes)
		if !readsStay() || !writesStay() {
			t.Errorf("%v, %v: an argument changed", fromReads, fromWrites)
		}
		if !equalTxns(second.Txn, kept) || !equalTxns(third.Txn, kept) {
			t.Errorf("%v, %v: an answer shares memory", fromReads, fromWrites)
		}
		spoilItems(writes)
		for place := range reads {
			reads[place] = -9
		}
		if !equalTxns(second.Txn, kept) || !equalTxns(third.Txn, kept) {
			t.Errorf("%v, %v: an answer changed with an argument", fromReads, fromWrites)
		}
	}
}

// P1: what a list has room for is not to be seen, and nothing is written there.
func TestTxnsThatComeInStay(t *testing.T) {
	for _, c := range allTxns() {
		items, same := roomyList(c.txn.Items, putItem(20, 1))
		txn := c.txn
		txn.Items = items
		checkTxn(t, c.name, txn, c.code)
		if !same() {
			t.Errorf("%s: the items or the room behind them changed", c.name)
		}
	}
}

// With a code, and beside a false, there is nothing else, whatever the fault is.
func TestTxnsAskTheFaultFirst(t *testing.T) {
	for _, c := range wrongTxns() {
		code := impl.IntResult{Code: c.code}
		if got := impl.PrimaryOf(c.txn); got != code {
			t.Errorf("%s: the primary %+v", c.name, got)
		}
		if got := impl.StepsLeft(c.txn); got != code {
			t.Errorf("%s: the steps left %+v", c.name, got)
		}
		if impl.IsOver(c.txn) {
			t.Errorf("%s: is over", c.name)
		}
		for _, key := range append(txnKeys(c.txn), 20) {
			if impl.HasKey(c.txn, key) {
				t.Errorf("%s: has the key %d", c.name, key)
			}
		}
	}
}

type txnAnswers struct {
	fault          int64
	made           impl.TxnResult
	primary, steps impl.IntResult
	over, has      bool
}

func askTxn(t impl.Txn, n int64) txnAnswers {
	made := impl.NewTxn(t.Start, t.Until, []int64{n, 10, n}, t.Items)
	return txnAnswers{impl.TxnFault(t), made, impl.PrimaryOf(t), impl.StepsLeft(t), impl.IsOver(t), impl.HasKey(t, n)}
}

// P1: whatever was asked ahead of it, and beside it, an answer is the same.
func TestTxnAnswersHangOnArguments(t *testing.T) {
	for state := int64(1); state <= 7; state++ {
		for _, n := range []int{1, 10, 11, 12} {
			txn := txnIn(state, n)
			checkSteady(t, func(key int64) any { return askTxn(txn, key) })
		}
	}
}
