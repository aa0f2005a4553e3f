package tests

import (
	"cmp"
	"fmt"
	"maps"
	"math"
	"slices"
	"testing"

	"loop.example/g00331/impl"
)

func pair(key, value int64) impl.Pair { return impl.Pair{Key: key, Value: value} }

func pairs(list ...impl.Pair) []impl.Pair { return list }

func items(list ...impl.Item) []impl.Item { return list }

func noPairs(code int64) impl.PairsResult { return impl.PairsResult{Code: code} }

func paired(list ...impl.Pair) impl.PairsResult { return impl.PairsResult{Pairs: list} }

func noDones(code int64) impl.DonesResult { return impl.DonesResult{Code: code} }

func equalPairs(a, b impl.PairsResult) bool {
	return a.Code == b.Code && slices.Equal(a.Pairs, b.Pairs)
}

func equalDones(a, b impl.DonesResult) bool {
	return a.Code == b.Code && slices.Equal(a.Dones, b.Dones)
}

// checkPairs: the code, all pairs, and no fault in them; beside a code nothing.
func checkPairs(t *testing.T, name string, got, want impl.PairsResult) {
	t.Helper()
	if !equalPairs(got, want) {
		t.Errorf("%s: %+v, want %+v", name, got, want)
	}
	if fault := wantPairsFault(got.Pairs); fault != impl.OK {
		t.Errorf("%s: %+v has the fault %d", name, got.Pairs, fault)
	}
}

func checkDones(t *testing.T, name string, got, want impl.DonesResult) {
	t.Helper()
	if !equalDones(got, want) {
		t.Errorf("%s: %+v, want %+v", name, got, want)
	}
}

// wantPairsFault and the others up to wantModel say the chapter once more, with its own numbers.
func wantPairsFault(list []impl.Pair) int64 {
	greatest := int64(-1)
	for _, p := range list {
		if code := wantFault(p.Key); code != impl.OK {
			return code
		}
		if !within(p.Value, 0, 9999) {
			return impl.ErrRange
		}
		if p.Key <= greatest {
			return impl.ErrForm
		}
		greatest = p.Key
	}
	return impl.OK
}

func wantAppliedFault(list []impl.Pair, items []impl.Item) int64 {
	if code := wantPairsFault(list); code != impl.OK {
		return code
	}
	if len(items) > 12 {
		return impl.ErrMany
	}
	for _, item := range items {
		if code := wantFault(item.Key); code != impl.OK {
			return code
		}
		if !within(item.Kind, 1, 3) || !within(item.Value, 0, 9999) {
			return impl.ErrRange
		}
	}
	return impl.OK
}

func wantApply(list []impl.Pair, items []impl.Item) impl.PairsResult {
	if code := wantAppliedFault(list, items); code != impl.OK {
		return noPairs(code)
	}
	values := map[int64]int64{}
	for _, p := range list {
		values[p.Key] = p.Value
	}
	for _, item := range items {
		switch item.Kind {
		case 1:
			values[item.Key] = item.Value
		case 2:
			delete(values, item.Key)
		}
	}
	var told []impl.Pair
	for _, key := range slices.Sorted(maps.Keys(values)) {
		told = append(told, pair(key, values[key]))
	}
	return paired(told...)
}

func wantValueIn(list []impl.Pair, key int64) impl.GetResult {
	for _, code := range []int64{wantPairsFault(list), wantFault(key)} {
		if code != impl.OK {
			return impl.GetResult{Code: code}
		}
	}
	for _, p := range list {
		if p.Key == key {
			return impl.GetResult{Has: true, Value: p.Value}
		}
	}
	return impl.GetResult{}
}

func wantCommitted(w impl.World) impl.DonesResult {
	if code := wantWorldFault(w); code != impl.OK {
		return noDones(code)
	}
	all := wantUnionOf(w.Groups)
	var dones []impl.Done
	for place, txn := range w.Txns {
		if key := txn.Items[0].Key; wantStatus(all, key, txn.Start) == 2 {
			write := writeBy(all, key, func(w impl.Write) bool { return w.Start == txn.Start })
			dones = append(dones, impl.Done{Place: int64(place), Commit: write.Commit})
		}
	}
	slices.SortStableFunc(dones, func(a, b impl.Done) int { return cmp.Compare(a.Commit, b.Commit) })
	return impl.DonesResult{Dones: dones}
}

func wantModel(w impl.World, ts int64) impl.PairsResult {
	if code := wantWorldFault(w); code != impl.OK {
		return noPairs(code)
	}
	if !within(ts, 0, 100000) {
		return noPairs(impl.ErrRange)
	}
	var model impl.PairsResult
	for _, done := range wantCommitted(w).Dones {
		if done.Commit <= ts {
			model = wantApply(model.Pairs, w.Txns[done.Place].Items)
		}
	}
	return model
}

// eachPair has a pair of every key there is.
func eachPair() (list []impl.Pair) {
	for i, k := range allKeys() {
		list = append(list, pair(k.key, int64(i)))
	}
	return list
}

type pairsCase struct {
	name string
	list []impl.Pair
	code int64
}

func rightPairs() []pairsCase {
	return []pairsCase{
		{"none", nil, impl.OK}, {"an empty list", pairs(), impl.OK}, {"the least key", pairs(pair(0, 1)), impl.OK}, {"the greatest key", pairs(pair(189, 1)), impl.OK},
		{"Value 0", pairs(pair(10, 0)), impl.OK}, {"MaxValue", pairs(pair(10, 9999)), impl.OK}, {"two", pairs(pair(10, 3), pair(11, 2)), impl.OK},
		{"values that are the same", pairs(pair(10, 3), pair(20, 3), pair(180, 3)), impl.OK}, {"one of each kind", pairs(pair(0, 4), pair(10, 1), pair(43, 0), pair(180, 9999)), impl.OK},
		{"both ends", pairs(pair(0, 0), pair(189, 9999)), impl.OK}, {"each key", eachPair(), impl.OK},
	}
}

func wrongPairs() []pairsCase {
	list := []pairsCase{
		{"a key of nothing", pairs(pair(26, 1)), impl.ErrForm}, {"a key below", pairs(pair(-1, 1)), impl.ErrRange}, {"a key above", pairs(pair(200, 1)), impl.ErrRange},
		{"the last number, of nothing", pairs(pair(199, 1)), impl.ErrForm}, {"the least key of all", pairs(pair(math.MinInt64, 1)), impl.ErrRange}, {"the greatest of all", pairs(pair(math.MaxInt64, 1)), impl.ErrRange},
		{"Value -1", pairs(pair(10, -1)), impl.ErrRange}, {"one more than MaxValue", pairs(pair(10, 10000)), impl.ErrRange},
		{"the least Value of all", pairs(pair(10, math.MinInt64)), impl.ErrRange}, {"the greatest of all", pairs(pair(10, math.MaxInt64)), impl.ErrRange},
		{"equal keys", pairs(pair(10, 1), pair(10, 2)), impl.ErrForm}, {"the same twice", pairs(pair(10, 1), pair(10, 1)), impl.ErrForm}, {"keys that fall", pairs(pair(20, 1), pair(10, 2)), impl.ErrForm},
		{"the least key twice", pairs(pair(0, 1), pair(0, 2)), impl.ErrForm}, {"equal keys that do not stand side by side", pairs(pair(10, 1), pair(20, 2), pair(10, 3)), impl.ErrForm},
		{"the last two fall", pairs(pair(10, 1), pair(20, 2), pair(189, 3), pair(188, 4)), impl.ErrForm}, {"keys that fall by much", pairs(pair(189, 1), pair(0, 2)), impl.ErrForm},
		{"far too many", slices.Repeat(eachPair(), 50), impl.ErrForm}, {"all are nothing", make([]impl.Pair, 300), impl.ErrForm},
	}
	for _, c := range list[:10] {
		wrong := c.list[0]
		list = append(list, pairsCase{c.name + ", behind others", pairs(pair(0, 1), pair(10, 2), wrong), wantPairsFault(pairs(pair(0, 1), pair(10, 2), wrong))},
			pairsCase{c.name + ", ahead of others", pairs(wrong, pair(20, 2), pair(43, 3)), c.code}, pairsCase{c.name + ", between", pairs(pair(0, 1), wrong, pair(180, 3)), c.code})
	}
	return list
}

func TestPairsFault(t *testing.T) {
	for _, c := range append(rightPairs(), wrongPairs()...) {
		kept := slices.Clone(c.list)
		if got, want := impl.PairsFault(c.list), wantPairsFault(c.list); got != c.code || want != c.code {
			t.Errorf("%s: PairsFault is %d, and %d by the tests, want %d", c.name, got, want, c.code)
		}
		if !slices.Equal(kept, c.list) {
			t.Errorf("%s: PairsFault changed the list", c.name)
		}
	}
}

// Which code comes first, in one pair and in two.
func TestPairsFaultFirstCode(t *testing.T) {
	for _, c := range []pairsCase{
		{"key and value", pairs(pair(26, -1)), impl.ErrForm}, {"key and value, behind another", pairs(pair(10, 1), pair(26, 10000)), impl.ErrForm},
		{"key and order", pairs(pair(43, 1), pair(26, 1)), impl.ErrForm}, {"a key below, which falls", pairs(pair(43, 1), pair(-1, 1)), impl.ErrRange},
		{"value and order", pairs(pair(10, 1), pair(10, -1)), impl.ErrRange}, {"value and falling order", pairs(pair(20, 1), pair(10, 10000)), impl.ErrRange},
		{"all three", pairs(pair(43, 1), pair(26, -1)), impl.ErrForm}, {"all three, a key below", pairs(pair(0, 1), pair(-1, -1)), impl.ErrRange},
		{"a value, then a key", pairs(pair(10, -1), pair(26, 1)), impl.ErrRange}, {"a key, then a value", pairs(pair(26, 1), pair(43, -1)), impl.ErrForm},
		{"a value, then order", pairs(pair(10, -1), pair(10, 1)), impl.ErrRange}, {"order, then a value", pairs(pair(10, 1), pair(10, 1), pair(20, -1)), impl.ErrForm},
		{"order, then a key beyond", pairs(pair(10, 1), pair(0, 1), pair(200, 1)), impl.ErrForm}, {"a key beyond, then order", pairs(pair(200, 1), pair(10, 1), pair(0, 1)), impl.ErrRange},
		{"a key of nothing, then one beyond", pairs(pair(26, 1), pair(200, 1)), impl.ErrForm}, {"a key beyond, then one of nothing", pairs(pair(200, 1), pair(26, 1)), impl.ErrRange},
	} {
		if got, want := impl.PairsFault(c.list), wantPairsFault(c.list); got != c.code || want != c.code {
			t.Errorf("%s: %d, and %d by the tests, want %d", c.name, got, want, c.code)
		}
	}
}

// checkAllOfPairs asks all that take pairs, with n in place of each number; the list stays as it was.
func checkAllOfPairs(t *testing.T, name string, list []impl.Pair, n int64) {
	t.Helper()
	kept := slices.Clone(list)
	if got, want := impl.PairsFault(list), wantPairsFault(list); got != want {
		t.Errorf("%s: %+v has the fault %d, want %d", name, list, got, want)
	}
	if got, want := impl.ValueIn(list, n), wantValueIn(list, n); got != want {
		t.Errorf("%s: the value of %d in %+v is %+v, want %+v", name, n, list, got, want)
	}
	for _, item := range items(putItem(n, 5), putItem(20, n), impl.Item{Key: 20, Kind: n}, impl.Item{Key: n, Kind: n, Value: n}, deleteItem(n), lockItem(n), impl.Item{Key: 20, Kind: 2, Value: n}, impl.Item{Key: 20, Kind: 3, Value: n}) {
		for _, row := range [][]impl.Item{{item}, {putItem(43, 1), item}, {item, putItem(43, 1)}} {
			checkPairs(t, fmt.Sprintf("%s, and %+v", name, row), impl.ApplyItems(list, row), wantApply(list, row))
		}
	}
	if !slices.Equal(kept, list) {
		t.Errorf("%s at %d: %+v became %+v", name, n, kept, list)
	}
}

// P1: each function at all lists, right ones and wrong ones, and at any number.
func TestPairsAtOddNumbers(t *testing.T) {
	for _, c := range append(rightPairs(), wrongPairs()...) {
		for _, n := range append([]int64{9998, 9999, 10000, 10001, 99999, 100000}, oddNumbers()...) {
			checkAllOfPairs(t, c.name, c.list, n)
		}
	}
}

// P1: each number of a right list, one at a time, may be anything, and so of right items.
func TestPairsOfOddNumbers(t *testing.T) {
	numbers := append([]int64{9998, 9999, 10000, 10001}, oddNumbers()...)
	from := pairs(pair(0, 4), pair(20, 3), pair(43, 2), pair(180, 1))
	spots := func(list []impl.Pair, row []impl.Item) (at []*int64) {
		for i := range list {
			at = append(at, &list[i].Key, &list[i].Value)
		}
		for i := range row {
			at = append(at, &row[i].Key, &row[i].Kind, &row[i].Value)
		}
		return at
	}
	for _, row := range [][]impl.Item{nil, someItems(4), {deleteItem(0), putItem(43, 5), lockItem(20), putItem(0, 6)}} {
		for i := range spots(from, row) {
			for _, n := range numbers {
				list, applied := slices.Clone(from), slices.Clone(row)
				*spots(list, applied)[i] = n
				checkPairs(t, "an odd number", impl.ApplyItems(list, applied), wantApply(list, applied))
				for _, key := range []int64{0, 20, 43, 26, n} {
					if got, want := impl.ValueIn(list, key), wantValueIn(list, key); got != want {
						t.Errorf("the value of %d in %+v is %+v, want %+v", key, list, got, want)
					}
				}
			}
		}
	}
}

func TestApplyItems(t *testing.T) {
	three := pairs(pair(10, 1), pair(43, 2), pair(180, 3))
	for _, c := range []struct {
		name  string
		list  []impl.Pair
		items []impl.Item
		want  []impl.Pair
	}{
		{"nothing to nothing", nil, nil, nil}, {"nothing", three, nil, three}, {"nothing, in an empty list", three, items(), three},
		{"a put to nothing", nil, items(putItem(10, 7)), pairs(pair(10, 7))}, {"a delete of nothing", nil, items(deleteItem(10)), nil}, {"a lock alone of nothing", nil, items(lockItem(10)), nil},
		{"a put ahead of all", three, items(putItem(0, 7)), pairs(pair(0, 7), pair(10, 1), pair(43, 2), pair(180, 3))},
		{"a put between", three, items(putItem(20, 7)), pairs(pair(10, 1), pair(20, 7), pair(43, 2), pair(180, 3))},
		{"a put behind all", three, items(putItem(189, 7)), pairs(pair(10, 1), pair(43, 2), pair(180, 3), pair(189, 7))},
		{"a put of the first", three, items(putItem(10, 7)), pairs(pair(10, 7), pair(43, 2), pair(180, 3))},
		{"a put of one between", three, items(putItem(43, 7)), pairs(pair(10, 1), pair(43, 7), pair(180, 3))},
		{"a put of the last", three, items(putItem(180, 7)), pairs(pair(10, 1), pair(43, 2), pair(180, 7))},
		{"a put of what is there", three, items(putItem(43, 2)), three}, {"a put of 0", three, items(putItem(43, 0)), pairs(pair(10, 1), pair(43, 0), pair(180, 3))},
		{"a put of MaxValue", three, items(putItem(43, 9999)), pairs(pair(10, 1), pair(43, 9999), pair(180, 3))},
		{"a delete of the first", three, items(deleteItem(10)), pairs(pair(43, 2), pair(180, 3))}, {"a delete of one between", three, items(deleteItem(43)), pairs(pair(10, 1), pair(180, 3))},
		{"a delete of the last", three, items(deleteItem(180)), pairs(pair(10, 1), pair(43, 2))}, {"a delete of one that is not there", three, items(deleteItem(20)), three},
		{"a delete of the only one", pairs(pair(43, 2)), items(deleteItem(43)), nil}, {"a delete of all", three, items(deleteItem(180), deleteItem(10), deleteItem(43)), nil},
		{"a lock alone of one that is there", three, items(lockItem(43)), three}, {"a lock alone of one that is not", three, items(lockItem(20)), three},
		{"two puts of one key", three, items(putItem(20, 7), putItem(20, 8)), pairs(pair(10, 1), pair(20, 8), pair(43, 2), pair(180, 3))},
		{"a put, then a delete", three, items(putItem(20, 7), deleteItem(20)), three}, {"a put of one that is there, then a delete", three, items(putItem(43, 7), deleteItem(43)), pairs(pair(10, 1), pair(180, 3))},
		{"a delete, then a put", three, items(deleteItem(43), putItem(43, 7)), pairs(pair(10, 1), pair(43, 7), pair(180, 3))}, {"two deletes", three, items(deleteItem(43), deleteItem(43)), pairs(pair(10, 1), pair(180, 3))},
		{"a put, then a lock alone", three, items(putItem(20, 7), lockItem(20)), pairs(pair(10, 1), pair(20, 7), pair(43, 2), pair(180, 3))}, {"a lock alone, then a delete", three, items(lockItem(43), deleteItem(43)), pairs(pair(10, 1), pair(180, 3))},
		{"a put, a delete and a put of one key", nil, items(putItem(20, 7), deleteItem(20), putItem(20, 9)), pairs(pair(20, 9))},
		{"keys that fall", nil, items(putItem(180, 1), putItem(43, 2), putItem(0, 3)), pairs(pair(0, 3), pair(43, 2), pair(180, 1))},
		{"a delete with a value", three, items(impl.Item{Key: 43, Kind: 2, Value: 5}), pairs(pair(10, 1), pair(180, 3))}, {"a lock alone with a value", three, items(impl.Item{Key: 43, Kind: 3, Value: 5}), three},
		{"all items that may be", nil, someItems(12), pairs(pair(20, 1), pair(23, 4), pair(30, 7), pair(33, 10))}, {"all of one key", nil, slices.Repeat(items(putItem(43, 5)), 12), pairs(pair(43, 5))},
	} {
		kept, keptItems := slices.Clone(c.list), slices.Clone(c.items)
		got := impl.ApplyItems(c.list, c.items)
		checkPairs(t, c.name, got, paired(c.want...))
		checkPairs(t, c.name+", by the tests", wantApply(c.list, c.items), paired(c.want...))
		if !slices.Equal(kept, c.list) || !slices.Equal(keptItems, c.items) {
			t.Errorf("%s: an argument changed", c.name)
		}
	}
}

// The codes in their order: of the pairs, too many, and those of an item ahead of the next one's.
func TestApplyItemsCodes(t *testing.T) {
	one, wrong := pairs(pair(10, 1)), pairs(pair(26, 1))
	bad := func(key, kind, value int64) impl.Item { return impl.Item{Key: key, Kind: kind, Value: value} }
	for _, c := range []struct {
		name  string
		list  []impl.Pair
		items []impl.Item
		code  int64
	}{
		{"the pairs", wrong, nil, impl.ErrForm}, {"the pairs, and too many", wrong, someItems(13), impl.ErrForm}, {"the pairs, and an item", wrong, items(bad(200, 0, -1)), impl.ErrForm},
		{"a value of the pairs, and an item's key", pairs(pair(10, -1)), items(bad(26, 1, 1)), impl.ErrRange}, {"the order of the pairs, and an item", pairs(pair(10, 1), pair(10, 2)), items(bad(20, 0, 0)), impl.ErrForm},
		{"twelve", one, someItems(12), impl.OK}, {"thirteen", one, someItems(13), impl.ErrMany}, {"thirteen of one key", one, slices.Repeat(items(lockItem(10)), 13), impl.ErrMany},
		{"thirteen, and each is wrong", one, make([]impl.Item, 13), impl.ErrMany}, {"far too many", one, make([]impl.Item, 5000), impl.ErrMany}, {"thirteen, the first one beyond", one, slices.Repeat(items(bad(-1, 0, -1)), 13), impl.ErrMany},
		{"a key of nothing", one, items(bad(26, 1, 1)), impl.ErrForm}, {"a key below", one, items(bad(-1, 1, 1)), impl.ErrRange}, {"a key above", one, items(bad(200, 1, 1)), impl.ErrRange},
		{"a delete of nothing that there is", one, items(bad(26, 2, 0)), impl.ErrForm}, {"a lock alone of it", one, items(bad(26, 3, 0)), impl.ErrForm},
		{"Kind 0", one, items(bad(20, 0, 0)), impl.ErrRange}, {"Kind 1", one, items(bad(20, 1, 0)), impl.OK}, {"Kind 3", one, items(bad(20, 3, 0)), impl.OK}, {"Kind 4", one, items(bad(20, 4, 0)), impl.ErrRange},
		{"the least Kind", one, items(bad(20, math.MinInt64, 0)), impl.ErrRange}, {"the greatest Kind", one, items(bad(20, math.MaxInt64, 0)), impl.ErrRange},
		{"Value -1", one, items(bad(20, 1, -1)), impl.ErrRange}, {"Value 0", one, items(bad(20, 1, 0)), impl.OK}, {"MaxValue", one, items(bad(20, 1, 9999)), impl.OK}, {"one more", one, items(bad(20, 1, 10000)), impl.ErrRange},
		{"a delete of Value -1", one, items(bad(20, 2, -1)), impl.ErrRange}, {"a delete of one more", one, items(bad(20, 2, 10000)), impl.ErrRange}, {"a lock alone of Value -1", one, items(bad(20, 3, -1)), impl.ErrRange},
		{"key and kind", one, items(bad(26, 0, 0)), impl.ErrForm}, {"key and value", one, items(bad(26, 1, -1)), impl.ErrForm}, {"all three", one, items(bad(26, 4, 10000)), impl.ErrForm},
		{"a kind, then a key", one, items(bad(20, 0, 0), bad(26, 1, 1)), impl.ErrRange}, {"a key, then a kind", one, items(bad(26, 1, 1), bad(20, 0, 0)), impl.ErrForm},
		{"a value, then a key", one, items(bad(20, 1, -1), bad(26, 1, 1)), impl.ErrRange}, {"a right one, then a key", one, items(bad(20, 1, 1), bad(26, 1, 1)), impl.ErrForm},
		{"the last of twelve", one, append(someItems(11), bad(26, 1, 1)), impl.ErrForm}, {"the last of twelve, its value", one, append(someItems(11), bad(20, 1, -1)), impl.ErrRange},
	} {
		got, want := impl.ApplyItems(c.list, c.items), wantApply(c.list, c.items)
		checkPairs(t, c.name, got, want)
		if got.Code != c.code {
			t.Errorf("%s: code %d, want %d", c.name, got.Code, c.code)
		}
	}
}

func TestValueIn(t *testing.T) {
	list := pairs(pair(0, 4), pair(20, 0), pair(43, 9999), pair(180, 2))
	for _, c := range []struct {
		name string
		list []impl.Pair
		key  int64
		want impl.GetResult
	}{
		{"the first one", list, 0, impl.GetResult{Has: true, Value: 4}}, {"the last one", list, 180, impl.GetResult{Has: true, Value: 2}}, {"between", list, 43, impl.GetResult{Has: true, Value: 9999}},
		{"Value 0", list, 20, impl.GetResult{Has: true}}, {"not there", list, 10, impl.GetResult{}}, {"behind all", list, 189, impl.GetResult{}}, {"in nothing", nil, 0, impl.GetResult{}},
		{"ahead of all", pairs(pair(10, 1)), 0, impl.GetResult{}}, {"a key of nothing", list, 26, impl.GetResult{Code: impl.ErrForm}}, {"a key below", list, -1, impl.GetResult{Code: impl.ErrRange}},
		{"a key above", list, 200, impl.GetResult{Code: impl.ErrRange}}, {"the least", list, math.MinInt64, impl.GetResult{Code: impl.ErrRange}}, {"the greatest", nil, math.MaxInt64, impl.GetResult{Code: impl.ErrRange}},
		{"pairs ahead of the key", pairs(pair(26, 1)), 200, impl.GetResult{Code: impl.ErrForm}}, {"a value ahead of the key", pairs(pair(10, -1)), 26, impl.GetResult{Code: impl.ErrRange}},
		{"a fault behind the key", pairs(pair(10, 1), pair(10, 1)), 10, impl.GetResult{Code: impl.ErrForm}}, {"a fault far behind it", append(eachPair(), pair(0, 0)), 0, impl.GetResult{Code: impl.ErrForm}},
	} {
		if got := impl.ValueIn(c.list, c.key); got != c.want || wantValueIn(c.list, c.key) != c.want {
			t.Errorf("%s: %+v, want %+v", c.name, got, c.want)
		}
	}
	for _, k := range allKeys() {
		without := slices.DeleteFunc(eachPair(), func(p impl.Pair) bool { return p.Key == k.key })
		if impl.ValueIn(without, k.key) != (impl.GetResult{}) || !impl.ValueIn(eachPair(), k.key).Has {
			t.Errorf("%d is there, or not", k.key)
		}
	}
}

// It asks nothing: lists with a fault are the same, too, where all is.
func TestSamePairs(t *testing.T) {
	list := pairs(pair(10, 1), pair(43, 2))
	for _, c := range []struct {
		name string
		a, b []impl.Pair
		same bool
	}{
		{"nothing", nil, nil, true}, {"nothing, and an empty list", nil, pairs(), true}, {"empty lists", pairs(), pairs(), true}, {"the same", list, slices.Clone(list), true}, {"itself", list, list, true},
		{"a key", list, pairs(pair(10, 1), pair(44, 2)), false}, {"the first key", list, pairs(pair(0, 1), pair(43, 2)), false}, {"a value", list, pairs(pair(10, 1), pair(43, 3)), false},
		{"the first value", list, pairs(pair(10, 0), pair(43, 2)), false}, {"the last is not there", list, list[:1], false}, {"the first is not there", list, list[1:], false},
		{"one more", list, append(slices.Clone(list), pair(180, 0)), false}, {"one of 0 more", list, append(slices.Clone(list), pair(0, 0)), false}, {"nothing and one", nil, pairs(pair(0, 0)), false},
		{"the other order", list, pairs(pair(43, 2), pair(10, 1)), false}, {"key and value changed round", pairs(pair(10, 20)), pairs(pair(20, 10)), false},
		{"wrong ones that are the same", pairs(pair(26, -1), pair(26, -1)), pairs(pair(26, -1), pair(26, -1)), true}, {"wrong ones that differ", pairs(pair(26, -1)), pairs(pair(26, -2)), false},
		{"ends", pairs(pair(math.MinInt64, math.MaxInt64)), pairs(pair(math.MinInt64, math.MaxInt64)), true}, {"ends that differ", pairs(pair(math.MinInt64, 0)), pairs(pair(math.MaxInt64, 0)), false},
		{"all keys", eachPair(), eachPair(), true}, {"all keys but the last", eachPair(), eachPair()[:80], false},
	} {
		first, second := slices.Clone(c.a), slices.Clone(c.b)
		if impl.SamePairs(c.a, c.b) != c.same || impl.SamePairs(c.b, c.a) != c.same {
			t.Errorf("%s: want %v", c.name, c.same)
		}
		if !slices.Equal(first, c.a) || !slices.Equal(second, c.b) {
			t.Errorf("%s: an argument changed", c.name)
		}
	}
	for i := range eachPair() {
		for _, change := range []impl.Pair{pair(1, 0), pair(0, 1), pair(-1, 0), pair(0, -1)} {
			other := eachPair()
			other[i].Key, other[i].Value = other[i].Key+change.Key, other[i].Value+change.Value
			if impl.SamePairs(other, eachPair()) {
				t.Errorf("%d differs by %+v", i, change)
			}
		}
	}
}
