package tests

import (
	"math"
	"reflect"
	"strconv"
	"strings"
	"sync"
	"testing"

	"loop.example/g00331/impl"
)

// aKey is one key as the document tells it, written down without the program's help.
type aKey struct {
	key, kind, a, b int64
	text            string
}

// allKeys lists every key there is, rising.
func allKeys() []aKey {
	list := []aKey{{0, impl.KindNext, 0, 0, "n"}}
	for a := int64(0); a <= 9; a++ {
		list = append(list, aKey{10 + a, impl.KindInode, a, 0, "i" + strconv.FormatInt(a, 10)})
	}
	for a := int64(0); a <= 9; a++ {
		for b := int64(0); b <= 5; b++ {
			text := "e" + strconv.FormatInt(a, 10) + "." + strconv.FormatInt(b, 10)
			list = append(list, aKey{20 + 10*a + b, impl.KindEntry, a, b, text})
		}
	}
	for a := int64(0); a <= 9; a++ {
		list = append(list, aKey{180 + a, impl.KindBytes, a, 0, "f" + strconv.FormatInt(a, 10)})
	}
	return list
}

func keysByNumber() map[int64]aKey {
	all := map[int64]aKey{}
	for _, k := range allKeys() {
		all[k.key] = k
	}
	return all
}

// oddNumbers lists numbers within, at, and far beyond every bound of the chapter.
func oddNumbers() []int64 {
	list := []int64{math.MinInt64, math.MinInt64 + 1, math.MinInt32, -200, math.MaxInt32, math.MaxInt32 + 1,
		1 << 53, 1<<53 + 1, math.MaxInt64 - 200, math.MaxInt64 - 180, math.MaxInt64 - 1, math.MaxInt64}
	for n := int64(-12); n <= 212; n++ {
		list = append(list, n)
	}
	return list
}

// everyKey is made once, as the faults of all that has keys are asked of it.
var everyKey = keysByNumber()

func wantFault(key int64) int64 {
	if key < 0 || key > 199 {
		return impl.ErrRange
	}
	if _, ok := everyKey[key]; !ok {
		return impl.ErrForm
	}
	return impl.OK
}

func TestKeyConstants(t *testing.T) {
	got := []int64{impl.OK, impl.ErrForm, impl.ErrMany, impl.ErrRange, impl.ErrNone, impl.ErrText, impl.ErrTaken,
		impl.ErrLocked, impl.ErrOld, impl.ErrDir, impl.ErrState}
	for i, code := range got {
		if code != int64(i) {
			t.Errorf("code %d is %d", i, code)
		}
	}
	if impl.KindNext != 0 || impl.KindInode != 1 || impl.KindEntry != 2 || impl.KindBytes != 3 {
		t.Error("kinds")
	}
	if impl.MaxInode != 9 || impl.MaxName != 5 || impl.MaxKey != 199 {
		t.Error("bounds")
	}
}

func TestKeyFault(t *testing.T) {
	for _, c := range []struct{ key, code int64 }{
		{0, 0}, {1, impl.ErrForm}, {9, impl.ErrForm}, {10, 0}, {19, 0}, {20, 0}, {25, 0}, {26, impl.ErrForm},
		{29, impl.ErrForm}, {30, 0}, {110, 0}, {115, 0}, {116, impl.ErrForm}, {119, impl.ErrForm},
		{120, impl.ErrForm}, {125, impl.ErrForm}, {179, impl.ErrForm}, {180, 0}, {189, 0}, {190, impl.ErrForm},
		{199, impl.ErrForm}, {200, impl.ErrRange}, {-1, impl.ErrRange},
		{math.MinInt64, impl.ErrRange}, {math.MaxInt64, impl.ErrRange},
	} {
		if got := impl.KeyFault(c.key); got != c.code {
			t.Errorf("KeyFault(%d) = %d, want %d", c.key, got, c.code)
		}
	}
	for _, key := range oddNumbers() {
		if got := impl.KeyFault(key); got != wantFault(key) {
			t.Errorf("KeyFault(%d) = %d, want %d", key, got, wantFault(key))
		}
	}
}

func wantKeyOf(kind, a, b int64) impl.IntResult {
	if kind < 0 || kind > 3 {
		return impl.IntResult{Code: impl.ErrForm}
	}
	for _, k := range allKeys() {
		if k.kind == kind && k.a == a && k.b == b {
			return impl.IntResult{Value: k.key}
		}
	}
	return impl.IntResult{Code: impl.ErrRange}
}

func TestKeyOf(t *testing.T) {
	for _, c := range []struct {
		kind, a, b int64
		want       impl.IntResult
	}{
		{impl.KindNext, 0, 0, impl.IntResult{Value: 0}},
		{impl.KindNext, 1, 0, impl.IntResult{Code: impl.ErrRange}},
		{impl.KindNext, 0, 1, impl.IntResult{Code: impl.ErrRange}},
		{impl.KindInode, 0, 0, impl.IntResult{Value: 10}},
		{impl.KindInode, 9, 0, impl.IntResult{Value: 19}},
		{impl.KindInode, 10, 0, impl.IntResult{Code: impl.ErrRange}},
		{impl.KindInode, 3, 1, impl.IntResult{Code: impl.ErrRange}},
		{impl.KindEntry, 0, 0, impl.IntResult{Value: 20}},
		{impl.KindEntry, 2, 3, impl.IntResult{Value: 43}},
		{impl.KindEntry, 9, 5, impl.IntResult{Value: 115}},
		{impl.KindEntry, 9, 6, impl.IntResult{Code: impl.ErrRange}},
		{impl.KindEntry, 10, 5, impl.IntResult{Code: impl.ErrRange}},
		{impl.KindEntry, 1, -1, impl.IntResult{Code: impl.ErrRange}},
		{impl.KindEntry, -1, 1, impl.IntResult{Code: impl.ErrRange}},
		{impl.KindBytes, 0, 0, impl.IntResult{Value: 180}},
		{impl.KindBytes, 9, 0, impl.IntResult{Value: 189}},
		{impl.KindBytes, 10, 0, impl.IntResult{Code: impl.ErrRange}},
		{impl.KindBytes, 1, 2, impl.IntResult{Code: impl.ErrRange}},
		{4, 0, 0, impl.IntResult{Code: impl.ErrForm}},
		{-1, 0, 0, impl.IntResult{Code: impl.ErrForm}},
		{4, 99, 99, impl.IntResult{Code: impl.ErrForm}},
		{math.MinInt64, math.MinInt64, math.MinInt64, impl.IntResult{Code: impl.ErrForm}},
		{math.MaxInt64, math.MaxInt64, math.MaxInt64, impl.IntResult{Code: impl.ErrForm}},
		{impl.KindEntry, math.MaxInt64, math.MaxInt64, impl.IntResult{Code: impl.ErrRange}},
		{impl.KindEntry, math.MinInt64, 0, impl.IntResult{Code: impl.ErrRange}},
	} {
		if got := impl.KeyOf(c.kind, c.a, c.b); got != c.want {
			t.Errorf("KeyOf(%d, %d, %d) = %+v, want %+v", c.kind, c.a, c.b, got, c.want)
		}
	}
}

func TestKeyOfEverywhere(t *testing.T) {
	some := []int64{math.MinInt64, -10, math.MaxInt64 - 9, math.MaxInt64}
	for n := int64(-2); n <= 12; n++ {
		some = append(some, n)
	}
	for _, kind := range some {
		for _, a := range some {
			for _, b := range some {
				if got, want := impl.KeyOf(kind, a, b), wantKeyOf(kind, a, b); got != want {
					t.Errorf("KeyOf(%d, %d, %d) = %+v, want %+v", kind, a, b, got, want)
				}
			}
		}
	}
}

func TestPartsOfAndKeyText(t *testing.T) {
	all := keysByNumber()
	for _, key := range oddNumbers() {
		code := wantFault(key)
		k := all[key]
		if got, want := impl.PartsOf(key), (impl.KeyParts{Code: code, Kind: k.kind, A: k.a, B: k.b}); got != want {
			t.Errorf("PartsOf(%d) = %+v, want %+v", key, got, want)
		}
		if got, want := impl.KeyText(key), (impl.TextResult{Code: code, Text: k.text}); got != want {
			t.Errorf("KeyText(%d) = %+v, want %+v", key, got, want)
		}
	}
}

// P2.
func TestKeyReadBack(t *testing.T) {
	for _, k := range allKeys() {
		p := impl.PartsOf(k.key)
		if got := impl.KeyOf(p.Kind, p.A, p.B); p.Code != impl.OK || got != (impl.IntResult{Value: k.key}) {
			t.Errorf("key %d: parts %+v, read back %+v", k.key, p, got)
		}
		text := impl.KeyText(k.key)
		if got := impl.ParseKey(text.Text); text.Code != impl.OK || got != (impl.IntResult{Value: k.key}) {
			t.Errorf("key %d: text %+v, read back %+v", k.key, text, got)
		}
	}
}

// The order of the kinds is the order of the keys: next, inodes, entries, bytes.
func TestKeysRiseByParts(t *testing.T) {
	last := impl.KeyParts{Kind: -1}
	for _, key := range impl.KeysIn(0, 200).List {
		p := impl.PartsOf(key)
		rises := p.Kind > last.Kind || p.Kind == last.Kind && (p.A > last.A || p.A == last.A && p.B > last.B)
		if !rises {
			t.Errorf("%+v stands behind %+v", p, last)
		}
		last = p
	}
}

func wantParse(text string) impl.IntResult {
	for _, k := range allKeys() {
		if k.text == text {
			return impl.IntResult{Value: k.key}
		}
	}
	return impl.IntResult{Code: impl.ErrText}
}

func checkParse(t *testing.T, text string, want impl.IntResult) {
	t.Helper()
	if got := impl.ParseKey(text); got != want {
		t.Errorf("ParseKey(%q) = %+v, want %+v", text, got, want)
	}
}

func TestParseKeyWrongTexts(t *testing.T) {
	for _, text := range []string{
		"", " ", "n ", " n", "nn", "n0", "N", "0", "43", "-1", "i", "i ", "i 1", " i1", "i1 ", "i01", "i00", "i10",
		"i-1", "i+1", "I1", "ia", "i.", "i1.0", "i1.", "e", "e.", "e1", "e1.", "e.1", "e1.6", "e1.9", "e10.1", "e01.1",
		"e1.01", "e1.00", "e00.0", "e1,1", "e1 .1", "e1. 1", "e 1.1", " e1.1", "e1.1 ", "e1..1", "e1.1.1", "e-1.1",
		"e1.-1", "e+1.1", "E1.1", "f", "f01", "f10", "f-1", "F1", "f1.1", "f1 ", "g1", "next", "i1\n", "\ti1", "n\x00",
		"i\x00", "i\x01", "i/", "i:", "e1/1", "e/.1", "e:.1", "e1./", "e1.:", "\x00", "\xff", "i\xff", "e\xff.\xff",
		"\xe2\x82", "\xc0\x80", "i\xd9\xa1", "\uff49\uff11", "i\u0661", "e1\u30021", "e1.\u0661",
		"i99999999999999999999999", "e1.99999999999999999999999", strings.Repeat("i", 100000), "e1." + strings.Repeat("0", 100000),
	} {
		checkParse(t, text, impl.IntResult{Code: impl.ErrText})
	}
}

func TestParseKeyShortTexts(t *testing.T) {
	for c := 0; c < 256; c++ {
		one := string([]byte{byte(c)})
		checkParse(t, one, wantParse(one))
		for d := 0; d < 256; d++ {
			two := string([]byte{byte(c), byte(d)})
			want := impl.IntResult{Code: impl.ErrText}
			if (c == 'i' || c == 'f') && d >= '0' && d <= '9' {
				want = wantParse(two)
			}
			checkParse(t, two, want)
		}
	}
}

// One byte of a key's text changed, added or gone: it is another key's text, or none.
func TestParseKeyNearTexts(t *testing.T) {
	texts := map[string]int64{}
	for _, k := range allKeys() {
		texts[k.text] = k.key
	}
	near := func(text string) {
		key, ok := texts[text]
		want := impl.IntResult{Value: key}
		if !ok {
			want.Code = impl.ErrText
		}
		checkParse(t, text, want)
	}
	for _, k := range allKeys() {
		for at := 0; at <= len(k.text); at++ {
			for c := 0; c < 256; c++ {
				near(k.text[:at] + string([]byte{byte(c)}) + k.text[at:])
				if at < len(k.text) {
					near(k.text[:at] + string([]byte{byte(c)}) + k.text[at+1:])
				}
			}
			near(k.text[:at])
			near(k.text[at:])
		}
	}
}

func wantKeysIn(from, to int64) impl.IntsResult {
	if from < 0 || from > 200 || to < 0 || to > 200 {
		return impl.IntsResult{Code: impl.ErrRange}
	}
	var list []int64
	for _, k := range allKeys() {
		if k.key >= from && k.key < to {
			list = append(list, k.key)
		}
	}
	return impl.IntsResult{List: list}
}

func sameInts(a, b impl.IntsResult) bool {
	return a.Code == b.Code && len(a.List) == len(b.List) && (len(a.List) == 0 || reflect.DeepEqual(a.List, b.List))
}

func TestKeysIn(t *testing.T) {
	if n := len(impl.KeysIn(0, 200).List); n != 81 {
		t.Errorf("there are %d keys, want 81", n)
	}
	for _, c := range [][2]int64{{0, 0}, {200, 200}, {200, 0}, {5, 5}, {30, 20}, {1, 10}, {26, 30}, {116, 180}, {190, 200}} {
		if got := impl.KeysIn(c[0], c[1]); got.Code != impl.OK || len(got.List) != 0 {
			t.Errorf("KeysIn(%d, %d) = %+v, want none", c[0], c[1], got)
		}
	}
	numbers := oddNumbers()
	for _, from := range numbers {
		for _, to := range numbers {
			if got, want := impl.KeysIn(from, to), wantKeysIn(from, to); !sameInts(got, want) {
				t.Errorf("KeysIn(%d, %d) = %+v, want %+v", from, to, got, want)
			}
		}
	}
}

// P1: an answer is new memory, also behind its length.
func TestKeysInNewMemory(t *testing.T) {
	first, second := impl.KeysIn(0, 200), impl.KeysIn(0, 200)
	whole := first.List[:cap(first.List)]
	for i := range whole {
		whole[i] = -7
	}
	if !sameInts(second, wantKeysIn(0, 200)) || !sameInts(impl.KeysIn(0, 200), wantKeysIn(0, 200)) {
		t.Error("what was answered changed with another answer")
	}
}

// P1: the bytes of a text that was handed in stay, and what they are later on changes no answer.
func TestParseKeyKeepsNothing(t *testing.T) {
	buffer := []byte("e2.3")
	text := string(buffer)
	before := impl.ParseKey(text)
	copy(buffer, "f9xx")
	if text != "e2.3" || before != (impl.IntResult{Value: 43}) || impl.ParseKey(text) != before {
		t.Error("text or answer changed")
	}
}

type keyAnswers struct {
	fault int64
	of    impl.IntResult
	parts impl.KeyParts
	text  impl.TextResult
	read  impl.IntResult
	in    impl.IntsResult
}

func askAll(n int64) keyAnswers {
	text := impl.KeyText(n)
	return keyAnswers{impl.KeyFault(n), impl.KeyOf(n, n, n), impl.PartsOf(n), text, impl.ParseKey(text.Text), impl.KeysIn(n, 200)}
}

// P1: whatever was asked ahead of it, in whatever order, and beside it, an answer is the same.
func TestKeyAnswersHangOnArguments(t *testing.T) {
	numbers := oddNumbers()
	first := make([]keyAnswers, len(numbers))
	for i, n := range numbers {
		first[i] = askAll(n)
	}
	var wait sync.WaitGroup
	for range 4 {
		wait.Add(1)
		go func() {
			defer wait.Done()
			for i := len(numbers) - 1; i >= 0; i-- {
				if !reflect.DeepEqual(askAll(numbers[i]), first[i]) {
					t.Errorf("the answers at %d changed", numbers[i])
				}
			}
		}()
	}
	wait.Wait()
}
