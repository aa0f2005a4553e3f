package impl

import "strconv"

const OK = 0
const ErrForm = 1
const ErrMany = 2
const ErrRange = 3
const ErrNone = 4
const ErrText = 5
const ErrTaken = 6
const ErrLocked = 7
const ErrOld = 8
const ErrDir = 9
const ErrState = 10
const KindNext = 0
const KindInode = 1
const KindEntry = 2
const KindBytes = 3
const MaxInode = 9
const MaxName = 5
const MaxKey = 199

type IntResult struct {
	Code  int64
	Value int64
}
type IntsResult struct {
	Code int64
	List []int64
}
type TextResult struct {
	Code int64
	Text string
}
type KeyParts struct {
	Code int64
	Kind int64
	A    int64
	B    int64
}

// Where the keys of each kind begin; what is left of a key counts from there.
const firstInode = 10
const firstEntry = 20
const firstBytes = 180

// The entries of two directories stand this far apart, so that a rest keeps both digits.
const entryStep = 10

func KeyFault(key int64) int64 {
	if key < 0 || key > MaxKey {
		return ErrRange
	}
	kind, a, b := partsTold(tellKey(key))
	if !partsFit(kind, a, b) {
		return ErrForm
	}
	return OK
}

func KeyOf(kind int64, a int64, b int64) IntResult {
	if kind < KindNext || kind > KindBytes {
		return IntResult{Code: ErrForm}
	}
	if !partsFit(kind, a, b) {
		return IntResult{Code: ErrRange}
	}
	return IntResult{Value: keyTold(tellParts(kind, a, b))}
}

func PartsOf(key int64) KeyParts {
	if code := KeyFault(key); code != OK {
		return KeyParts{Code: code}
	}
	kind, a, b := partsTold(tellKey(key))
	return KeyParts{Kind: kind, A: a, B: b}
}

func KeyText(key int64) TextResult {
	parts := PartsOf(key)
	if parts.Code != OK {
		return TextResult{Code: parts.Code}
	}
	a := strconv.FormatInt(parts.A, 10)
	switch parts.Kind {
	case KindInode:
		return TextResult{Text: "i" + a}
	case KindEntry:
		return TextResult{Text: "e" + a + "." + strconv.FormatInt(parts.B, 10)}
	case KindBytes:
		return TextResult{Text: "f" + a}
	}
	return TextResult{Text: "n"}
}

func ParseKey(text string) IntResult {
	told, ok := readKey(text)
	if !ok {
		return IntResult{Code: ErrText}
	}
	return IntResult{Value: keyTold(told)}
}

func KeysIn(from int64, to int64) IntsResult {
	if !boundsFit(from, to) {
		return IntsResult{Code: ErrRange}
	}
	var list []int64
	for key := from; key < to; key++ {
		if KeyFault(key) == OK {
			list = append(list, key)
		}
	}
	return IntsResult{List: list}
}

// boundsFit lets in the number behind the last key, so that what ends there has all keys.
func boundsFit(from int64, to int64) bool {
	return from >= 0 && from <= MaxKey+1 && to >= 0 && to <= MaxKey+1
}

func firstOf(kind int64) int64 {
	switch kind {
	case KindInode:
		return firstInode
	case KindEntry:
		return firstEntry
	case KindBytes:
		return firstBytes
	}
	return 0
}

func partsFit(kind int64, a int64, b int64) bool {
	if a < 0 || a > MaxInode || b < 0 || b > MaxName {
		return false
	}
	return (kind != KindNext || a == 0) && (kind == KindEntry || b == 0)
}

// tellKey tells also of a number that stands for nothing: its parts do not fit then,
// so that the gaps between the kinds need no bounds of their own.
func tellKey(key int64) complex128 {
	kind := int64(KindBytes)
	for kind > KindNext && key < firstOf(kind) {
		kind--
	}
	return complex(float64(kind), float64(key-firstOf(kind)))
}

func keyTold(told complex128) int64 {
	return firstOf(int64(real(told))) + int64(imag(told))
}

func tellParts(kind int64, a int64, b int64) complex128 {
	if kind == KindEntry {
		return complex(KindEntry, float64(a*entryStep+b))
	}
	return complex(float64(kind), float64(a))
}

func partsTold(told complex128) (kind int64, a int64, b int64) {
	kind, a = int64(real(told)), int64(imag(told))
	if kind == KindEntry {
		return kind, a / entryStep, a % entryStep
	}
	return kind, a, 0
}

// digitAt answers -1 also behind the end of text, so that the machine asks for no length ahead of a digit.
func digitAt(text string, at int, most int64) int64 {
	if at >= len(text) || text[at] < '0' || int64(text[at]-'0') > most {
		return -1
	}
	return int64(text[at] - '0')
}

// readKey is a machine: a label is what may stand next. Every number of a key has one digit,
// so no label is come to twice.
func readKey(text string) (told complex128, ok bool) {
	var kind, a, b int64
	at := 1
	if text == "" {
		goto wrong
	}
	switch text[0] {
	case 'n':
		kind = KindNext
		goto end
	case 'i':
		kind = KindInode
		goto inode
	case 'e':
		kind = KindEntry
		goto inode
	case 'f':
		kind = KindBytes
		goto inode
	}
	goto wrong

inode:
	a = digitAt(text, at, MaxInode)
	if a < 0 {
		goto wrong
	}
	at++
	if kind == KindEntry {
		goto dot
	}
	goto end

dot:
	if at >= len(text) || text[at] != '.' {
		goto wrong
	}
	at++
	b = digitAt(text, at, MaxName)
	if b < 0 {
		goto wrong
	}
	at++

end:
	if at == len(text) {
		return tellParts(kind, a, b), true
	}

wrong:
	return 0, false
}
