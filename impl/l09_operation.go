package impl

import "slices"

const (
	MaxOps   = 6
	OpPut    = 1
	OpAdd    = 2
	OpDelete = 3
	OpGet    = 4
	OpClear  = 5
	OpInc    = 6
)

// opParts is the number of byte strings that follow the kind of an encoded operation.
const opParts = 4

type Op struct {
	Kind   int
	Store  string
	Key    Key
	Record Record
	Field  string
}

// operation is an Op as a type of its own kind.
type operation interface {
	// perform returns the store after a valid operation, and the number that the operation gives. It may hand back the memory of the store that it is given.
	perform(s Store) (Store, int, bool)
}

type (
	putOp    Op
	addOp    Op
	deleteOp Op
	getOp    Op
	clearOp  Op
	incOp    Op
)

// operationOf returns nil for a kind that is none of the six.
func operationOf(o Op) operation {
	switch o.Kind {
	case OpPut:
		return putOp(o)
	case OpAdd:
		return addOp(o)
	case OpDelete:
		return deleteOp(o)
	case OpGet:
		return getOp(o)
	case OpClear:
		return clearOp(o)
	case OpInc:
		return incOp(o)
	}
	return nil
}

func IsOp(o Op) bool {
	if !IsName(o.Store) || !IsRecord(o.Record) {
		return false
	}
	switch operationOf(o).(type) {
	case nil:
		return false
	case clearOp:
		return o.Field == ""
	case incOp:
		return IsKey(o.Key) && IsName(o.Field)
	}
	return IsKey(o.Key) && o.Field == ""
}

func IsWrite(o Op) bool {
	switch operationOf(o).(type) {
	case nil, getOp:
		return false
	}
	return true
}

func RunOp(d Database, o Op) (Database, int, bool) {
	at := FindStore(d, o.Store)
	if at < 0 || !IsDatabase(d) || !IsOp(o) {
		return copyDatabase(d), 0, false
	}
	changed := copyDatabase(d)
	s, n, ok := operationOf(o).perform(changed.Stores[at])
	changed.Stores[at] = s
	// The store is valid by itself, but its items may break a unique index now.
	if !ok || !IsDatabase(changed) {
		return copyDatabase(d), 0, false
	}
	return changed, n, true
}

func (o putOp) perform(s Store) (Store, int, bool) {
	put, ok := PutItem(s, o.Key, o.Record)
	return put, 1, ok
}

func (o addOp) perform(s Store) (Store, int, bool) {
	added, ok := AddItem(s, o.Key, o.Record)
	return added, 1, ok
}

func (o deleteOp) perform(s Store) (Store, int, bool) {
	kept, n := DeleteItems(s, KeyRange{HasLow: true, HasHigh: true, Low: o.Key, High: o.Key})
	return kept, n, true
}

func (o getOp) perform(s Store) (Store, int, bool) {
	at := FindItem(s, o.Key)
	if at < 0 {
		return s, -1, true
	}
	return s, len(s.Items[at].Record.Fields), true
}

// The range of clearOp has no bounds: the key of the operation may be anything.
func (o clearOp) perform(s Store) (Store, int, bool) {
	kept, n := DeleteItems(s, KeyRange{})
	return kept, n, true
}

func (o incOp) perform(s Store) (Store, int, bool) {
	r := Record{}
	if at := FindItem(s, o.Key); at >= 0 {
		r = s.Items[at].Record
	}
	n, _ := GetField(r, o.Field)
	increased, ok := SetField(r, o.Field, n+1)
	if !ok {
		return s, 0, false
	}
	put, ok := PutItem(s, o.Key, increased)
	return put, n + 1, ok
}

func RunOps(d Database, l []Op) (Database, []int, bool) {
	if !IsDatabase(d) || len(l) > MaxOps {
		return copyDatabase(d), []int{}, false
	}
	changed := copyDatabase(d)
	numbers := []int{}
	for _, o := range l {
		next, n, ok := RunOp(changed, o)
		if !ok {
			return copyDatabase(d), []int{}, false
		}
		changed = next
		numbers = append(numbers, n)
	}
	return changed, numbers, true
}

func ScopeOf(l []Op) []string {
	names := []string{}
	for _, o := range l {
		names = append(names, o.Store)
	}
	slices.Sort(names)
	return slices.Compact(names)
}

func EncodeOps(l []Op) []byte {
	if !areOps(l) {
		return []byte{}
	}
	encoded := AppendUvarint(nil, len(l))
	for _, o := range l {
		encoded = appendOp(encoded, o)
	}
	return encoded
}

// areOps reports whether the list may be stored or performed as a whole.
func areOps(l []Op) bool {
	return len(l) <= MaxOps && !slices.ContainsFunc(l, func(o Op) bool {
		return !IsOp(o)
	})
}

func appendOp(b []byte, o Op) []byte {
	b = AppendUvarint(b, o.Kind)
	for _, part := range [opParts][]byte{[]byte(o.Store), EncodeKey(o.Key), EncodeRecord(o.Record), []byte(o.Field)} {
		b = AppendBytes(b, part)
	}
	return b
}

func DecodeOps(b []byte) ([]Op, bool) {
	l, ok := readOps(b)
	// Encoding the list again rules out all that readOp lets pass, and bytes behind the last operation.
	if !ok || !EqualBytes(EncodeOps(l), b) {
		return []Op{}, false
	}
	return l, true
}

func readOps(b []byte) ([]Op, bool) {
	count, next, ok := ReadUvarint(b, 0)
	if !ok || count > MaxOps {
		return []Op{}, false
	}
	l := []Op{}
	for range count {
		o, end, ok := readOp(b, next)
		if !ok {
			return []Op{}, false
		}
		l = append(l, o)
		next = end
	}
	return l, true
}

// readOp takes a part that is no key or no record for the zero one, and does not test the operation.
func readOp(b []byte, offset int) (Op, int, bool) {
	kind, next, ok := ReadUvarint(b, offset)
	if !ok {
		return Op{}, 0, false
	}
	var parts [opParts][]byte
	for i := range parts {
		part, end, ok := ReadBytes(b, next, len(b))
		if !ok {
			return Op{}, 0, false
		}
		parts[i] = part
		next = end
	}
	key, _ := DecodeKey(parts[1])
	record, _ := DecodeRecord(parts[2])
	return Op{Kind: kind, Store: string(parts[0]), Key: key, Record: record, Field: string(parts[3])}, next, true
}

func EqualOps(a []Op, b []Op) bool {
	return slices.EqualFunc(a, b, equalOp)
}

func equalOp(a Op, b Op) bool {
	return a.Kind == b.Kind && a.Store == b.Store && a.Key == b.Key && EqualRecords(a.Record, b.Record) && a.Field == b.Field
}

func copyOp(o Op) Op {
	return Op{Kind: o.Kind, Store: o.Store, Key: o.Key, Record: copyRecord(o.Record), Field: o.Field}
}
