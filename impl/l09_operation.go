package impl

const (
	MaxOps   = 6
	OpPut    = 1
	OpAdd    = 2
	OpDelete = 3
	OpGet    = 4
	OpClear  = 5
	OpInc    = 6
)

type Op struct {
	Kind   int
	Store  string
	Key    Key
	Record Record
	Field  string
}

func IsOp(o Op) bool {
	return false
}

func IsWrite(o Op) bool {
	return false
}

func RunOp(d Database, o Op) (Database, int, bool) {
	return Database{}, 0, false
}

func RunOps(d Database, l []Op) (Database, []int, bool) {
	return Database{}, []int{}, false
}

func ScopeOf(l []Op) []string {
	return []string{}
}

func EncodeOps(l []Op) []byte {
	return []byte{}
}

func DecodeOps(b []byte) ([]Op, bool) {
	return []Op{}, false
}

func EqualOps(a []Op, b []Op) bool {
	return false
}
