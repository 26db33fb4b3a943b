package impl

import "strconv"

const MaxValue = 1000000000000

func FormatInt(n int) string {
	return strconv.Itoa(n)
}

func ParseInt(s string) (int, bool) {
	n, err := strconv.Atoi(s)
	if err != nil || !InRange(n, 0, MaxValue) {
		return 0, false
	}
	// Atoi also accepts "+1", "-0" and leading zeros; formatting the number again rules them out.
	if FormatInt(n) != s {
		return 0, false
	}
	return n, true
}

func Min(a int, b int) int {
	least, _ := extremes(a, b)
	return least
}

func Max(a int, b int) int {
	_, greatest := extremes(a, b)
	return greatest
}

// extremes takes its first number apart from the others so that it always has an answer.
func extremes(first int, others ...int) (int, int) {
	least, greatest := first, first
	for _, n := range others {
		if n < least {
			least = n
		}
		if n > greatest {
			greatest = n
		}
	}
	return least, greatest
}

func CeilDiv(a int, b int) int {
	if !InRange(a, 0, MaxValue) || !InRange(b, 1, MaxValue) {
		return 0
	}
	return (a + b - 1) / b
}

func Mod(p int, q int) int {
	if !InRange(q, 1, MaxValue) {
		return 0
	}
	remainder := p % q
	// The remainder of Go has the sign of p.
	if remainder < 0 {
		remainder += q
	}
	return remainder
}

func InRange(n int, low int, high int) bool {
	return low <= n && n <= high
}
