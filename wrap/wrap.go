// Package wrap is layer 1: arithmetic that goes round. See shared/doc/01-wrap.md.
package wrap

import "forebay/api"

// mostFactors is how often Power multiplies at most.
const mostFactors = 1000

// Known tells whether there is such an operation of two numbers.
func Known(op int) bool { return op >= api.Add && op <= api.Xor }

// Do is what an operation makes of two numbers, or its fault.
func Do(op, a, b int) (int, int) {
	if (op == api.Div || op == api.Mod) && b == 0 {
		return 0, api.DivZero
	}
	switch op {
	case api.Add:
		return a + b, api.NoFault
	case api.Sub:
		return a - b, api.NoFault
	case api.Mul:
		return a * b, api.NoFault
	case api.Div:
		return a / b, api.NoFault
	case api.Mod:
		return a % b, api.NoFault
	case api.Less:
		return number(a < b), api.NoFault
	case api.Same:
		return number(a == b), api.NoFault
	case api.And:
		return a & b, api.NoFault
	case api.Or:
		return a | b, api.NoFault
	case api.Xor:
		return a ^ b, api.NoFault
	}
	return 0, api.NoFault
}

// number is 1 of what is so, else 0.
func number(is bool) int {
	if is {
		return 1
	}
	return 0
}

// Sum is all numbers, added.
func Sum(l ...int) int {
	sum := 0
	for _, n := range l {
		sum += n
	}
	return sum
}

// Power is a number times itself, so often.
func Power(a, n int) int {
	power := 1
	for range min(max(n, 0), mostFactors) {
		power *= a
	}
	return power
}
