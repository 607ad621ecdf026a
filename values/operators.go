package values

import (
	"math"

	"tabor/api"
)

// operators makes the table of operators.
func operators() map[string]operator {
	out := map[string]operator{
		"+": reckoned(add), "-": reckoned(subtract), "*": reckoned(multiply), "/": reckoned(divide), "%": reckoned(rest),
		"..": join,
		"==": func(h *Heap, a, b api.Val) (api.Val, string) { return Bool(Same(a, b)), fine },
		"~=": func(h *Heap, a, b api.Val) (api.Val, string) { return Bool(!Same(a, b)), fine },
	}
	for _, order := range [4]string{"<", "<=", ">", ">="} {
		out[order] = func(h *Heap, a, b api.Val) (api.Val, string) { return compared(order, a, b) }
	}
	return out
}

// Op does an operator.
func (h *Heap) Op(op string, a, b api.Val) (api.Val, string) {
	if h.none() {
		return api.Val{}, noMemory
	}
	do := h.ops[op]
	if do == nil || !Check(a) || !Check(b) {
		return api.Val{}, badType
	}
	return do(h, a, b)
}

// reckoned is an operator of two numbers.
func reckoned(do func(a, b int64) (int64, string)) operator {
	return func(h *Heap, a, b api.Val) (api.Val, string) {
		if a.Kind != api.ValInt || b.Kind != api.ValInt {
			return api.Val{}, badType
		}
		n, why := do(a.Int, b.Int)
		if why != fine {
			return api.Val{}, why
		}
		return Int(n), fine
	}
}

func add(a, b int64) (int64, string) {
	if b > 0 && a > math.MaxInt64-b || b < 0 && a < math.MinInt64-b {
		return 0, over
	}
	return a + b, fine
}

func subtract(a, b int64) (int64, string) {
	if b < 0 && a > math.MaxInt64+b || b > 0 && a < math.MinInt64+b {
		return 0, over
	}
	return a - b, fine
}

func multiply(a, b int64) (int64, string) {
	if a == 0 || b == 0 {
		return 0, fine
	}
	n := a * b
	if a == -1 && b == math.MinInt64 || b == -1 && a == math.MinInt64 || n/b != a {
		return 0, over
	}
	return n, fine
}

// divide rounds down.
func divide(a, b int64) (int64, string) {
	if b == 0 {
		return 0, byZero
	}
	if a == math.MinInt64 && b == -1 {
		return 0, over
	}
	n := a / b
	if a%b != 0 && (a < 0) != (b < 0) {
		n--
	}
	return n, fine
}

// rest has the sign of the divisor.
func rest(a, b int64) (int64, string) {
	if b == 0 {
		return 0, byZero
	}
	n := a % b
	if n != 0 && (n < 0) != (b < 0) {
		n += b
	}
	return n, fine
}

// join puts two texts or numbers one behind the other.
func join(h *Heap, a, b api.Val) (api.Val, string) {
	if a.Kind != api.ValInt && a.Kind != api.ValText || b.Kind != api.ValInt && b.Kind != api.ValText {
		return api.Val{}, badType
	}
	left, right := Told(a), Told(b)
	if len(left)+len(right) > api.MaxText {
		return api.Val{}, tooLong
	}
	return h.Make(left + right)
}

// compared orders two numbers, or two texts.
func compared(order string, a, b api.Val) (api.Val, string) {
	switch {
	case a.Kind == api.ValInt && b.Kind == api.ValInt:
		return Bool(ordered(order, a.Int, b.Int)), fine
	case a.Kind == api.ValText && b.Kind == api.ValText:
		return Bool(ordered(order, a.Text, b.Text)), fine
	}
	return api.Val{}, badType
}
