package impl

import "cmp"

const (
	Nodes  = 3
	MaxDot = 9999
)

const (
	OrSame = iota
	OrBefore
	OrAfter
	OrBeside
)

type Dot struct{ Node, N int }

type Vv [Nodes]int

func DotOK(d Dot) bool { return isNode(d.Node) && 1 <= d.N && d.N <= MaxDot }

func isNode(id int) bool { return 0 <= id && id < Nodes }

func VvOK(v Vv) bool {
	for _, n := range v {
		if n < 0 || n > MaxDot {
			return false
		}
	}
	return true
}

func VvMax(a, b Vv) (Vv, int) {
	if !VvOK(a) || !VvOK(b) {
		return Vv{}, ErrBad
	}
	return greaterOf(a, b), OK
}

func VvMin(a, b Vv) (Vv, int) {
	if !VvOK(a) || !VvOK(b) {
		return Vv{}, ErrBad
	}
	return lesserOf(a, b), OK
}

func greaterOf(a, b Vv) Vv {
	for i, n := range b {
		a[i] = max(a[i], n)
	}
	return a
}

func lesserOf(a, b Vv) Vv {
	for i, n := range b {
		a[i] = min(a[i], n)
	}
	return a
}

func VvHas(v Vv, d Dot) (bool, int) {
	if !VvOK(v) || !DotOK(d) {
		return false, ErrBad
	}
	return knows(v, d), OK
}

func knows(v Vv, d Dot) bool { return d.N <= v[d.Node] }

func VvAdd(v Vv, d Dot) (Vv, int) {
	if !VvOK(v) || !DotOK(d) {
		return Vv{}, ErrBad
	}
	v[d.Node] = max(v[d.Node], d.N)
	return v, OK
}

func VvOrder(a, b Vv) (int, int) {
	if !VvOK(a) || !VvOK(b) {
		return 0, ErrBad
	}
	both := greaterOf(a, b) // it is b just if nothing of a is above b
	switch {
	case a == b:
		return OrSame, OK
	case both == b:
		return OrBefore, OK
	case both == a:
		return OrAfter, OK
	}
	return OrBeside, OK
}

func OrderDots(a, b Dot) (int, int) {
	if !DotOK(a) || !DotOK(b) {
		return 0, ErrBad
	}
	return compareDots(a, b), OK
}

func compareDots(a, b Dot) int {
	return cmp.Or(cmp.Compare(a.Node, b.Node), cmp.Compare(a.N, b.N))
}
