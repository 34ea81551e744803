package num

import (
	"cmp"

	"withy/api"
	"withy/share"
)

// fraction is a valid number, with the methods of which the operations are made. All that they multiply fits an int, because a numerator and a denominator are at most MaxNum.
type fraction api.Num

// operation is an index of the table of operations.
type operation int

const (
	add operation = iota
	subtract
	multiply
	divide
	operations // how many there are
)

func table() [operations]func(a, b fraction) api.Num {
	return [...]func(a, b fraction) api.Num{
		add:      fraction.plus,
		subtract: fraction.minus,
		multiply: fraction.times,
		divide:   fraction.over,
	}
}

// compute returns the result of an operation, with the errors of its operands first.
func compute(o operation, a, b api.Num) (api.Num, api.Errno) {
	if e := firstError(a, b); e != api.OK {
		return api.Num{}, e
	}
	return share.Bounded(func() api.Num { return table()[o](fraction(a), fraction(b)) })
}

func (a fraction) plus(b fraction) api.Num { return lowest(a.N*b.D+b.N*a.D, a.D*b.D) }

func (a fraction) minus(b fraction) api.Num { return lowest(a.N*b.D-b.N*a.D, a.D*b.D) }

func (a fraction) times(b fraction) api.Num { return lowest(a.N*b.N, a.D*b.D) }

// over must not be called with a b of 0.
func (a fraction) over(b fraction) api.Num { return lowest(a.N*b.D, a.D*b.N) }

func (a fraction) compare(b fraction) int { return cmp.Compare(a.N*b.D, b.N*a.D) }

func total(l ...api.Num) api.Num {
	sum := api.Num{N: 0, D: 1}
	for _, a := range l {
		sum = fraction(sum).plus(fraction(a))
	}
	return sum
}

// power panics at the first product beyond the bounds: those behind it would be beyond them, too.
func power(a api.Num, n int) api.Num {
	product := api.Num{N: 1, D: 1}
	for range n {
		product = fraction(product).times(fraction(a))
	}
	return product
}
