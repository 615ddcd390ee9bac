package tests

import (
	"math"
	"slices"
	"testing"

	"loop.example/g01195/impl"
)

// The texts of squares that the tests of several chapters use. Each one stands for a kind of square.
const (
	textOfOne      = "0"
	textOfSubtract = "021/102/210"                               // no loop: 0 is a right neutral element alone
	textOfLoop5    = "01234/10342/24013/32401/43120"             // a loop that is no group
	textOfLoop6    = "012345/120453/201534/345012/453201/534120" // a loop that is no group
	textOfTurns3   = "012345/120453/201534/354021/435102/543210" // the group of all permutations of three numbers
	textOfShifted  = "1230/2301/3012/0123"                       // no loop: the neutral element is 3
)

// badOrders are numbers that are no order of a square.
func badOrders() []int64 {
	return []int64{0, -1, 11, 12, 256, 257, 1 << 32, math.MaxInt64, math.MinInt64}
}

// squareOf returns the square with a text.
func squareOf(t *testing.T, text string) impl.Square {
	t.Helper()
	q, code := impl.ParseSquare(text)
	if code != impl.ErrNone {
		t.Fatalf("ParseSquare(%q): code %d", text, code)
	}
	return q
}

// cyclicOf returns the cyclic square of order n.
func cyclicOf(t *testing.T, n int64) impl.Square {
	t.Helper()
	q, code := impl.CyclicSquare(n)
	if code != impl.ErrNone {
		t.Fatalf("CyclicSquare(%d): code %d", n, code)
	}
	return q
}

// elementaryOf returns the elementary square of order 2^k.
func elementaryOf(t *testing.T, k int64) impl.Square {
	t.Helper()
	q, code := impl.ElementarySquare(k)
	if code != impl.ErrNone {
		t.Fatalf("ElementarySquare(%d): code %d", k, code)
	}
	return q
}

// someSquares returns squares of all orders, with and without neutral and associative ones among them.
func someSquares(t *testing.T) []impl.Square {
	t.Helper()
	var list []impl.Square
	for n := int64(1); n <= impl.MaxOrder; n++ {
		list = append(list, cyclicOf(t, n), subtractOf(n))
	}
	for k := int64(0); k <= 3; k++ {
		list = append(list, elementaryOf(t, k))
	}
	for _, text := range []string{textOfSubtract, textOfLoop5, textOfLoop6, textOfTurns3, textOfShifted} {
		list = append(list, squareOf(t, text))
	}
	return list
}

// subtractOf returns the square of order n with the remainder of x - y by n as product of x and y.
func subtractOf(n int64) impl.Square {
	q := impl.Square{Order: n}
	for x := range n {
		for y := range n {
			q.Table[x][y] = byte((x - y + n) % n)
		}
	}
	return q
}

// noSquares returns values that are no squares, each for a reason of its own.
func noSquares(t *testing.T) map[string]impl.Square {
	t.Helper()
	list := map[string]impl.Square{
		"the zero value":             {},
		"a wrong entry of order 1":   {Order: 1, Table: impl.Table{{1}}},
		"equal rows":                 {Order: 2, Table: impl.Table{{0, 1}, {0, 1}}},
		"equal columns":              {Order: 2, Table: impl.Table{{0, 0}, {1, 1}}},
		"an entry as the order":      {Order: 2, Table: impl.Table{{0, 2}, {2, 0}}},
		"an entry 255":               {Order: 2, Table: impl.Table{{0, 255}, {255, 0}}},
		"a table of a greater order": {Order: 2, Table: cyclicOf(t, 3).Table},
		"a table of a smaller order": {Order: 4, Table: cyclicOf(t, 3).Table},
		"an entry right of it":       {Order: 2, Table: impl.Table{{0, 1, 1}, {1, 0}}},
		"an entry below it":          {Order: 2, Table: impl.Table{{0, 1}, {1, 0}, {1}}},
		"an entry beyond both":       {Order: 2, Table: impl.Table{{0, 1}, {1, 0}, {0, 0, 1}}},
		"an entry in the far corner": {Order: 2, Table: impl.Table{{0, 1}, {1, 0}, 9: {9: 1}}},
	}
	twice := cyclicOf(t, 10)
	twice.Table[9][9] = 9
	list["an entry twice in the last row"] = twice
	for _, n := range badOrders() {
		list["the order "+decimal(n)] = impl.Square{Order: n}
		list["the order "+decimal(n)+" with a table"] = impl.Square{Order: n, Table: cyclicOf(t, 10).Table}
	}
	return list
}

// orderings calls each with all lists of the numbers 0 to n - 1 in some order.
func orderings(n int, each func(list []byte)) {
	var extend func(list []byte)
	extend = func(list []byte) {
		if len(list) == n {
			each(list)
			return
		}
		for x := range byte(n) {
			if !slices.Contains(list, x) {
				extend(append(list, x))
			}
		}
	}
	extend(make([]byte, 0, n))
}

// placesOf returns the permutation with some first entries.
func placesOf(list []byte) impl.Places {
	var p impl.Places
	copy(p[:], list)
	return p
}

// allLoops calls each with all loops of order n.
func allLoops(n int, each func(q impl.Square)) {
	q := impl.Square{Order: int64(n)}
	for x := range n {
		q.Table[0][x], q.Table[x][0] = byte(x), byte(x)
	}
	var fill func(place int)
	fill = func(place int) {
		x, y := place/n, place%n
		if x == n {
			each(q)
			return
		}
		if x == 0 || y == 0 {
			fill(place + 1)
			return
		}
		for z := range byte(n) {
			met := slices.Contains(q.Table[x][:y], z)
			for above := range x {
				met = met || q.Table[above][y] == z
			}
			if !met {
				q.Table[x][y] = z
				fill(place + 1)
			}
		}
	}
	fill(0)
}

// steinerOf10 returns the loop of order 10 in which 0 is neutral, x * x is 0, and the product of two
// other points of the plane of nine points is the third one on their line.
func steinerOf10() impl.Square {
	q := impl.Square{Order: 10}
	for x := range byte(10) {
		q.Table[0][x], q.Table[x][0] = x, x
	}
	for x := range byte(9) {
		for y := range byte(9) {
			if x != y {
				q.Table[1+x][1+y] = 1 + (6-x/3-y/3)%3*3 + (6-x%3-y%3)%3
			}
		}
	}
	return q
}

// numbersIn returns the numbers of a set in ascending order.
func numbersIn(set uint) []int64 {
	var list []int64
	for x := range int64(impl.MaxOrder + 1) {
		if set>>x&1 == 1 {
			list = append(list, x)
		}
	}
	return list
}
