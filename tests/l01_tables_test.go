package tests

import (
	"math"
	"reflect"
	"slices"
	"strconv"
	"strings"
	"testing"

	"loop.example/g01195/impl"
)

func decimal(n int64) string { return strconv.FormatInt(n, 10) }

func TestErrorCodes(t *testing.T) {
	codes := []int64{impl.ErrNone, impl.ErrInvalid, impl.ErrRange, impl.ErrLimit, impl.ErrNotFound, impl.ErrState, impl.ErrSyntax}
	for i, code := range codes {
		if code != int64(i) {
			t.Errorf("the code number %d is %d", i, code)
		}
	}
	if impl.MaxOrder != 10 {
		t.Errorf("MaxOrder = %d", impl.MaxOrder)
	}
}

func TestIsSquareOfSquares(t *testing.T) {
	for _, q := range someSquares(t) {
		if !impl.IsSquare(q) {
			t.Errorf("IsSquare(%v) is false", q)
		}
	}
}

func TestIsSquareOfOthers(t *testing.T) {
	for reason, q := range noSquares(t) {
		if impl.IsSquare(q) || impl.IsLoop(q) || impl.IsGroup(q) {
			t.Errorf("%s: IsSquare, IsLoop, IsGroup = %v, %v, %v", reason, impl.IsSquare(q), impl.IsLoop(q), impl.IsGroup(q))
		}
	}
}

// Every single entry of a square counts, within its corner and outside of it.
func TestIsSquareAfterOneChange(t *testing.T) {
	for _, n := range []int64{1, 2, 5, 9, 10} {
		for x := range 10 {
			for y := range 10 {
				q := cyclicOf(t, n)
				q.Table[x][y]++
				if impl.IsSquare(q) {
					t.Errorf("order %d with another entry at %d, %d is a square", n, x, y)
				}
			}
		}
	}
}

// There are 12 squares of order 3, and one of them is a loop.
func TestAllTablesOfOrderThree(t *testing.T) {
	squares, loops, groups := 0, 0, 0
	for code := range 19683 {
		q := impl.Square{Order: 3}
		for place := range 9 {
			q.Table[place/3][place%3] = byte(code % 3)
			code /= 3
		}
		squares += countOf(impl.IsSquare(q))
		loops += countOf(impl.IsLoop(q))
		groups += countOf(impl.IsGroup(q))
	}
	if squares != 12 || loops != 1 || groups != 1 {
		t.Errorf("%d squares, %d loops, %d groups", squares, loops, groups)
	}
}

func countOf(holds bool) int {
	if holds {
		return 1
	}
	return 0
}

// There are 56 loops of order 5, and six of them are groups; there are four of order 4, all groups.
func TestAllLoopsOfSmallOrders(t *testing.T) {
	for _, known := range [][3]int{{1, 1, 1}, {2, 1, 1}, {3, 1, 1}, {4, 4, 4}, {5, 56, 6}} {
		loops, groups := 0, 0
		n := known[0]
		var fill func(q impl.Square, row int)
		fill = func(q impl.Square, row int) {
			if row == n {
				loops += countOf(impl.IsLoop(q))
				groups += countOf(impl.IsGroup(q))
				return
			}
			orderings(n, func(list []byte) {
				if int(list[0]) == row {
					copy(q.Table[row][:], list)
					fill(q, row+1)
				}
			})
		}
		first := impl.Square{Order: int64(n)}
		for x := range n {
			first.Table[0][x] = byte(x)
		}
		fill(first, 1)
		if loops != known[1] || groups != known[2] {
			t.Errorf("order %d: %d loops, %d groups", n, loops, groups)
		}
	}
}

func TestIsLoopAndIsGroup(t *testing.T) {
	cases := []struct {
		text        string
		loop, group bool
	}{
		{textOfOne, true, true},
		{"01/10", true, true},
		{"10/01", false, false},
		{textOfSubtract, false, false},
		{"012/201/120", false, false}, // 0 is a left neutral element alone
		{textOfLoop5, true, false},
		{textOfLoop6, true, false},
		{textOfTurns3, true, true},
		{textOfShifted, false, false}, // associative, but its neutral element is not 0
	}
	for _, c := range cases {
		q := squareOf(t, c.text)
		if impl.IsLoop(q) != c.loop || impl.IsGroup(q) != c.group {
			t.Errorf("%s: IsLoop, IsGroup = %v, %v", c.text, impl.IsLoop(q), impl.IsGroup(q))
		}
	}
	for n := int64(1); n <= impl.MaxOrder; n++ {
		if !impl.IsLoop(cyclicOf(t, n)) || !impl.IsGroup(cyclicOf(t, n)) {
			t.Errorf("the cyclic square of order %d is no group", n)
		}
		if n > 2 && impl.IsLoop(subtractOf(n)) {
			t.Errorf("differences of order %d are a loop", n)
		}
	}
}

func TestSquareOfLists(t *testing.T) {
	q, code := impl.SquareOfLists([][]int64{{0, 2, 1}, {1, 0, 2}, {2, 1, 0}})
	if q != squareOf(t, textOfSubtract) || code != impl.ErrNone {
		t.Errorf("SquareOfLists = %v, %d", q, code)
	}
	q, code = impl.SquareOfLists([][]int64{{0}})
	if q != (impl.Square{Order: 1}) || code != impl.ErrNone {
		t.Errorf("SquareOfLists of order 1 = %v, %d", q, code)
	}
}

func TestSquareOfListsErrors(t *testing.T) {
	eleven := make([][]int64, 11)
	for x := range eleven {
		eleven[x] = make([]int64, 11)
		for y := range eleven[x] {
			eleven[x][y] = int64((x + y) % 11)
		}
	}
	cases := []struct {
		reason string
		lists  [][]int64
		code   int64
	}{
		{"nil", nil, impl.ErrRange},
		{"no lists", [][]int64{}, impl.ErrRange},
		{"one empty list", [][]int64{{}}, impl.ErrRange},
		{"eleven lists", eleven, impl.ErrRange},
		{"lists of eleven numbers", eleven[:10], impl.ErrRange},
		{"a list too short", [][]int64{{0, 1}, {1}}, impl.ErrRange},
		{"a list too long", [][]int64{{0, 1}, {1, 0, 0}}, impl.ErrRange},
		{"a list missing", [][]int64{{0, 1}}, impl.ErrRange},
		{"a nil list", [][]int64{{0, 1}, nil}, impl.ErrRange},
		{"a negative number", [][]int64{{0, -1}, {-1, 0}}, impl.ErrRange},
		{"a number as the order", [][]int64{{0, 2}, {2, 0}}, impl.ErrRange},
		{"1 for order 1", [][]int64{{1}}, impl.ErrRange},
		{"256 in the place of 0", [][]int64{{256, 1}, {1, 0}}, impl.ErrRange},
		{"2^32 in the place of 0", [][]int64{{0, 1}, {1, 1 << 32}}, impl.ErrRange},
		{"-256 in the place of 0", [][]int64{{-256, 1}, {1, 0}}, impl.ErrRange},
		{"the greatest number", [][]int64{{math.MaxInt64}}, impl.ErrRange},
		{"the least number", [][]int64{{math.MinInt64}}, impl.ErrRange},
		{"equal rows", [][]int64{{0, 1}, {0, 1}}, impl.ErrState},
		{"equal columns", [][]int64{{0, 0}, {1, 1}}, impl.ErrState},
		{"equal rows and behind them a number out of range", [][]int64{{0, 1, 2}, {0, 1, 2}, {1, 2, 3}}, impl.ErrRange},
		{"equal rows and behind them a list too short", [][]int64{{0, 1, 2}, {0, 1, 2}, {1, 2}}, impl.ErrRange},
	}
	for _, c := range cases {
		if q, code := impl.SquareOfLists(c.lists); q != (impl.Square{}) || code != c.code {
			t.Errorf("%s: SquareOfLists = %v, %d", c.reason, q, code)
		}
	}
}

func TestListsOfSquare(t *testing.T) {
	lists, code := impl.ListsOfSquare(squareOf(t, textOfSubtract))
	if !reflect.DeepEqual(lists, [][]int64{{0, 2, 1}, {1, 0, 2}, {2, 1, 0}}) || code != impl.ErrNone {
		t.Errorf("ListsOfSquare = %v, %d", lists, code)
	}
	for reason, q := range noSquares(t) {
		if lists, code := impl.ListsOfSquare(q); len(lists) != 0 || code != impl.ErrInvalid {
			t.Errorf("%s: ListsOfSquare = %v, %d", reason, lists, code)
		}
	}
}

func TestSquaresComeBackFromTheirLists(t *testing.T) {
	for _, q := range someSquares(t) {
		lists, code := impl.ListsOfSquare(q)
		if code != impl.ErrNone || int64(len(lists)) != q.Order {
			t.Errorf("ListsOfSquare(%v) = %v, %d", q, lists, code)
		}
		kept := make([][]int64, len(lists))
		for x, list := range lists {
			kept[x] = slices.Clone(list)
		}
		if back, code := impl.SquareOfLists(lists); back != q || code != impl.ErrNone {
			t.Errorf("SquareOfLists(%v) = %v, %d", lists, back, code)
		}
		if !reflect.DeepEqual(lists, kept) {
			t.Errorf("SquareOfLists has made %v of %v", lists, kept)
		}
	}
}

// No two rows of a result share memory, not even behind their ends.
func TestListsOfSquareShareNoMemory(t *testing.T) {
	q := squareOf(t, textOfLoop5)
	lists, _ := impl.ListsOfSquare(q)
	for x := range lists {
		row := append(lists[x], 77)
		for y := range row {
			row[y] = 77
		}
		clear(lists[x][:cap(lists[x])])
		for other := x + 1; other < len(lists); other++ {
			for y, z := range lists[other] {
				if z != int64(q.Table[other][y]) {
					t.Fatalf("changing row %d changes row %d", x, other)
				}
			}
		}
	}
	if again, _ := impl.ListsOfSquare(q); again[4][0] != 4 {
		t.Errorf("a second call returns the changed row %v", again[4])
	}
}

func TestQuotientsUndoProducts(t *testing.T) {
	for _, q := range someSquares(t) {
		for x := range byte(q.Order) {
			for y := range byte(q.Order) {
				z, code := impl.ProductIn(q, x, y)
				if z != q.Table[x][y] || code != impl.ErrNone {
					t.Errorf("%v: ProductIn(%d, %d) = %d, %d", q, x, y, z, code)
				}
				if back, code := impl.LeftQuotient(q, x, z); back != y || code != impl.ErrNone {
					t.Errorf("%v: LeftQuotient(%d, %d) = %d, %d", q, x, z, back, code)
				}
				if back, code := impl.RightQuotient(q, z, y); back != x || code != impl.ErrNone {
					t.Errorf("%v: RightQuotient(%d, %d) = %d, %d", q, z, y, back, code)
				}
				checkProductsOfQuotients(t, q, x, y)
			}
		}
	}
}

// checkProductsOfQuotients checks that x * (x \ z) and (z / x) * x are z.
func checkProductsOfQuotients(t *testing.T, q impl.Square, x byte, z byte) {
	t.Helper()
	right, _ := impl.LeftQuotient(q, x, z)
	if back, code := impl.ProductIn(q, x, right); back != z || code != impl.ErrNone {
		t.Errorf("%v: %d * (%d \\ %d) = %d, %d", q, x, x, z, back, code)
	}
	left, _ := impl.RightQuotient(q, z, x)
	if back, code := impl.ProductIn(q, left, x); back != z || code != impl.ErrNone {
		t.Errorf("%v: (%d / %d) * %d = %d, %d", q, z, x, x, back, code)
	}
}

func TestProductsAndQuotientsOfExamples(t *testing.T) {
	q := squareOf(t, textOfLoop5)
	if z, code := impl.ProductIn(q, 3, 2); z != 4 || code != impl.ErrNone {
		t.Errorf("3 * 2 = %d, %d", z, code)
	}
	if y, code := impl.LeftQuotient(q, 3, 1); y != 4 || code != impl.ErrNone {
		t.Errorf("3 \\ 1 = %d, %d", y, code)
	}
	if x, code := impl.RightQuotient(q, 3, 1); x != 4 || code != impl.ErrNone {
		t.Errorf("3 / 1 = %d, %d", x, code)
	}
	if x, code := impl.RightQuotient(q, 1, 3); x != 2 || code != impl.ErrNone {
		t.Errorf("1 / 3 = %d, %d", x, code)
	}
}

func TestProductsAndQuotientsErrors(t *testing.T) {
	functions := map[string]func(impl.Square, byte, byte) (byte, int64){
		"ProductIn": impl.ProductIn, "LeftQuotient": impl.LeftQuotient, "RightQuotient": impl.RightQuotient,
	}
	for name, function := range functions {
		for reason, q := range noSquares(t) {
			for _, x := range []byte{0, 255} {
				if z, code := function(q, x, x); z != 0 || code != impl.ErrInvalid {
					t.Errorf("%s: %s of %d = %d, %d", reason, name, x, z, code)
				}
			}
		}
		for _, q := range someSquares(t) {
			n, last := byte(q.Order), byte(q.Order-1)
			for _, pair := range [][2]byte{{n, last}, {last, n}, {n, n}, {255, 0}, {0, 255}} {
				if z, code := function(q, pair[0], pair[1]); z != 0 || code != impl.ErrRange {
					t.Errorf("%v: %s of %v = %d, %d", q, name, pair, z, code)
				}
			}
		}
	}
}

func TestRowAndColumnMaps(t *testing.T) {
	for _, q := range someSquares(t) {
		for x := range byte(q.Order) {
			row, code := impl.RowMap(q, x)
			if code != impl.ErrNone || !impl.IsPermutation(row, q.Order) {
				t.Errorf("%v: RowMap(%d) = %v, %d", q, x, row, code)
			}
			column, code := impl.ColumnMap(q, x)
			if code != impl.ErrNone || !impl.IsPermutation(column, q.Order) {
				t.Errorf("%v: ColumnMap(%d) = %v, %d", q, x, column, code)
			}
			for y := range byte(q.Order) {
				if row[y] != q.Table[x][y] || column[y] != q.Table[y][x] {
					t.Errorf("%v: the maps of %d are %v and %v", q, x, row, column)
				}
			}
		}
	}
}

func TestRowAndColumnMapsErrors(t *testing.T) {
	functions := map[string]func(impl.Square, byte) (impl.Places, int64){"RowMap": impl.RowMap, "ColumnMap": impl.ColumnMap}
	for name, function := range functions {
		for reason, q := range noSquares(t) {
			for _, x := range []byte{0, 255} {
				if p, code := function(q, x); p != (impl.Places{}) || code != impl.ErrInvalid {
					t.Errorf("%s: %s(%d) = %v, %d", reason, name, x, p, code)
				}
			}
		}
		for _, q := range someSquares(t) {
			for _, x := range []byte{byte(q.Order), 10, 255} {
				if p, code := function(q, x); p != (impl.Places{}) || code != impl.ErrRange {
					t.Errorf("%v: %s(%d) = %v, %d", q, name, x, p, code)
				}
			}
		}
	}
}

// In a group the row map of y and then that of x are that of x * y.
func TestRowMapsOfGroups(t *testing.T) {
	for _, q := range someSquares(t) {
		kept := true
		for x := range byte(q.Order) {
			for y := range byte(q.Order) {
				rowX, _ := impl.RowMap(q, x)
				rowY, _ := impl.RowMap(q, y)
				product, _ := impl.RowMap(q, q.Table[x][y])
				then, code := impl.ThenPlaces(rowY, rowX, q.Order)
				if code != impl.ErrNone {
					t.Errorf("%v: ThenPlaces: code %d", q, code)
				}
				kept = kept && then == product
			}
		}
		if impl.IsLoop(q) && kept != impl.IsGroup(q) {
			t.Errorf("%v: a group is %v, but its row maps tell %v", q, impl.IsGroup(q), kept)
		}
	}
}

func TestOppositeOf(t *testing.T) {
	for _, q := range someSquares(t) {
		opposite, code := impl.OppositeOf(q)
		if code != impl.ErrNone || !impl.IsSquare(opposite) || opposite.Order != q.Order {
			t.Errorf("OppositeOf(%v) = %v, %d", q, opposite, code)
		}
		for x := range q.Order {
			for y := range q.Order {
				if opposite.Table[x][y] != q.Table[y][x] {
					t.Errorf("%v: its opposite has %d at %d, %d", q, opposite.Table[x][y], x, y)
				}
			}
		}
		if back, code := impl.OppositeOf(opposite); back != q || code != impl.ErrNone {
			t.Errorf("OppositeOf(%v) = %v, %d", opposite, back, code)
		}
	}
	if opposite, _ := impl.OppositeOf(squareOf(t, textOfSubtract)); opposite != squareOf(t, "012/201/120") {
		t.Errorf("the opposite of differences is %v", opposite)
	}
	for reason, q := range noSquares(t) {
		if opposite, code := impl.OppositeOf(q); opposite != (impl.Square{}) || code != impl.ErrInvalid {
			t.Errorf("%s: OppositeOf = %v, %d", reason, opposite, code)
		}
	}
}

func TestCyclicSquare(t *testing.T) {
	texts := []string{"0", "01/10", "012/120/201", "0123/1230/2301/3012"}
	for i, text := range texts {
		if q, code := impl.CyclicSquare(int64(i + 1)); q != squareOf(t, text) || code != impl.ErrNone {
			t.Errorf("CyclicSquare(%d) = %v, %d", i+1, q, code)
		}
	}
	for n := int64(1); n <= impl.MaxOrder; n++ {
		q, code := impl.CyclicSquare(n)
		if code != impl.ErrNone || q.Order != n || !impl.IsGroup(q) {
			t.Errorf("CyclicSquare(%d) = %v, %d", n, q, code)
		}
		for x := range n {
			for y := range n {
				if int64(q.Table[x][y]) != (x+y)%n {
					t.Errorf("order %d: %d * %d = %d", n, x, y, q.Table[x][y])
				}
			}
		}
	}
	for _, n := range badOrders() {
		if q, code := impl.CyclicSquare(n); q != (impl.Square{}) || code != impl.ErrRange {
			t.Errorf("CyclicSquare(%d) = %v, %d", n, q, code)
		}
	}
}

func TestElementarySquare(t *testing.T) {
	texts := []string{"0", "01/10", "0123/1032/2301/3210",
		"01234567/10325476/23016745/32107654/45670123/54761032/67452301/76543210"}
	for k, text := range texts {
		if q, code := impl.ElementarySquare(int64(k)); q != squareOf(t, text) || code != impl.ErrNone || !impl.IsGroup(q) {
			t.Errorf("ElementarySquare(%d) = %v, %d", k, q, code)
		}
	}
	for _, k := range []int64{-1, 4, 5, 63, 64, 1 << 32, math.MaxInt64, math.MinInt64} {
		if q, code := impl.ElementarySquare(k); q != (impl.Square{}) || code != impl.ErrRange {
			t.Errorf("ElementarySquare(%d) = %v, %d", k, q, code)
		}
	}
}

func TestDirectProduct(t *testing.T) {
	cases := []struct{ first, second, product string }{
		{"0", "0", "0"},
		{"01/10", "01/10", "0123/1032/2301/3210"},
		{"01/10", "012/120/201", "012345/120453/201534/345012/453120/534201"},
		{"012/120/201", "01/10", "012345/103254/234501/325410/450123/541032"},
		{textOfLoop5, "0", textOfLoop5},
		{"0", textOfLoop5, textOfLoop5},
		{"10/01", textOfSubtract, "354021/435102/543210/021354/102435/210543"},
	}
	for _, c := range cases {
		product, code := impl.DirectProduct(squareOf(t, c.first), squareOf(t, c.second))
		if product != squareOf(t, c.product) || code != impl.ErrNone {
			t.Errorf("DirectProduct of %s and %s = %v, %d", c.first, c.second, product, code)
		}
	}
}

// The products are checked part by part, for all pairs of squares whose product is small enough.
func TestDirectProductOfPairs(t *testing.T) {
	for _, q := range someSquares(t) {
		for _, r := range someSquares(t) {
			product, code := impl.DirectProduct(q, r)
			if q.Order*r.Order > impl.MaxOrder {
				if product != (impl.Square{}) || code != impl.ErrLimit {
					t.Errorf("orders %d and %d: DirectProduct = %v, %d", q.Order, r.Order, product, code)
				}
				continue
			}
			if code != impl.ErrNone || !impl.IsSquare(product) || product.Order != q.Order*r.Order {
				t.Errorf("orders %d and %d: DirectProduct = %v, %d", q.Order, r.Order, product, code)
			}
			if impl.IsGroup(product) != (impl.IsGroup(q) && impl.IsGroup(r)) {
				t.Errorf("DirectProduct of %v and %v: a group is %v", q, r, impl.IsGroup(product))
			}
			checkParts(t, q, r, product)
		}
	}
}

func checkParts(t *testing.T, q impl.Square, r impl.Square, product impl.Square) {
	t.Helper()
	m := byte(r.Order)
	for a := range byte(product.Order) {
		for b := range byte(product.Order) {
			c := product.Table[a][b]
			if c/m != q.Table[a/m][b/m] || c%m != r.Table[a%m][b%m] {
				t.Errorf("DirectProduct of %v and %v: %d * %d = %d", q, r, a, b, c)
			}
		}
	}
}

func TestDirectProductErrors(t *testing.T) {
	for reason, bad := range noSquares(t) {
		for _, q := range []impl.Square{cyclicOf(t, 1), cyclicOf(t, 10), bad} {
			if product, code := impl.DirectProduct(q, bad); product != (impl.Square{}) || code != impl.ErrInvalid {
				t.Errorf("%s as second: DirectProduct = %v, %d", reason, product, code)
			}
			if product, code := impl.DirectProduct(bad, q); product != (impl.Square{}) || code != impl.ErrInvalid {
				t.Errorf("%s as first: DirectProduct = %v, %d", reason, product, code)
			}
		}
	}
}

// badPlaces returns lists of Places with a number of which they are no permutation.
func badPlaces() map[string]struct {
	Places impl.Places
	Count  int64
} {
	all := impl.Places{0, 1, 2, 3, 4, 5, 6, 7, 8, 9}
	type pair = struct {
		Places impl.Places
		Count  int64
	}
	list := map[string]pair{
		"a number twice":             {impl.Places{0, 1, 1}, 3},
		"0 twice":                    {impl.Places{0, 2, 0}, 3},
		"a number as the count":      {impl.Places{0, 1, 3}, 3},
		"255":                        {impl.Places{0, 1, 255}, 3},
		"a number behind the first":  {impl.Places{0, 1, 2, 3}, 3},
		"a number at the end":        {impl.Places{0, 1, 2, 9: 1}, 3},
		"too few numbers":            {impl.Places{1, 2, 0}, 4},
		"1 alone":                    {impl.Places{1}, 1},
		"ten numbers of nine":        {all, 9},
		"ten numbers with one twice": {impl.Places{0, 1, 2, 3, 4, 5, 6, 7, 8, 8}, 10},
		"ten numbers with a 10":      {impl.Places{0, 1, 2, 3, 4, 5, 6, 7, 8, 10}, 10},
	}
	for _, n := range badOrders() {
		list["the count "+decimal(n)] = pair{impl.Places{}, n}
		list["ten numbers and the count "+decimal(n)] = pair{all, n}
	}
	return list
}

func TestIsPermutation(t *testing.T) {
	good := []struct {
		places impl.Places
		count  int64
	}{
		{impl.Places{}, 1},
		{impl.Places{0, 1}, 2},
		{impl.Places{1, 0}, 2},
		{impl.Places{4, 2, 0, 3, 1}, 5},
		{impl.Places{9, 0, 8, 1, 7, 2, 6, 3, 5, 4}, 10},
	}
	for _, c := range good {
		if !impl.IsPermutation(c.places, c.count) {
			t.Errorf("%v is no permutation of %d", c.places, c.count)
		}
	}
	for reason, c := range badPlaces() {
		if impl.IsPermutation(c.Places, c.Count) {
			t.Errorf("%s: %v is a permutation of %d", reason, c.Places, c.Count)
		}
	}
	found := 0
	for code := range 3125 {
		var p impl.Places
		for x := range 5 {
			p[x] = byte(code % 5)
			code /= 5
		}
		found += countOf(impl.IsPermutation(p, 5))
	}
	if found != 120 {
		t.Errorf("there are %d permutations of five numbers", found)
	}
}

func TestThenAndBackPlaces(t *testing.T) {
	p, q := impl.Places{1, 2, 3, 0}, impl.Places{1, 0, 2, 3}
	if then, code := impl.ThenPlaces(p, q, 4); then != (impl.Places{0, 2, 3, 1}) || code != impl.ErrNone {
		t.Errorf("p then q = %v, %d", then, code)
	}
	if then, code := impl.ThenPlaces(q, p, 4); then != (impl.Places{2, 1, 3, 0}) || code != impl.ErrNone {
		t.Errorf("q then p = %v, %d", then, code)
	}
	if back, code := impl.BackPlaces(p, 4); back != (impl.Places{3, 0, 1, 2}) || code != impl.ErrNone {
		t.Errorf("BackPlaces = %v, %d", back, code)
	}
	if then, code := impl.ThenPlaces(impl.Places{}, impl.Places{}, 1); then != (impl.Places{}) || code != impl.ErrNone {
		t.Errorf("ThenPlaces of one number = %v, %d", then, code)
	}
	if back, code := impl.BackPlaces(impl.Places{}, 1); back != (impl.Places{}) || code != impl.ErrNone {
		t.Errorf("BackPlaces of one number = %v, %d", back, code)
	}
	ten := impl.Places{9, 0, 8, 1, 7, 2, 6, 3, 5, 4}
	if back, code := impl.BackPlaces(ten, 10); back != (impl.Places{1, 3, 5, 7, 9, 8, 6, 4, 2, 0}) || code != impl.ErrNone {
		t.Errorf("BackPlaces of ten numbers = %v, %d", back, code)
	}
	if then, code := impl.ThenPlaces(ten, ten, 10); then != (impl.Places{4, 9, 5, 0, 3, 8, 6, 1, 2, 7}) || code != impl.ErrNone {
		t.Errorf("ThenPlaces of ten numbers = %v, %d", then, code)
	}
}

func TestPlacesOfAllOrderings(t *testing.T) {
	for n := 1; n <= 5; n++ {
		var unchanged impl.Places
		for x := range n {
			unchanged[x] = byte(x)
		}
		even, all := 0, 0
		orderings(n, func(list []byte) {
			p, count := placesOf(list), int64(n)
			back, _ := impl.BackPlaces(p, count)
			if then, code := impl.ThenPlaces(p, back, count); then != unchanged || code != impl.ErrNone {
				t.Errorf("%v then %v = %v, %d", p, back, then, code)
			}
			if then, code := impl.ThenPlaces(back, p, count); then != unchanged || code != impl.ErrNone {
				t.Errorf("%v then %v = %v, %d", back, p, then, code)
			}
			sign, code := impl.SignOfPlaces(p, count)
			if code != impl.ErrNone || sign != 1 && sign != -1 {
				t.Errorf("SignOfPlaces(%v) = %d, %d", p, sign, code)
			}
			all++
			even += countOf(sign == 1)
			checkSignsOfExchanges(t, p, n, sign)
		})
		if n > 1 && 2*even != all {
			t.Errorf("%d of %d permutations of %d numbers are even", even, all, n)
		}
	}
}

// checkSignsOfExchanges checks that each exchange behind a permutation changes its sign.
func checkSignsOfExchanges(t *testing.T, p impl.Places, n int, sign int64) {
	t.Helper()
	for x := range n {
		for y := range x {
			changed := p
			changed[x], changed[y] = p[y], p[x]
			if other, code := impl.SignOfPlaces(changed, int64(n)); other != -sign || code != impl.ErrNone {
				t.Errorf("SignOfPlaces(%v) = %d, %d", changed, other, code)
			}
		}
	}
}

func TestSignOfPlaces(t *testing.T) {
	cases := []struct {
		places impl.Places
		count  int64
		sign   int64
	}{
		{impl.Places{}, 1, 1},
		{impl.Places{0, 1}, 2, 1},
		{impl.Places{1, 0}, 2, -1},
		{impl.Places{1, 2, 0}, 3, 1},
		{impl.Places{2, 1, 0}, 3, -1},
		{impl.Places{1, 0, 3, 2}, 4, 1},
		{impl.Places{1, 2, 3, 0}, 4, -1},
		{impl.Places{1, 2, 3, 4, 5, 6, 7, 8, 0}, 9, 1},
		{impl.Places{1, 2, 3, 4, 5, 6, 7, 8, 9, 0}, 10, -1},
		{impl.Places{0, 1, 2, 3, 4, 5, 6, 7, 8, 9}, 10, 1},
	}
	for _, c := range cases {
		if sign, code := impl.SignOfPlaces(c.places, c.count); sign != c.sign || code != impl.ErrNone {
			t.Errorf("SignOfPlaces(%v, %d) = %d, %d", c.places, c.count, sign, code)
		}
	}
}

func TestPlacesErrors(t *testing.T) {
	for reason, c := range badPlaces() {
		good := impl.Places{}
		for x := range min(max(c.Count, 0), impl.MaxOrder) {
			good[x] = byte(x)
		}
		if p, code := impl.ThenPlaces(c.Places, good, c.Count); p != (impl.Places{}) || code != impl.ErrInvalid {
			t.Errorf("%s as first: ThenPlaces = %v, %d", reason, p, code)
		}
		if p, code := impl.ThenPlaces(good, c.Places, c.Count); p != (impl.Places{}) || code != impl.ErrInvalid {
			t.Errorf("%s as second: ThenPlaces = %v, %d", reason, p, code)
		}
		if p, code := impl.BackPlaces(c.Places, c.Count); p != (impl.Places{}) || code != impl.ErrInvalid {
			t.Errorf("%s: BackPlaces = %v, %d", reason, p, code)
		}
		if sign, code := impl.SignOfPlaces(c.Places, c.Count); sign != 0 || code != impl.ErrInvalid {
			t.Errorf("%s: SignOfPlaces = %d, %d", reason, sign, code)
		}
	}
}

func TestSquareText(t *testing.T) {
	cases := []struct {
		square impl.Square
		text   string
	}{
		{impl.Square{Order: 1}, "0"},
		{cyclicOf(t, 2), "01/10"},
		{subtractOf(3), textOfSubtract},
		{cyclicOf(t, 10), "0123456789/1234567890/2345678901/3456789012/4567890123/5678901234/6789012345/7890123456/8901234567/9012345678"},
	}
	for _, c := range cases {
		if text, code := impl.SquareText(c.square); text != c.text || code != impl.ErrNone {
			t.Errorf("SquareText = %q, %d", text, code)
		}
		if q, code := impl.ParseSquare(c.text); q != c.square || code != impl.ErrNone {
			t.Errorf("ParseSquare(%q) = %v, %d", c.text, q, code)
		}
	}
	for reason, q := range noSquares(t) {
		if text, code := impl.SquareText(q); text != "" || code != impl.ErrInvalid {
			t.Errorf("%s: SquareText = %q, %d", reason, text, code)
		}
	}
}

func TestSquaresComeBackFromTheirTexts(t *testing.T) {
	for _, q := range someSquares(t) {
		text, code := impl.SquareText(q)
		if code != impl.ErrNone {
			t.Errorf("SquareText(%v): code %d", q, code)
		}
		if back, code := impl.ParseSquare(text); back != q || code != impl.ErrNone {
			t.Errorf("ParseSquare(%q) = %v, %d", text, back, code)
		}
	}
}

func TestParseSquareErrors(t *testing.T) {
	ten, _ := impl.SquareText(cyclicOf(t, 10))
	texts := []string{
		"", "/", "1", "a", "00", "0/", "/0", "0/0", " 0", "0 ", "0\n", "\x00", "٠",
		"01", "01/", "/01", "01/1", "1/01", "01//10", "01/10/", "/01/10", "01/10/01", "01\\10", "01/10\n", "01 /10", "0110",
		"01/01", "00/11", "01/12", "02/20", "0:/:0", "0a/a0", "-1/10", "0/1/1/0", "0,1/1,0", "01/1\xb0", "01/1\u0660",
		"012/120/210", "012/120", "012/120/201/", "0123/1230/2301", "/////////", strings.Repeat("/", 10), strings.Repeat("0", 10),
		ten + "/", ten + "0", ten[:len(ten)-1], ten[:len(ten)-11], ten + "/0123456789", strings.Replace(ten, "9", ":", -1),
		"0123456789a/123456789a0/23456789a01/3456789a012/456789a0123/56789a01234/6789a012345/789a0123456/89a01234567/9a012345678/a0123456789",
		"0123456789:/123456789:0/23456789:01/3456789:012/456789:0123/56789:01234/6789:012345/789:0123456/89:01234567/9:012345678/:0123456789",
		strings.Repeat("0/", 1000), strings.Repeat("0", 100000), strings.Repeat("0123456789/", 10000),
	}
	for _, text := range texts {
		if q, code := impl.ParseSquare(text); q != (impl.Square{}) || code != impl.ErrSyntax {
			t.Errorf("ParseSquare(%.200q) = %v, %d", text, q, code)
		}
	}
}

// Whatever one byte of a text becomes, the result is an error or the square with just this text.
func TestParseSquareAfterOneChange(t *testing.T) {
	for _, text := range []string{textOfOne, "01/10", textOfLoop5, textOfTurns3} {
		for place := range len(text) {
			for other := range 256 {
				changed := text[:place] + string([]byte{byte(other)}) + text[place+1:]
				q, code := impl.ParseSquare(changed)
				if changed == text {
					continue
				}
				if q != (impl.Square{}) || code != impl.ErrSyntax {
					t.Errorf("ParseSquare(%q) = %v, %d", changed, q, code)
				}
			}
		}
	}
}
