package impl

import "strings"

type Table [10][10]byte

type Places [10]byte

// The error codes of all chapters.
const (
	ErrNone = iota
	ErrInvalid
	ErrRange
	ErrLimit
	ErrNotFound
	ErrState
	ErrSyntax
)

const MaxOrder = 10

// Square is described in chapter 1.
type Square struct {
	Order int64
	Table Table
}

// isOrder reports whether n is in 1..MaxOrder.
func isOrder(n int64) bool {
	return 1 <= n && n <= MaxOrder
}

// cornerOf returns q without what stands outside of its first rows and columns, so that comparing
// both tells whether there is something. The order has to be in 1..MaxOrder.
func cornerOf(q Square) Square {
	corner := Square{Order: q.Order}
	for x := range q.Order {
		copy(corner.Table[x][:q.Order], q.Table[x][:])
	}
	return corner
}

// columnOf returns the column y of a table from the top to the bottom.
func columnOf(table Table, y int64) Places {
	column := make([]byte, 0, MaxOrder)
	for _, row := range table {
		column = append(column, row[y])
	}
	return Places(column)
}

// elementCode returns the code with which a function of a square and elements of it has to end.
// That something is no square goes before that something is no element of it.
func elementCode(q Square, elements ...byte) int64 {
	if !IsSquare(q) {
		return ErrInvalid
	}
	for _, x := range elements {
		if int64(x) >= q.Order {
			return ErrRange
		}
	}
	return ErrNone
}

// IsSquare reports whether q is a square.
func IsSquare(q Square) bool {
	if !isOrder(q.Order) || q != cornerOf(q) {
		return false
	}
	for x := range q.Order {
		row, column := Places(q.Table[x][:]), columnOf(q.Table, x)
		if !IsPermutation(row, q.Order) || !IsPermutation(column, q.Order) {
			return false
		}
	}
	return true
}

// IsLoop reports whether q is a loop.
func IsLoop(q Square) bool {
	if !IsSquare(q) {
		return false
	}
	for x := range q.Order {
		if int64(q.Table[0][x]) != x || int64(q.Table[x][0]) != x {
			return false
		}
	}
	return true
}

// IsGroup reports whether q is a group.
func IsGroup(q Square) bool {
	if !IsLoop(q) {
		return false
	}
	for x := range q.Order {
		for y := range q.Order {
			for z := range q.Order {
				if q.Table[q.Table[x][y]][z] != q.Table[x][q.Table[y][z]] {
					return false
				}
			}
		}
	}
	return true
}

// SquareOfLists returns the square with some rows, and ErrNone. Errors: ErrRange if there are not
// 1 to MaxOrder lists of as many numbers as there are lists, in 0..n - 1; ErrState if they make no
// square. (ErrInvalid is not returned.)
func SquareOfLists(lists [][]int64) (Square, int64) {
	n := int64(len(lists))
	if !isOrder(n) {
		return Square{}, ErrRange
	}
	q := Square{Order: n}
	for x, list := range lists {
		if int64(len(list)) != n {
			return Square{}, ErrRange
		}
		for y, z := range list {
			if z < 0 || z >= n {
				return Square{}, ErrRange
			}
			q.Table[x][y] = byte(z)
		}
	}
	if !IsSquare(q) {
		return Square{}, ErrState
	}
	return q, ErrNone
}

// rowListsOf returns the first rows of the table of q as lists.
func rowListsOf(q Square) [][]int64 {
	lists := make([][]int64, 0, q.Order)
	for _, row := range q.Table[:q.Order] {
		list := make([]int64, 0, q.Order)
		for _, z := range row[:q.Order] {
			list = append(list, int64(z))
		}
		lists = append(lists, list)
	}
	return lists
}

// ListsOfSquare returns the rows of q, and ErrNone.
func ListsOfSquare(q Square) ([][]int64, int64) {
	if !IsSquare(q) {
		return nil, ErrInvalid
	}
	return rowListsOf(q), ErrNone
}

// ProductIn returns x * y, and ErrNone.
func ProductIn(q Square, x byte, y byte) (byte, int64) {
	if code := elementCode(q, x, y); code != ErrNone {
		return 0, code
	}
	return q.Table[x][y], ErrNone
}

// LeftQuotient returns x \ z, and ErrNone.
func LeftQuotient(q Square, x byte, z byte) (byte, int64) {
	if code := elementCode(q, x, z); code != ErrNone {
		return 0, code
	}
	return backOf(q.Table[x], q.Order)[z], ErrNone
}

// RightQuotient returns z / y, and ErrNone.
func RightQuotient(q Square, z byte, y byte) (byte, int64) {
	if code := elementCode(q, z, y); code != ErrNone {
		return 0, code
	}
	return backOf(columnOf(q.Table, int64(y)), q.Order)[z], ErrNone
}

// RowMap returns the row map of x, and ErrNone.
func RowMap(q Square, x byte) (Places, int64) {
	if code := elementCode(q, x); code != ErrNone {
		return Places{}, code
	}
	return Places(q.Table[x][:]), ErrNone
}

// ColumnMap returns the column map of y, and ErrNone.
func ColumnMap(q Square, y byte) (Places, int64) {
	if code := elementCode(q, y); code != ErrNone {
		return Places{}, code
	}
	return columnOf(q.Table, int64(y)), ErrNone
}

// OppositeOf returns the square with y * x of q as x * y, and ErrNone.
func OppositeOf(q Square) (Square, int64) {
	if !IsSquare(q) {
		return Square{}, ErrInvalid
	}
	opposite := Square{Order: q.Order}
	for x := range q.Order {
		opposite.Table[x] = columnOf(q.Table, x)
	}
	return opposite, ErrNone
}

// CyclicSquare returns the square of order n, in 1..MaxOrder, with the remainder of x + y by n as
// x * y, and ErrNone. (ErrInvalid is not returned.)
func CyclicSquare(n int64) (Square, int64) {
	if !isOrder(n) {
		return Square{}, ErrRange
	}
	q := Square{Order: n}
	for x := range n {
		for y := range n {
			q.Table[x][y] = byte((x + y) % n)
		}
	}
	return q, ErrNone
}

// ElementarySquare returns the square of order 2^k, k in 0..3, with the exclusive or of x and y as
// x * y, and ErrNone. (ErrInvalid is not returned.)
func ElementarySquare(k int64) (Square, int64) {
	if k < 0 || k > 3 {
		return Square{}, ErrRange
	}
	n := int64(1) << k
	q := Square{Order: n}
	for x := range n {
		for y := range n {
			q.Table[x][y] = byte(x ^ y)
		}
	}
	return q, ErrNone
}

// DirectProduct returns the square of the pairs of an element x of q and y of r, as m x + y for
// the order m of r, with products part by part, and ErrNone. Errors: ErrLimit if its order would
// be greater than MaxOrder.
func DirectProduct(q Square, r Square) (Square, int64) {
	if !IsSquare(q) || !IsSquare(r) {
		return Square{}, ErrInvalid
	}
	m := r.Order
	n := q.Order * m
	if n > MaxOrder {
		return Square{}, ErrLimit
	}
	product := Square{Order: n}
	for a := range n {
		for b := range n {
			first, second := q.Table[a/m][b/m], r.Table[a%m][b%m]
			product.Table[a][b] = byte(m)*first + second
		}
	}
	return product, ErrNone
}

// IsPermutation reports whether n is in 1..MaxOrder, and p is a permutation of n numbers.
func IsPermutation(p Places, n int64) bool {
	if !isOrder(n) {
		return false
	}
	var met [MaxOrder]bool
	for _, to := range p[:n] {
		if int64(to) >= n || met[to] {
			return false
		}
		met[to] = true
	}
	for _, rest := range p[n:] {
		if rest != 0 {
			return false
		}
	}
	return true
}

// thenOf returns p then q for permutations of n numbers.
func thenOf(p Places, q Places, n int64) Places {
	var then Places
	for x, to := range p[:n] {
		then[x] = q[to]
	}
	return then
}

// backOf returns what leads back a permutation of n numbers.
func backOf(p Places, n int64) Places {
	var back Places
	for x, to := range p[:n] {
		back[to] = byte(x)
	}
	return back
}

// ThenPlaces returns p then q, for permutations of n numbers, and ErrNone. Errors: ErrInvalid also
// if n is not in 1..MaxOrder. (ErrRange is not returned.)
func ThenPlaces(p Places, q Places, n int64) (Places, int64) {
	if !IsPermutation(p, n) || !IsPermutation(q, n) {
		return Places{}, ErrInvalid
	}
	return thenOf(p, q, n), ErrNone
}

// BackPlaces returns the permutation of n numbers that leads back what p has led, and ErrNone.
// Errors: as for ThenPlaces.
func BackPlaces(p Places, n int64) (Places, int64) {
	if !IsPermutation(p, n) {
		return Places{}, ErrInvalid
	}
	return backOf(p, n), ErrNone
}

// SignOfPlaces returns the sign of a permutation of n numbers, and ErrNone. Errors: as for
// ThenPlaces.
func SignOfPlaces(p Places, n int64) (int64, int64) {
	if !IsPermutation(p, n) {
		return 0, ErrInvalid
	}
	// An exchange of two numbers always changes whether the number of pairs in the wrong order is even.
	sign := int64(1)
	for x, to := range p[:n] {
		for _, before := range p[:x] {
			if before > to {
				sign = -sign
			}
		}
	}
	return sign, ErrNone
}

// SquareText returns the text of q, and ErrNone.
func SquareText(q Square) (string, int64) {
	if !IsSquare(q) {
		return "", ErrInvalid
	}
	var text strings.Builder
	for x, row := range q.Table[:q.Order] {
		if x > 0 {
			text.WriteByte('/')
		}
		for _, z := range row[:q.Order] {
			text.WriteByte('0' + z)
		}
	}
	return text.String(), ErrNone
}

// ParseSquare returns the square with a text, and ErrNone. Errors: ErrSyntax if there is none. (No
// other errors are returned.)
func ParseSquare(text string) (Square, int64) {
	// One row too many is enough to tell that there is no square, however long the text is.
	rows := strings.SplitN(text, "/", MaxOrder+1)
	if len(rows) > MaxOrder {
		return Square{}, ErrSyntax
	}
	q := Square{Order: int64(len(rows))}
	for x, row := range rows {
		if len(row) != len(rows) {
			return Square{}, ErrSyntax
		}
		for y := range len(row) {
			// No byte but a digit comes to less than the order, so that IsSquare refuses the others.
			q.Table[x][y] = row[y] - '0'
		}
	}
	if !IsSquare(q) {
		return Square{}, ErrSyntax
	}
	return q, ErrNone
}
