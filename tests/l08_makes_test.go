package tests

import (
	"math"
	"slices"
	"strings"
	"testing"

	"loop.example/g01195/impl"
)

// The text of the loop of the plane of seven points.
const textOfFano = "01234567/10472653/24051376/37506241/42160735/56327014/65743102/73615420"

// countedGroup is a group with the number of its normal orthomorphisms.
type countedGroup struct {
	group impl.Square
	count int
}

// countedGroups returns all groups up to isomorphism.
func countedGroups(t *testing.T) []countedGroup {
	t.Helper()
	list := []countedGroup{
		{elementaryOf(t, 2), 2},
		{groupOfTurns(3), 0},
		{elementaryOf(t, 3), 48},
		{productOf(t, cyclicOf(t, 4), cyclicOf(t, 2)), 48},
		{squareOf(t, textOfTurns4), 48},
		{squareOf(t, textOfQuarters), 48},
		{productOf(t, cyclicOf(t, 3), cyclicOf(t, 3)), 249},
		{groupOfTurns(5), 0},
	}
	for k, count := range []int{1, 0, 1, 0, 3, 0, 19, 0, 225, 0} {
		list = append(list, countedGroup{cyclicOf(t, int64(k+1)), count})
	}
	return list
}

// manyGroups returns groups of all kinds of orders of at most most, with their elements in several orders.
func manyGroups(t *testing.T, most int64) []impl.Square {
	t.Helper()
	var list []impl.Square
	for _, c := range countedGroups(t) {
		if c.group.Order > most {
			continue
		}
		for _, p := range somePlaces(c.group.Order) {
			p[slices.Index(p[:c.group.Order], 0)], p[0] = p[0], 0
			list = append(list, isotopeOf(t, c.group, thrice(p)))
		}
	}
	return list
}

// inverseIn returns the element x' of a group with x' * x = 0.
func inverseIn(g impl.Square, x byte) byte {
	return elementWith(g, func(y byte) bool { return g.Table[y][x] == 0 })
}

// elementWith returns the first element of q for which something holds.
func elementWith(q impl.Square, holds func(y byte) bool) byte {
	return byte(elementsThat(q, holds)[0])
}

// eachNoGroup calls each with what is no square, and with squares that are no groups, and tells the code.
func eachNoGroup(t *testing.T, each func(q impl.Square, code int64)) {
	t.Helper()
	eachNoLoop(t, func(_ string, q impl.Square) {
		code := int64(impl.ErrState)
		if !impl.IsSquare(q) {
			code = impl.ErrInvalid
		}
		each(q, code)
	})
	eachLoop(t, func(q impl.Square) {
		if !impl.IsGroup(q) {
			each(q, impl.ErrState)
		}
	})
}

// doubleByHand returns the double of a group by its definition.
func doubleByHand(g impl.Square) impl.Square {
	n := byte(g.Order)
	double := impl.Square{Order: 2 * g.Order}
	for x := range n {
		for y := range n {
			back := inverseIn(g, y)
			double.Table[x][y] = g.Table[x][y]
			double.Table[x][n+y] = n + g.Table[y][x]
			double.Table[n+x][y] = n + g.Table[x][back]
			double.Table[n+x][n+y] = g.Table[back][x]
		}
	}
	return double
}

// eachSmallGroup calls each with all groups of orders of at most 5.
func eachSmallGroup(each func(g impl.Square)) {
	for n := 1; n <= 5; n++ {
		allLoops(n, func(q impl.Square) {
			if impl.IsGroup(q) {
				each(q)
			}
		})
	}
}

// Promise 8: doubles are groups.
func TestDoublesAreGroups(t *testing.T) {
	count := 0
	eachSmallGroup(func(g impl.Square) {
		count++
		double, code := impl.DoubleOfGroup(g)
		if double != doubleByHand(g) || !impl.IsGroup(double) || double.Order != 2*g.Order || code != impl.ErrNone {
			t.Errorf("DoubleOfGroup(%v) = %v, %d", g, double, code)
		}
		// The group is one half of its double, and the other half has elements of order 2 alone.
		half := numbersTo(g.Order)
		normal, code := impl.IsNormalSubloop(double, half)
		if partOf(double, half) != g || !normal || code != impl.ErrNone {
			t.Errorf("%v is no half of %v", g, double)
		}
		for x := byte(g.Order); x < byte(double.Order); x++ {
			if order, code := impl.OrderOf(double, x); order != 2 || code != impl.ErrNone {
				t.Errorf("DoubleOfGroup(%v) = %v: the order of %d is %d", g, double, x, order)
			}
		}
	})
	// One of each of the orders 1, 2 and 3, four of order 4, and six of order 5.
	if count != 13 {
		t.Errorf("%d groups", count)
	}
}

func TestDoublesOfExamples(t *testing.T) {
	cases := []struct{ group, double string }{
		{textOfOne, "01/10"},
		{"01/10", "0123/1032/2301/3210"},
		{"012/120/201", textOfTurns3},
		{"0123/1230/2301/3012", textOfTurns4},
		{"0123/1032/2301/3210", "01234567/10325476/23016745/32107654/45670123/54761032/67452301/76543210"},
		{"01234/12340/23401/34012/40123", "0123456789/1234067895/2340178956/3401289567/4012395678/5987604321/6598710432/7659821043/8765932104/9876543210"},
	}
	for _, c := range cases {
		double, code := impl.DoubleOfGroup(squareOf(t, c.group))
		if double != squareOf(t, c.double) || code != impl.ErrNone {
			t.Errorf("DoubleOfGroup(%s) = %v, %d", c.group, double, code)
		}
	}
}

// Doubles of cyclic groups are those of turns and flips, whichever numbers their elements have.
func TestDoublesOfKnownGroups(t *testing.T) {
	for _, g := range manyGroups(t, 5) {
		want := groupOfTurns(g.Order)
		if order, _ := impl.ExponentOf(g); order < g.Order {
			want = elementaryOf(t, 3)
		}
		double, a := impl.DoubleOfGroup(g)
		if _, b := impl.IsomorphismOf(double, want); a != impl.ErrNone || b != impl.ErrNone {
			t.Errorf("DoubleOfGroup(%v) = %v, %d, which is not alike %v", g, double, a, want)
		}
	}
}

func TestDoublesErrors(t *testing.T) {
	check := func(q impl.Square, want int64) {
		if double, code := impl.DoubleOfGroup(q); double != (impl.Square{}) || code != want {
			t.Errorf("DoubleOfGroup(%v) = %v, %d", q, double, code)
		}
	}
	// That a square is no group goes before that it is too large.
	eachNoGroup(t, check)
	for _, g := range manyGroups(t, impl.MaxOrder) {
		if g.Order > 5 {
			check(g, impl.ErrLimit)
		}
	}
}

// eachSystem calls each with all triple systems on v points: the first two points that are not together
// yet come together with a third one, in all ways.
func eachSystem(v int64, each func(triples [][]int64)) {
	var together [impl.MaxOrder][impl.MaxOrder]bool
	var triples [][]int64
	join := func(a int64, b int64, c int64, joined bool) {
		together[a][b], together[a][c], together[b][c] = joined, joined, joined
	}
	var extend func()
	extend = func() {
		for a := range v {
			for b := a + 1; b < v; b++ {
				if together[a][b] {
					continue
				}
				for c := b + 1; c < v; c++ {
					if !together[a][c] && !together[b][c] {
						join(a, b, c, true)
						triples = append(triples, []int64{a, b, c})
						extend()
						triples = triples[:len(triples)-1]
						join(a, b, c, false)
					}
				}
				return
			}
		}
		each(slices.Clone(triples))
	}
	extend()
}

// systemCounts are the numbers of the triple systems on 0 to 9 points.
func systemCounts() []int { return []int{0, 1, 0, 1, 0, 0, 0, 30, 0, 840} }

// eachOfAllSystems calls each with all triple systems.
func eachOfAllSystems(t *testing.T, each func(v int64, triples [][]int64)) {
	t.Helper()
	for v := int64(1); v <= 9; v++ {
		count := 0
		eachSystem(v, func(triples [][]int64) {
			count++
			each(v, triples)
		})
		if count != systemCounts()[v] {
			t.Errorf("%d triple systems on %d points", count, v)
		}
	}
}

// isSystemByHand tells by the definition whether triples are a triple system on v points.
func isSystemByHand(v int64, triples [][]int64) bool {
	if v < 1 || v > 9 {
		return false
	}
	for k, triple := range triples {
		if len(triple) != 3 || triple[0] >= triple[1] || triple[1] >= triple[2] || triple[0] < 0 || triple[2] >= v {
			return false
		}
		if k > 0 && slices.Compare(triples[k-1], triple) >= 0 {
			return false
		}
	}
	for x := range v {
		for y := range x {
			count := 0
			for _, triple := range triples {
				count += countOf(slices.Contains(triple, x) && slices.Contains(triple, y))
			}
			if count != 1 {
				return false
			}
		}
	}
	return true
}

// checkSystem checks by hand whether triples are a triple system, and what the functions of one return if they
// are none.
func checkSystem(t *testing.T, v int64, triples [][]int64) bool {
	t.Helper()
	yes := isSystemByHand(v, triples)
	if is := impl.IsTripleSystem(v, triples); is != yes {
		t.Errorf("IsTripleSystem(%d, %v) = %v", v, triples, is)
	}
	if yes {
		return true
	}
	if q, code := impl.TripleSquare(v, triples); q != (impl.Square{}) || code != impl.ErrInvalid {
		t.Errorf("TripleSquare(%d, %v) = %v, %d", v, triples, q, code)
	}
	if q, code := impl.TripleLoop(v, triples); q != (impl.Square{}) || code != impl.ErrInvalid {
		t.Errorf("TripleLoop(%d, %v) = %v, %d", v, triples, q, code)
	}
	return false
}

func TestTripleSystemsOfExamples(t *testing.T) {
	plane7 := [][]int64{{0, 1, 3}, {0, 2, 6}, {0, 4, 5}, {1, 2, 4}, {1, 5, 6}, {2, 3, 5}, {3, 4, 6}}
	none13 := [][]int64{}
	for x := range int64(13) {
		for _, triple := range [][]int64{{x, (x + 1) % 13, (x + 4) % 13}, {x, (x + 2) % 13, (x + 7) % 13}} {
			slices.Sort(triple)
			none13 = append(none13, triple)
		}
	}
	slices.SortFunc(none13, slices.Compare[[]int64])
	cases := []struct {
		v       int64
		triples [][]int64
		want    bool
	}{
		{3, [][]int64{{0, 1, 2}}, true},
		{1, nil, true},
		{1, [][]int64{}, true},
		{7, plane7, true},
		{0, nil, false},
		{2, nil, false},
		{3, nil, false},
		{1, [][]int64{{0, 0, 0}}, false},
		{1, [][]int64{nil}, false},
		{2, [][]int64{{0, 1}}, false},
		{2, [][]int64{{0, 0, 1}}, false},
		{2, [][]int64{{0, 1, 1}}, false},
		{3, [][]int64{{0, 1}, {0, 2}, {1, 2}}, false},
		{3, [][]int64{{0, 2, 1}}, false},
		{3, [][]int64{{1, 2, 3}}, false},
		{3, [][]int64{{0, 1, 2}, {0, 1, 2}}, false},
		{4, [][]int64{{0, 1, 2, 3}}, false},
		{6, [][]int64{{0, 1, 2}, {3, 4, 5}}, false},
		{7, plane7[:6], false},
		{8, plane7, false},
		{13, none13, false},
	}
	for _, c := range cases {
		if is := impl.IsTripleSystem(c.v, c.triples); is != c.want || checkSystem(t, c.v, c.triples) != c.want {
			t.Errorf("IsTripleSystem(%d, %v) = %v", c.v, c.triples, is)
		}
	}
}

// All lists of triples that ascend are looked at for few points, whichever of these have to be together.
func TestTripleSystemsOfFewPoints(t *testing.T) {
	var triples [][]int64
	for _, set := range setsOf(5, 3, false) {
		triples = append(triples, numbersIn(set))
	}
	slices.SortFunc(triples, slices.Compare[[]int64])
	count := 0
	for chosen := range uint(1) << len(triples) {
		var list [][]int64
		for _, k := range numbersIn(chosen) {
			list = append(list, triples[k])
		}
		for v := int64(-1); v <= 11; v++ {
			count += countOf(checkSystem(t, v, list))
		}
	}
	if count != 2 {
		t.Errorf("%d triple systems on at most 5 points", count)
	}
}

// changedSystems returns triple systems on v points with one change each, most of which make them none.
func changedSystems(v int64, triples [][]int64) [][][]int64 {
	var list [][][]int64
	copied := func() [][]int64 {
		var lists [][]int64
		for _, triple := range triples {
			lists = append(lists, slices.Clone(triple))
		}
		return lists
	}
	put := func(k int, triple ...int64) {
		changed := copied()
		changed[k] = triple
		list = append(list, changed)
	}
	for k, triple := range triples {
		a, b, c := triple[0], triple[1], triple[2]
		list = append(list, slices.Delete(copied(), k, k+1), slices.Insert(copied(), k, slices.Clone(triple)))
		list = append(list, append(copied(), slices.Clone(triple)))
		if k > 0 {
			swapped := copied()
			swapped[k-1], swapped[k] = swapped[k], swapped[k-1]
			list = append(list, swapped)
		}
		put(k, a, c, b)
		put(k, b, a, c)
		put(k, c, b, a)
		put(k)
		put(k, a)
		put(k, a, b)
		put(k, a, b, c, c)
		put(k, a, b, c, c+1)
		put(k, -1, a, b, c)
		for _, x := range []int64{math.MinInt64, -1, 0, 1, 2, 3, 4, 5, 6, 7, 8, 9, 10, a + 256, b + 256, c + 256, c + 1<<32, math.MaxInt64} {
			put(k, x, b, c)
			put(k, a, x, c)
			put(k, a, b, x)
		}
	}
	return list
}

func TestTripleSystemsAfterOneChange(t *testing.T) {
	count := 0
	eachOfAllSystems(t, func(v int64, triples [][]int64) {
		if count++; v > 7 && count%70 > 0 {
			return
		}
		for _, other := range []int64{math.MinInt64, -1, 0, 1, 2, 3, 4, 5, 6, 7, 8, 9, 10, 11, v + 256, v + 1<<32, math.MaxInt64} {
			if checkSystem(t, other, triples) != (other == v) {
				t.Errorf("%v is a triple system on %d points", triples, other)
			}
		}
		checkSystem(t, v, append(slices.Clone(triples), nil))
		checkSystem(t, v, append(slices.Clone(triples), []int64{v - 1, v, v + 1}))
		checkSystem(t, v, slices.Insert(slices.Clone(triples), 0, []int64{-3, -2, -1}))
		for _, changed := range changedSystems(v, triples) {
			same := sameLists(changed, triples)
			if checkSystem(t, v, changed) != same {
				t.Errorf("%v is told by hand to be no triple system on %d points: %v", changed, v, same)
			}
		}
	})
}

// systemByHand returns the square and the loop of a triple system by their definitions.
func systemByHand(v int64, triples [][]int64) (impl.Square, impl.Square) {
	square, loop := impl.Square{Order: v}, impl.Square{Order: v + 1}
	for x := range v {
		square.Table[x][x] = byte(x)
		loop.Table[0][x+1], loop.Table[x+1][0] = byte(x+1), byte(x+1)
	}
	for _, triple := range triples {
		for i, x := range triple {
			for j, y := range triple {
				if i != j {
					third := byte(triple[3-i-j])
					square.Table[x][y] = third
					loop.Table[x+1][y+1] = third + 1
				}
			}
		}
	}
	return square, loop
}

// Promise 8: triple systems come back from their loops.
func TestTripleSystemsComeBack(t *testing.T) {
	eachOfAllSystems(t, func(v int64, triples [][]int64) {
		if !impl.IsTripleSystem(v, triples) || !isSystemByHand(v, triples) {
			t.Errorf("IsTripleSystem(%d, %v) is false", v, triples)
		}
		wantSquare, wantLoop := systemByHand(v, triples)
		square, a := impl.TripleSquare(v, triples)
		loop, b := impl.TripleLoop(v, triples)
		back, c := impl.TriplesOfLoop(loop)
		if square != wantSquare || loop != wantLoop || !sameLists(back, triples) || max(a, b, c) != impl.ErrNone {
			t.Errorf("%v: TripleSquare = %v, %d, TripleLoop = %v, %d, and TriplesOfLoop = %v, %d", triples, square, a, loop, b, back, c)
		}
	})
}

// The squares of triple systems are idempotent, and have all symmetries; the loops are commutative with 0 as
// square of each element, and have all symmetries, too.
func TestSquaresAndLoopsOfTripleSystems(t *testing.T) {
	eachOfAllSystems(t, func(v int64, triples [][]int64) {
		square, _ := impl.TripleSquare(v, triples)
		loop, _ := impl.TripleLoop(v, triples)
		idempotent, a := impl.IsIdempotent(square)
		all, b := impl.SymmetriesOf(square)
		if !idempotent || len(all) != 6 || max(a, b) != impl.ErrNone {
			t.Errorf("TripleSquare(%d, %v) = %v", v, triples, square)
		}
		unipotent, c := impl.IsUnipotent(loop)
		both, d := impl.SymmetriesOf(loop)
		if !impl.IsLoop(loop) || !unipotent || len(both) != 6 || !has(heldByHand(loop), 16, 18, 19) || max(c, d) != impl.ErrNone {
			t.Errorf("TripleLoop(%d, %v) = %v", v, triples, loop)
		}
		known := map[int64]impl.Square{1: elementaryOf(t, 1), 3: elementaryOf(t, 2), 7: elementaryOf(t, 3), 9: steinerOf10()}[v]
		if _, code := impl.IsomorphismOf(loop, known); code != impl.ErrNone {
			t.Errorf("TripleLoop(%d, %v) = %v is not alike %v", v, triples, loop, known)
		}
	})
}

func TestTripleLoopsOfExamples(t *testing.T) {
	cases := []struct {
		triples      [][]int64
		square, loop string
	}{
		{nil, textOfOne, "01/10"},
		{[][]int64{{0, 1, 2}}, "021/210/102", "0123/1032/2301/3210"},
		{
			[][]int64{{0, 1, 3}, {0, 2, 6}, {0, 4, 5}, {1, 2, 4}, {1, 5, 6}, {2, 3, 5}, {3, 4, 6}},
			"0361542/3140265/6425130/1053624/5216403/4632051/2504316", textOfFano,
		},
		{
			[][]int64{
				{0, 1, 2}, {0, 3, 6}, {0, 4, 8}, {0, 5, 7}, {1, 3, 8}, {1, 4, 7},
				{1, 5, 6}, {2, 3, 7}, {2, 4, 6}, {2, 5, 8}, {3, 4, 5}, {6, 7, 8},
			},
			"021687354/210876543/102768435/687354021/876543210/768435102/354021687/543210876/435102768", textOfPlane,
		},
	}
	for _, c := range cases {
		square, loop := squareOf(t, c.square), squareOf(t, c.loop)
		if q, code := impl.TripleSquare(square.Order, c.triples); q != square || code != impl.ErrNone {
			t.Errorf("TripleSquare(%v) = %v, %d", c.triples, q, code)
		}
		if q, code := impl.TripleLoop(square.Order, c.triples); q != loop || code != impl.ErrNone {
			t.Errorf("TripleLoop(%v) = %v, %d", c.triples, q, code)
		}
		if triples, code := impl.TriplesOfLoop(loop); !sameLists(triples, c.triples) || code != impl.ErrNone {
			t.Errorf("TriplesOfLoop(%s) = %v, %d", c.loop, triples, code)
		}
	}
}

// triplesByHand returns the triple system whose loop is q, and whether there is one: there is if q is greater
// than 1, and commutative, and x * (x * y) is y.
func triplesByHand(q impl.Square) ([][]int64, bool) {
	isOne := q.Order > 1 && always(q, func(x byte, y byte) bool {
		return q.Table[x][y] == q.Table[y][x] && q.Table[x][q.Table[x][y]] == y
	})
	if !isOne {
		return nil, false
	}
	var triples [][]int64
	for x := byte(1); x < byte(q.Order); x++ {
		for y := x + 1; y < byte(q.Order); y++ {
			for z := y + 1; z < byte(q.Order); z++ {
				if q.Table[x][y] == z {
					triples = append(triples, []int64{int64(x - 1), int64(y - 1), int64(z - 1)})
				}
			}
		}
	}
	return triples, true
}

func TestTriplesOfLoopsByHand(t *testing.T) {
	found := map[int64]int{}
	check := func(q impl.Square) {
		want, isOne := triplesByHand(q)
		code := int64(impl.ErrState)
		if isOne {
			code = impl.ErrNone
			found[q.Order]++
		}
		if triples, got := impl.TriplesOfLoop(q); !sameLists(triples, want) || got != code {
			t.Errorf("TriplesOfLoop(%v) = %v, %d", q, triples, got)
		}
	}
	eachLoop(t, check)
	allLoops(6, check)
	loopsOfOrder8(t, check)
	if found[1] > 0 || found[2] == 0 || found[4] == 0 || found[6] > 0 || found[8] == 0 || found[10] == 0 {
		t.Errorf("the numbers of loops of triple systems are %v", found)
	}
}

// A loop has no triple system if only those products are such whose second part is greater.
func TestTriplesOfHalfALoop(t *testing.T) {
	q := elementaryOf(t, 3)
	for _, c := range [][2]byte{{4, 5}, {6, 7}} {
		changed := q
		for y := range byte(2) {
			x := c[0] + y
			changed.Table[x][2], changed.Table[x][3] = q.Table[x][3], q.Table[x][2]
		}
		if triples, code := impl.TriplesOfLoop(changed); !impl.IsLoop(changed) || len(triples) != 0 || code != impl.ErrState {
			t.Errorf("TriplesOfLoop(%v) = %v, %d", changed, triples, code)
		}
	}
}

func TestTriplesErrors(t *testing.T) {
	eachNoLoop(t, func(reason string, q impl.Square) {
		want := int64(impl.ErrState)
		if !impl.IsSquare(q) {
			want = impl.ErrInvalid
		}
		if triples, code := impl.TriplesOfLoop(q); len(triples) != 0 || code != want {
			t.Errorf("%s: TriplesOfLoop(%v) = %v, %d", reason, q, triples, code)
		}
	})
	if triples, code := impl.TriplesOfLoop(squareOf(t, textOfOne)); len(triples) != 0 || code != impl.ErrState {
		t.Errorf("of the loop of order 1: TriplesOfLoop = %v, %d", triples, code)
	}
}

// zeros returns n lists of n numbers 0.
func zeros(n int64) [][]int64 {
	var lists [][]int64
	for range n {
		lists = append(lists, make([]int64, n))
	}
	return lists
}

// eachCocycle calls each with all cocycles for a loop of order n and k, of which there are k to the power
// of (n - 1) (n - 1), or with one of every so many.
func eachCocycle(n int64, k int64, every int, each func(cocycle [][]int64)) {
	count := 0
	cocycle := zeros(n)
	var fill func(place int64)
	fill = func(place int64) {
		x, y := place/n, place%n
		switch {
		case x == n:
			if count++; count%every == 0 {
				each(cocycle)
			}
		case x == 0 || y == 0:
			fill(place + 1)
		default:
			for number := range k {
				cocycle[x][y] = number
				fill(place + 1)
			}
		}
	}
	fill(0)
}

// checkExtension checks an extension by its definition. Promise 15: it has the numbers of 0 in its centre.
func checkExtension(t *testing.T, q impl.Square, k int64, cocycle [][]int64) {
	t.Helper()
	want := extensionOf(q, k, func(a int64, b int64) int64 { return cocycle[a][b] })
	wide, code := impl.ExtendLoop(q, k, cocycle)
	if wide != want || !impl.IsLoop(wide) || wide.Order != k*q.Order || code != impl.ErrNone {
		t.Errorf("ExtendLoop(%v, %d, %v) = %v, %d", q, k, cocycle, wide, code)
	}
	numbers := numbersTo(k)
	if !has(listIn(t, "CentreOf", wide), numbers...) {
		t.Errorf("ExtendLoop(%v, %d, %v) = %v, of which the numbers of 0 are not in the centre", q, k, cocycle, wide)
	}
	quotient, projection, code := impl.QuotientLoop(wide, numbers)
	for x, number := range projection {
		if number != int64(x)/k {
			t.Errorf("%v by the numbers of 0 has the projection %v", wide, projection)
		}
	}
	if quotient != q || code != impl.ErrNone {
		t.Errorf("%v by the numbers of 0 is %v, %d", wide, quotient, code)
	}
}

func TestExtensionsByCocycles(t *testing.T) {
	for n := 1; n <= 5; n++ {
		for k := int64(1); k*int64(n) <= impl.MaxOrder; k++ {
			every := 1
			if n == 5 && k == 2 {
				every = 1013
			}
			allLoops(n, func(q impl.Square) {
				eachCocycle(q.Order, k, every, func(cocycle [][]int64) { checkExtension(t, q, k, cocycle) })
			})
		}
	}
}

// With numbers 0 alone the extension is a product, and with one number for each element nothing is changed.
func TestExtensionsWithoutNumbers(t *testing.T) {
	for _, q := range loopsForNuclei(t) {
		for k := int64(1); k*q.Order <= impl.MaxOrder; k++ {
			checkExtension(t, q, k, zeros(q.Order))
			wide, code := impl.ExtendLoop(q, k, zeros(q.Order))
			if wide != productOf(t, q, cyclicOf(t, k)) || code != impl.ErrNone {
				t.Errorf("ExtendLoop(%v, %d) = %v, %d", q, k, wide, code)
			}
		}
		if same, code := impl.ExtendLoop(q, 1, zeros(q.Order)); same != q || code != impl.ErrNone {
			t.Errorf("ExtendLoop(%v, 1) = %v, %d", q, same, code)
		}
	}
}

func TestExtensionsOfExamples(t *testing.T) {
	cases := []struct {
		loop    string
		k       int64
		cocycle string // the numbers behind the first list and the first numbers of the others
		wide    string
	}{
		{textOfOne, 1, "", textOfOne},
		{textOfOne, 10, "", "0123456789/1234567890/2345678901/3456789012/4567890123/5678901234/6789012345/7890123456/8901234567/9012345678"},
		{"01/10", 2, "1", "0123/1032/2310/3201"},
		{"01/10", 5, "3", "0123456789/1234067895/2340178956/3401289567/4012395678/5678934012/6789540123/7895601234/8956712340/9567823401"},
		{"012/120/201", 3, "12/01", "012345678/120453786/201534867/345786201/453867012/534678120/678012453/786120534/867201345"},
		{
			"01234/12340/23401/34012/40123", 2, "1011/0010/1100/0101",
			"0123456789/1032547698/2354679810/3245768901/4567891023/5476980132/6798102345/7689013254/8901324576/9810235467",
		},
		{
			textOfLoop5, 2, "1001/0110/1101/0010",
			"0123456789/1032547698/2310678954/3201769845/4589103267/5498012376/6754980132/7645891023/8967235401/9876324510",
		},
	}
	for _, c := range cases {
		q := squareOf(t, c.loop)
		cocycle := zeros(q.Order)
		for x, digits := range strings.Split(c.cocycle, "/") {
			for y, digit := range []byte(digits) {
				cocycle[x+1][y+1] = int64(digit - '0')
			}
		}
		if wide, code := impl.ExtendLoop(q, c.k, cocycle); wide != squareOf(t, c.wide) || code != impl.ErrNone {
			t.Errorf("ExtendLoop(%s, %d, %v) = %v, %d", c.loop, c.k, cocycle, wide, code)
		}
	}
}

// badCocycles returns lists that are no cocycles of a loop of order n for k, each for a reason of its own.
func badCocycles(n int64, k int64) [][][]int64 {
	list := [][][]int64{append(zeros(n), nil), append(zeros(n), make([]int64, n)), zeros(n + 1), zeros(n + 20)}
	for length := range n {
		list = append(list, zeros(n)[:length], zeros(length))
	}
	for _, x := range []int64{0, n / 2, n - 1} {
		for length := range n + 3 {
			if length != n {
				bad := zeros(n)
				bad[x] = make([]int64, length)
				list = append(list, bad)
			}
		}
		for y := range n {
			for _, number := range []int64{1, k - 1, k, k + 1, 10, 255, 256, 1 << 32, -1, -k, math.MinInt64, math.MaxInt64} {
				if isGood := number == 0 || x > 0 && y > 0 && 0 < number && number < k; !isGood {
					bad := zeros(n)
					bad[x][y] = number
					list = append(list, bad)
				}
			}
		}
	}
	return list
}

// checkNoExtension checks that there is no extension, for the reason that a code tells.
func checkNoExtension(t *testing.T, q impl.Square, k int64, cocycle [][]int64, want int64) {
	t.Helper()
	if wide, code := impl.ExtendLoop(q, k, cocycle); wide != (impl.Square{}) || code != want {
		t.Errorf("ExtendLoop(%v, %d, %v) = %v, %d, and not %d", q, k, cocycle, wide, code, want)
	}
}

// That a number or a list is not in its range goes before that a square is no loop, and this before that the
// order would be too great.
func TestExtensionsErrors(t *testing.T) {
	for _, q := range noSquares(t) {
		for _, k := range append(badOrders(), 1, 2, 10) {
			checkNoExtension(t, q, k, nil, impl.ErrInvalid)
			checkNoExtension(t, q, k, zeros(2), impl.ErrInvalid)
			checkNoExtension(t, q, k, [][]int64{{1}}, impl.ErrInvalid)
		}
	}
	for _, q := range append(manySquares(t), loopsForNuclei(t)...) {
		for _, k := range badOrders() {
			checkNoExtension(t, q, k, zeros(q.Order), impl.ErrRange)
		}
		for k := int64(1); k <= impl.MaxOrder; k++ {
			for _, bad := range badCocycles(q.Order, k) {
				checkNoExtension(t, q, k, bad, impl.ErrRange)
			}
			last := zeros(q.Order)
			if q.Order > 1 {
				last[q.Order-1][q.Order-1] = k - 1
			}
			switch {
			case !impl.IsLoop(q):
				checkNoExtension(t, q, k, last, impl.ErrState)
			case k*q.Order > impl.MaxOrder:
				checkNoExtension(t, q, k, last, impl.ErrLimit)
			default:
				checkExtension(t, q, k, last)
			}
		}
	}
}

// isOrthomorphismByHand tells by the definition whether a permutation is an orthomorphism of a group.
func isOrthomorphismByHand(g impl.Square, p impl.Places) bool {
	return len(elementsThat(g, func(z byte) bool {
		return len(elementsThat(g, func(x byte) bool { return g.Table[inverseIn(g, x)][p[x]] == z })) == 1
	})) == int(g.Order)
}

// orthomorphismSquareByHand returns the square of an orthomorphism by its definition.
func orthomorphismSquareByHand(g impl.Square, p impl.Places) impl.Square {
	q := impl.Square{Order: g.Order}
	for x := range byte(g.Order) {
		for y := range byte(g.Order) {
			q.Table[x][y] = g.Table[x][p[g.Table[inverseIn(g, x)][y]]]
		}
	}
	return q
}

// checkOrthomorphism checks by hand whether a permutation is an orthomorphism of a group, and its square.
// Promise 8: the squares of normal ones are idempotent, and no others are.
func checkOrthomorphism(t *testing.T, g impl.Square, p impl.Places) bool {
	t.Helper()
	is := isOrthomorphismByHand(g, p)
	if yes, code := impl.IsOrthomorphism(g, p); yes != is || code != impl.ErrNone {
		t.Errorf("IsOrthomorphism(%v, %v) = %v, %d", g, p, yes, code)
	}
	q, code := impl.OrthomorphismSquare(g, p)
	if !is {
		if q != (impl.Square{}) || code != impl.ErrState {
			t.Errorf("OrthomorphismSquare(%v, %v) = %v, %d", g, p, q, code)
		}
		return false
	}
	if q != orthomorphismSquareByHand(g, p) || !impl.IsSquare(q) || code != impl.ErrNone {
		t.Errorf("OrthomorphismSquare(%v, %v) = %v, %d", g, p, q, code)
	}
	if idempotent, code := impl.IsIdempotent(q); idempotent != (p[0] == 0) || code != impl.ErrNone {
		t.Errorf("IsIdempotent(%v) = %v, %d, for the square of %v", q, idempotent, code, p)
	}
	return true
}

// normalByTrial returns all normal orthomorphisms of a group in lexicographic order: numbers are put in one
// after the other as long as no two elements that are made are equal.
func normalByTrial(g impl.Square) []impl.Places {
	var list []impl.Places
	var back impl.Places
	for x := range byte(g.Order) {
		back[x] = inverseIn(g, x)
	}
	var extend func(images []byte, made uint)
	extend = func(images []byte, made uint) {
		x := len(images)
		if x == int(g.Order) {
			list = append(list, placesOf(images))
			return
		}
		for y := range byte(g.Order) {
			z := g.Table[back[x]][y]
			if !slices.Contains(images, y) && made>>z&1 == 0 {
				extend(append(slices.Clone(images), y), made|1<<z)
			}
		}
	}
	extend([]byte{0}, 1)
	return list
}

// transversalsByTrial calls each with all permutations for which the products of x and what it is led to are
// all different, in lexicographic order, until it returns false.
func transversalsByTrial(q impl.Square, each func(c impl.Places) bool) {
	var extend func(images []byte, made uint) bool
	extend = func(images []byte, made uint) bool {
		x := len(images)
		if x == int(q.Order) {
			return each(placesOf(images))
		}
		for y := range byte(q.Order) {
			z := q.Table[x][y]
			if !slices.Contains(images, y) && made>>z&1 == 0 && !extend(append(slices.Clone(images), y), made|1<<z) {
				return false
			}
		}
		return true
	}
	extend(nil, 0)
}

// Promise 15: normal orthomorphisms are as many as transversals tell: each of them stands for as many
// transversals as there are elements.
func TestNormalOrthomorphisms(t *testing.T) {
	for _, c := range countedGroups(t) {
		transversals := 0
		transversalsByTrial(c.group, func(impl.Places) bool {
			transversals++
			return true
		})
		for _, g := range []impl.Square{c.group, oppositeIn(t, c.group)} {
			list, code := impl.NormalOrthomorphisms(g)
			if len(list) != c.count || len(list)*int(g.Order) != transversals || code != impl.ErrNone {
				t.Errorf("NormalOrthomorphisms(%v) = %d, %d, and there are %d transversals", g, len(list), code, transversals)
			}
		}
	}
	for _, g := range manyGroups(t, impl.MaxOrder) {
		list, code := impl.NormalOrthomorphisms(g)
		if !slices.Equal(list, normalByTrial(g)) || code != impl.ErrNone {
			t.Errorf("NormalOrthomorphisms(%v) = %v, %d", g, list, code)
		}
		for _, p := range list {
			if p[0] != 0 || !checkOrthomorphism(t, g, p) {
				t.Errorf("NormalOrthomorphisms(%v) has %v", g, p)
			}
		}
	}
}

// Orthomorphisms come from normal ones by a product on the right side, which leads 0 to each element.
func TestOrthomorphismsOfAllPermutations(t *testing.T) {
	for _, c := range countedGroups(t) {
		n := c.group.Order
		if n > 8 {
			continue
		}
		var normal []impl.Places
		count := 0
		orderings(int(n), func(list []byte) {
			p := placesOf(list)
			if n == 8 && list[0] > 1 {
				return
			}
			is, code := impl.IsOrthomorphism(c.group, p)
			if is != isOrthomorphismByHand(c.group, p) || code != impl.ErrNone {
				t.Errorf("IsOrthomorphism(%v, %v) = %v, %d", c.group, p, is, code)
			}
			count += countOf(is)
			if is {
				checkOrthomorphism(t, c.group, p)
			}
			if is && p[0] == 0 {
				normal = append(normal, p)
			}
		})
		if list, code := impl.NormalOrthomorphisms(c.group); !slices.Equal(list, normal) || code != impl.ErrNone {
			t.Errorf("NormalOrthomorphisms(%v) = %v, %d", c.group, list, code)
		}
		if firsts := min(int(n), 2+6*countOf(n < 8)); count != c.count*firsts {
			t.Errorf("%v has %d orthomorphisms", c.group, count)
		}
	}
}

// Of great groups some permutations are looked at that are no orthomorphisms, and some that are not normal.
func TestOrthomorphismsOfGreatGroups(t *testing.T) {
	for _, g := range manyGroups(t, impl.MaxOrder) {
		for _, p := range somePlaces(g.Order) {
			checkOrthomorphism(t, g, p)
		}
		for _, p := range normalByTrial(g)[:min(5, len(normalByTrial(g)))] {
			for a := range byte(g.Order) {
				moved := placesBy(g.Order, func(x byte) byte { return g.Table[p[x]][a] })
				if !checkOrthomorphism(t, g, moved) {
					t.Errorf("%v is no orthomorphism of %v", moved, g)
				}
			}
			for x := range g.Order - 1 {
				p[x], p[x+1] = p[x+1], p[x]
				checkOrthomorphism(t, g, p)
				p[x], p[x+1] = p[x+1], p[x]
			}
		}
	}
}

func TestOrthomorphismsOfExamples(t *testing.T) {
	cases := []struct{ group, normal string }{
		{textOfOne, "0"},
		{"01/10", ""},
		{"012/120/201", "021"},
		{"0123/1230/2301/3012", ""},
		{"0123/1032/2301/3210", "0231 0312"},
		{"01234/12340/23401/34012/40123", "02413 03142 04321"},
		{textOfTurns3, ""},
		{
			"0123456/1234560/2345601/3456012/4560123/5601234/6012345",
			"0246135 0251643 0265314 0316524 0352164 0361542 0362514 0364215 0415263 0431625 0462531 0514632 0531642 0532614 0536241 0541362 0635142 0642513 0654321",
		},
	}
	for _, c := range cases {
		var want []impl.Places
		for _, digits := range strings.Fields(c.normal) {
			want = append(want, placesBy(int64(len(digits)), func(x byte) byte { return digits[x] - '0' }))
		}
		if list, code := impl.NormalOrthomorphisms(squareOf(t, c.group)); !slices.Equal(list, want) || code != impl.ErrNone {
			t.Errorf("NormalOrthomorphisms(%s) = %v, %d", c.group, list, code)
		}
	}
}

func TestOrthomorphismSquaresOfExamples(t *testing.T) {
	cases := []struct{ group, places, square string }{
		{textOfOne, "0", textOfOne},
		{"012/120/201", "021", "021/210/102"},
		{"0123/1032/2301/3210", "0231", "0231/3102/1320/2013"},
		{"0123/1032/2301/3210", "0312", "0312/2130/3021/1203"},
		{"01234/12340/23401/34012/40123", "02413", "02413/41302/30241/24130/13024"},
		{"01234/12340/23401/34012/40123", "30241", "30241/24130/13024/02413/41302"},
		{"0123456/1234560/2345601/3456012/4560123/5601234/6012345", "0251643", "0251643/4136205/6524031/2063514/5310462/3642150/1405326"},
		{textOfTurns4, "02463175", "02463175/71356024/64205713/17530642/53174206/46027531/35712460/20641357"},
		{textOfTurns4, "57314620", "57314620/26401573/13750264/62045137/04623751/31572046/40267315/75136402"},
	}
	for _, c := range cases {
		g := squareOf(t, c.group)
		p := placesBy(g.Order, func(x byte) byte { return c.places[x] - '0' })
		if q, code := impl.OrthomorphismSquare(g, p); q != squareOf(t, c.square) || code != impl.ErrNone {
			t.Errorf("OrthomorphismSquare(%s, %s) = %v, %d", c.group, c.places, q, code)
		}
	}
}

// checkNoOrthomorphism checks that the functions of a group and a permutation return a code and zero values.
func checkNoOrthomorphism(t *testing.T, q impl.Square, p impl.Places, want int64) {
	t.Helper()
	if yes, code := impl.IsOrthomorphism(q, p); yes || code != want {
		t.Errorf("IsOrthomorphism(%v, %v) = %v, %d", q, p, yes, code)
	}
	if made, code := impl.OrthomorphismSquare(q, p); made != (impl.Square{}) || code != want {
		t.Errorf("OrthomorphismSquare(%v, %v) = %v, %d", q, p, made, code)
	}
}

// badPlacesFor returns what is no permutation of n numbers.
func badPlacesFor(n int64) []impl.Places {
	var list []impl.Places
	for _, bad := range badPlaces() {
		list = append(list, bad.Places)
	}
	list = append(list, unchanged(n%impl.MaxOrder+1), impl.Places{0: 255}, impl.Places{9: 255})
	return slices.DeleteFunc(list, func(p impl.Places) bool { return impl.IsPermutation(p, n) })
}

// That something is no permutation goes before that a square is no group.
func TestOrthomorphismsErrors(t *testing.T) {
	eachNoGroup(t, func(q impl.Square, want int64) {
		if list, code := impl.NormalOrthomorphisms(q); len(list) != 0 || code != want {
			t.Errorf("NormalOrthomorphisms(%v) = %v, %d", q, list, code)
		}
		n := min(max(q.Order, 1), impl.MaxOrder)
		for _, p := range somePlaces(n) {
			checkNoOrthomorphism(t, q, p, want)
		}
		for _, p := range badPlacesFor(n) {
			checkNoOrthomorphism(t, q, p, impl.ErrInvalid)
		}
	})
	for _, g := range manyGroups(t, impl.MaxOrder) {
		for _, p := range badPlacesFor(g.Order) {
			checkNoOrthomorphism(t, g, p, impl.ErrInvalid)
		}
	}
}

// remaindersOfSquares returns the remainders of squares by p, also 0.
func remaindersOfSquares(p int64) []int64 {
	return map[int64][]int64{3: {0, 1}, 5: {0, 1, 4}, 7: {0, 1, 2, 4}}[p]
}

// quadraticByHand returns the quadratic square of p, a and b by its definition, and whether it is a square
// as the chapter tells.
func quadraticByHand(p int64, a int64, b int64) (impl.Square, bool) {
	q := impl.Square{Order: p}
	squares := remaindersOfSquares(p)
	for x := range p {
		for y := range p {
			times := b
			if slices.Contains(squares, (y-x+p)%p) {
				times = a
			}
			q.Table[x][y] = byte((x + times*(y-x+p)) % p)
		}
	}
	first, second := a*b%p, (a+p-1)*(b+p-1)%p
	return q, first > 0 && second > 0 && slices.Contains(squares, first) && slices.Contains(squares, second)
}

func TestQuadraticSquaresByHand(t *testing.T) {
	counts := map[int64]int{}
	for _, p := range []int64{3, 5, 7} {
		group := cyclicOf(t, p)
		for a := range p {
			for b := range p {
				want, isOne := quadraticByHand(p, a, b)
				q, code := impl.QuadraticSquare(p, a, b)
				if impl.IsSquare(want) != isOne {
					t.Errorf("%v is told to be a square: %v", want, isOne)
				}
				if !isOne {
					if q != (impl.Square{}) || code != impl.ErrState {
						t.Errorf("QuadraticSquare(%d, %d, %d) = %v, %d", p, a, b, q, code)
					}
					continue
				}
				counts[p]++
				if idempotent, _ := impl.IsIdempotent(q); q != want || !idempotent || code != impl.ErrNone {
					t.Errorf("QuadraticSquare(%d, %d, %d) = %v, %d", p, a, b, q, code)
				}
				// It is the square of an orthomorphism, which its first row tells.
				if made, code := impl.OrthomorphismSquare(group, impl.Places(q.Table[0][:])); made != q || code != impl.ErrNone {
					t.Errorf("QuadraticSquare(%d, %d, %d) = %v, but OrthomorphismSquare = %v, %d", p, a, b, q, made, code)
				}
			}
		}
	}
	if counts[3] != 1 || counts[5] != 3 || counts[7] != 7 {
		t.Errorf("the numbers of quadratic squares are %v", counts)
	}
}

func TestQuadraticSquaresOfExamples(t *testing.T) {
	cases := []struct {
		p, a, b int64
		want    string
	}{
		{3, 2, 2, "021/210/102"},
		{5, 2, 2, "02413/41302/30241/24130/13024"},
		{5, 3, 3, "03142/31420/14203/42031/20314"},
		{5, 4, 4, "04321/21043/43210/10432/32104"},
		{7, 2, 2, "0246135/6135024/5024613/4613502/3502461/2461350/1350246"},
		{7, 3, 3, "0362514/5140362/3625140/1403625/6251403/4036251/2514036"},
		{7, 3, 5, "0361542/3140265/6425130/1053624/5216403/4632051/2504316"},
		{7, 5, 3, "0532614/5164302/3620541/2403165/6351420/1046253/4215036"},
	}
	for _, c := range cases {
		if q, code := impl.QuadraticSquare(c.p, c.a, c.b); q != squareOf(t, c.want) || code != impl.ErrNone {
			t.Errorf("QuadraticSquare(%d, %d, %d) = %v, %d", c.p, c.a, c.b, q, code)
		}
	}
}

func TestQuadraticSquaresErrors(t *testing.T) {
	check := func(p int64, a int64, b int64) {
		if q, code := impl.QuadraticSquare(p, a, b); q != (impl.Square{}) || code != impl.ErrRange {
			t.Errorf("QuadraticSquare(%d, %d, %d) = %v, %d", p, a, b, q, code)
		}
	}
	for _, p := range append(badOrders(), -7, -5, -3, 1, 2, 4, 6, 8, 9, 10, 13, 3+256, 5+1<<32) {
		for _, a := range []int64{-1, 0, 1, 2, 3} {
			check(p, a, 2)
			check(p, 2, a)
		}
	}
	for _, p := range []int64{3, 5, 7} {
		for _, bad := range []int64{-1, -2, 1 - p, p, p + 1, p + 2, 2 + 256, 2 + 1<<32, math.MinInt64, math.MaxInt64} {
			for good := range p {
				check(p, bad, good)
				check(p, good, bad)
			}
			check(p, bad, bad)
		}
	}
}

// isTransversalByHand tells whether the products of x and c[x] are all different.
func isTransversalByHand(q impl.Square, c impl.Places) bool {
	made := uint(0)
	for x := range q.Order {
		made |= 1 << q.Table[x][c[x]]
	}
	return made == 1<<q.Order-1
}

// prolongedByHand returns the prolongation of q by a transversal, by its definition.
func prolongedByHand(q impl.Square, c impl.Places) impl.Square {
	n := q.Order
	long := q
	long.Order++
	for x := range n {
		was := q.Table[x][c[x]]
		long.Table[x][c[x]], long.Table[x][n], long.Table[n][c[x]] = byte(n), was, was
	}
	long.Table[n][n] = byte(n)
	return long
}

// checkProlongation checks by hand what is made of a square and a permutation.
func checkProlongation(t *testing.T, q impl.Square, c impl.Places) int64 {
	t.Helper()
	long, code := impl.ProlongSquare(q, c)
	var want impl.Square
	wantCode := int64(impl.ErrNone)
	switch {
	case !isTransversalByHand(q, c):
		wantCode = impl.ErrState
	case q.Order == impl.MaxOrder:
		wantCode = impl.ErrLimit
	default:
		want = prolongedByHand(q, c)
	}
	if long != want || code != wantCode || impl.IsSquare(long) != (wantCode == impl.ErrNone) {
		t.Errorf("ProlongSquare(%v, %v) = %v, %d", q, c, long, code)
	}
	return wantCode
}

func TestProlongationsByHand(t *testing.T) {
	met := map[int64]map[int64]int{}
	check := func(q impl.Square, c impl.Places) {
		code := checkProlongation(t, q, c)
		if met[q.Order] == nil {
			met[q.Order] = map[int64]int{}
		}
		met[q.Order][code]++
	}
	for _, q := range append(manySquares(t), append(allSquaresOfOrderThree(), loopsForNuclei(t)...)...) {
		if q.Order <= 5 {
			orderings(int(q.Order), func(list []byte) { check(q, placesOf(list)) })
		}
		for _, p := range somePlaces(q.Order) {
			check(q, p)
		}
		count := 0
		transversalsByTrial(q, func(c impl.Places) bool {
			check(q, c)
			// Most that differ from a transversal by an exchange are none.
			c[0], c[q.Order-1] = c[q.Order-1], c[0]
			check(q, c)
			count++
			return count < 20
		})
	}
	for n := int64(1); n <= impl.MaxOrder; n++ {
		good := int64(impl.ErrNone)
		if n == impl.MaxOrder {
			good = impl.ErrLimit
		}
		// The square of order 1 has no permutation but a transversal, and those of order 2 have no transversal.
		if (met[n][good] > 0) != (n != 2) || (met[n][impl.ErrState] > 0) != (n > 1) {
			t.Errorf("of squares of order %d: the codes are %v", n, met[n])
		}
	}
}

func TestProlongationsOfExamples(t *testing.T) {
	cases := []struct{ square, places, long string }{
		{textOfOne, "0", "10/01"},
		{"012/120/201", "012", "3120/1302/2031/0213"},
		{"012/120/201", "120", "0321/1230/3012/2103"},
		{textOfSubtract, "021", "3210/1032/2301/0123"},
		{"0123/1032/2301/3210", "0231", "41230/10423/23041/34102/02314"},
		{textOfLoop5, "02143", "512340/105423/250134/324051/431502/043215"},
		{
			"012345678/123456780/234567801/345678012/456780123/567801234/678012345/780123456/801234567", "012345678",
			"9123456780/1934567802/2395678014/3459780126/4567901238/5678092341/6780129453/7801234965/8012345697/0246813579",
		},
	}
	for _, c := range cases {
		q := squareOf(t, c.square)
		p := placesBy(q.Order, func(x byte) byte { return c.places[x] - '0' })
		if long, code := impl.ProlongSquare(q, p); long != squareOf(t, c.long) || code != impl.ErrNone {
			t.Errorf("ProlongSquare(%s, %s) = %v, %d", c.square, c.places, long, code)
		}
	}
}

// Normal orthomorphisms are transversals, and prolongations by them are squares, too.
func TestProlongationsByOrthomorphisms(t *testing.T) {
	for _, g := range manyGroups(t, 9) {
		list, code := impl.NormalOrthomorphisms(g)
		if code != impl.ErrNone {
			t.Errorf("NormalOrthomorphisms(%v): code %d", g, code)
		}
		for _, p := range list {
			// x * c[x] is p[x] for the c[x] = x' * p[x].
			c := placesBy(g.Order, func(x byte) byte { return g.Table[inverseIn(g, x)][p[x]] })
			if checkProlongation(t, g, c) != impl.ErrNone {
				t.Errorf("%v is no transversal of %v", c, g)
			}
		}
	}
}

// That something is no permutation goes before that it is no transversal, and this before that the order
// would be too great.
func TestProlongationsErrors(t *testing.T) {
	check := func(q impl.Square, c impl.Places, want int64) {
		if long, code := impl.ProlongSquare(q, c); long != (impl.Square{}) || code != want {
			t.Errorf("ProlongSquare(%v, %v) = %v, %d", q, c, long, code)
		}
	}
	for _, q := range noSquares(t) {
		n := min(max(q.Order, 1), impl.MaxOrder)
		for _, c := range append(somePlaces(n), badPlacesFor(n)...) {
			check(q, c, impl.ErrInvalid)
		}
	}
	for _, q := range append(manySquares(t), loopsForNuclei(t)...) {
		for _, c := range badPlacesFor(q.Order) {
			check(q, c, impl.ErrInvalid)
		}
	}
	// A cyclic group of an even order has no transversal, and the loop of the plane has some.
	check(cyclicOf(t, 10), unchanged(10), impl.ErrState)
	transversalsByTrial(steinerOf10(), func(c impl.Places) bool {
		check(steinerOf10(), c, impl.ErrLimit)
		return false
	})
}

// What is made of groups and loops that are alike is alike.
func TestMakesOfIsomorphicLoops(t *testing.T) {
	for _, c := range countedGroups(t) {
		for _, p := range somePlaces(c.group.Order) {
			p[slices.Index(p[:c.group.Order], 0)], p[0] = p[0], 0
			g := isotopeOf(t, c.group, thrice(p))
			if list, code := impl.NormalOrthomorphisms(g); len(list) != c.count || code != impl.ErrNone {
				t.Errorf("NormalOrthomorphisms(%v) = %d, %d", g, len(list), code)
			}
			// An orthomorphism that is led back has a square that is led back.
			list, _ := impl.NormalOrthomorphisms(c.group)
			for _, each := range list {
				led := inTurn(g.Order, leadingBack(g.Order, p), each, p)
				q, a := impl.OrthomorphismSquare(c.group, each)
				r, b := impl.OrthomorphismSquare(g, led)
				if isotopeOf(t, q, thrice(p)) != r || max(a, b) != impl.ErrNone {
					t.Errorf("OrthomorphismSquare(%v, %v) = %v, %d, but led on %v, %d", c.group, each, q, a, r, b)
				}
			}
		}
	}
}

// roomyLists returns copies of lists with other ones behind their ends.
func roomyLists(lists [][]int64) [][]int64 {
	var room [][]int64
	for _, list := range lists {
		room = append(room, append(slices.Clone(list), 77, 78)[:len(list)])
	}
	return append(room, []int64{79}, []int64{80})
}

// checkKept checks that a call changes no list, nor what stands behind its end.
func checkKept(t *testing.T, lists [][]int64, call func(lists [][]int64)) {
	t.Helper()
	room, kept := roomyLists(lists), roomyLists(lists)
	call(room[:len(lists)])
	for k := range room {
		if !slices.Equal(room[k][:cap(room[k])], kept[k][:cap(kept[k])]) {
			t.Fatalf("the lists %v have become %v", kept, room)
		}
	}
}

func TestMakesKeepTheirLists(t *testing.T) {
	eachOfAllSystems(t, func(v int64, triples [][]int64) {
		for _, lists := range [][][]int64{triples, triples[:len(triples)/2], append(slices.Clone(triples), []int64{2, 1, 0})} {
			checkKept(t, lists, func(lists [][]int64) {
				impl.IsTripleSystem(v, lists)
				impl.TripleSquare(v, lists)
				impl.TripleLoop(v, lists)
			})
		}
	})
	for _, q := range loopsForNuclei(t) {
		for k := int64(1); k <= 5; k++ {
			for _, lists := range append(badCocycles(q.Order, k), zeros(q.Order)) {
				checkKept(t, lists, func(lists [][]int64) { impl.ExtendLoop(q, k, lists) })
			}
		}
	}
}

func TestMakesShareNoMemory(t *testing.T) {
	for _, loop := range []impl.Square{elementaryOf(t, 2), elementaryOf(t, 3), squareOf(t, textOfFano), steinerOf10()} {
		checkApart(t, "TriplesOfLoop", func() [][]int64 {
			triples, _ := impl.TriplesOfLoop(loop)
			return triples
		})
	}
	g := cyclicOf(t, 7)
	list, _ := impl.NormalOrthomorphisms(g)
	kept := slices.Clone(list)
	for k := range list[:cap(list)] {
		list[:cap(list)][k] = impl.Places{7}
	}
	if again, code := impl.NormalOrthomorphisms(g); !slices.Equal(again, kept) || code != impl.ErrNone {
		t.Errorf("a later call of NormalOrthomorphisms returns %v, %d", again, code)
	}
}
