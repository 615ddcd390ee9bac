package tests

import (
	"cmp"
	"math"
	"slices"
	"testing"

	"loop.example/g01195/impl"
)

// productOf returns the direct product of two squares.
func productOf(t *testing.T, q impl.Square, r impl.Square) impl.Square {
	t.Helper()
	product, code := impl.DirectProduct(q, r)
	if code != impl.ErrNone {
		t.Fatalf("DirectProduct(%v, %v): code %d", q, r, code)
	}
	return product
}

// squaresForMaps returns squares of all orders, most of them no loops, with many and with few congruences.
func squaresForMaps(t *testing.T) []impl.Square {
	t.Helper()
	idempotent := linearOf(3, 2, 2, 0)
	list := append(manySquares(t), squareOf(t, textOfNearly), linearOf(4, 1, 3, 2), linearOf(6, 5, 5, 2),
		linearOf(8, 3, 5, 1), linearOf(9, 2, 2, 1), linearOf(9, 4, 7, 3),
		productOf(t, idempotent, idempotent), productOf(t, idempotent, cyclicOf(t, 3)), productOf(t, squareOf(t, textOfSubtract), cyclicOf(t, 2)),
		productOf(t, squareOf(t, textOfShifted), cyclicOf(t, 2)), productOf(t, cyclicOf(t, 2), squareOf(t, textOfSquare5)))
	for _, q := range []impl.Square{groupOfTurns(4), elementaryOf(t, 3), list[len(list)-1], list[len(list)-5]} {
		places := somePlaces(q.Order)
		list = append(list, isotopeOf(t, q, impl.Triple{First: places[1], Second: places[2], Third: places[3]}))
	}
	return list
}

// divisionsOf calls each with all divisions of n numbers into sets, as the numbers of their sets: sets are
// numbered in the order of their least numbers.
func divisionsOf(n int64, each func(sets []int64)) {
	sets := make([]int64, n)
	var divide func(x int64, count int64)
	divide = func(x int64, count int64) {
		if x == n {
			each(sets)
			return
		}
		for k := range count + 1 {
			sets[x] = k
			divide(x+1, max(count, k+1))
		}
	}
	divide(0, 0)
}

// isCongruence reports whether the set of x * y depends on the sets of x and y alone.
func isCongruence(q impl.Square, sets []int64) bool {
	var after [impl.MaxOrder][impl.MaxOrder]int64
	for x, row := range q.Table[:q.Order] {
		for y, z := range row[:q.Order] {
			if known := &after[sets[x]][sets[y]]; *known == 0 {
				*known = sets[z] + 1
			} else if *known != sets[z]+1 {
				return false
			}
		}
	}
	return true
}

// setsIn returns the sets of a division as lists.
func setsIn(sets []int64) [][]int64 {
	lists := make([][]int64, slices.Max(sets)+1)
	for x, k := range sets {
		lists[k] = append(lists[k], int64(x))
	}
	return lists
}

// checkCongruences checks the congruences of all pairs of elements, and returns how many divisions of a square
// into more than one class, and fewer than all elements are, are congruences.
func checkCongruences(t *testing.T, q impl.Square) int {
	t.Helper()
	var all [][]int64
	divisionsOf(q.Order, func(sets []int64) {
		if isCongruence(q, sets) {
			all = append(all, slices.Clone(sets))
		}
	})
	for x := range byte(q.Order) {
		for y := range byte(q.Order) {
			var best []int64
			equal := 0
			for _, sets := range all {
				switch {
				case sets[x] != sets[y]:
				case best == nil || slices.Max(sets) > slices.Max(best):
					best, equal = sets, 1
				case slices.Max(sets) == slices.Max(best):
					equal++
				}
			}
			if classes, code := impl.CongruenceOf(q, x, y); equal != 1 || !sameLists(classes, setsIn(best)) || code != impl.ErrNone {
				t.Errorf("%v: CongruenceOf(%d, %d) = %v, %d, and of %v there are %d", q, x, y, classes, code, best, equal)
			}
		}
	}
	return len(all) - min(int(q.Order), 2)
}

func TestCongruencesByTrial(t *testing.T) {
	met := map[bool]int{}
	for _, q := range append(squaresForMaps(t), allSquaresOfOrderThree()...) {
		met[impl.IsLoop(q)] += checkCongruences(t, q)
	}
	smallLoops(func(q impl.Square) { met[true] += checkCongruences(t, q) })
	for _, q := range extensions(t) {
		if q.Order <= 8 {
			met[true] += checkCongruences(t, q)
		}
	}
	if met[true] < 100 || met[false] < 30 {
		t.Errorf("%v congruences are too few", met)
	}
}

func TestCongruencesOfExamples(t *testing.T) {
	cases := []struct {
		q       impl.Square
		x, y    byte
		classes [][]int64
	}{
		{squareOf(t, textOfOne), 0, 0, [][]int64{{0}}},
		{cyclicOf(t, 4), 0, 2, [][]int64{{0, 2}, {1, 3}}},
		{cyclicOf(t, 4), 3, 1, [][]int64{{0, 2}, {1, 3}}},
		{cyclicOf(t, 4), 1, 2, [][]int64{{0, 1, 2, 3}}},
		{cyclicOf(t, 4), 3, 3, [][]int64{{0}, {1}, {2}, {3}}},
		{cyclicOf(t, 10), 9, 4, [][]int64{{0, 5}, {1, 6}, {2, 7}, {3, 8}, {4, 9}}},
		{cyclicOf(t, 10), 9, 7, [][]int64{{0, 2, 4, 6, 8}, {1, 3, 5, 7, 9}}},
		{cyclicOf(t, 10), 9, 9, [][]int64{{0}, {1}, {2}, {3}, {4}, {5}, {6}, {7}, {8}, {9}}},
		{linearOf(10, 3, 7, 5), 8, 3, [][]int64{{0, 5}, {1, 6}, {2, 7}, {3, 8}, {4, 9}}},
		{squareOf(t, textOfSubtract), 1, 2, [][]int64{{0, 1, 2}}},
		{squareOf(t, textOfShifted), 1, 3, [][]int64{{0, 2}, {1, 3}}},
		{squareOf(t, textOfTurns3), 4, 3, [][]int64{{0, 1, 2}, {3, 4, 5}}},
		{squareOf(t, textOfTurns3), 3, 0, [][]int64{{0, 1, 2, 3, 4, 5}}},
		{squareOf(t, textOfCentre2), 5, 4, [][]int64{{0, 1}, {2, 3}, {4, 5}}},
		{squareOf(t, textOfTurns4), 5, 7, [][]int64{{0, 2}, {1, 3}, {4, 6}, {5, 7}}},
		{squareOf(t, textOfTurns4), 5, 3, [][]int64{{0, 2, 4, 6}, {1, 3, 5, 7}}},
		{steinerOf10(), 1, 0, [][]int64{{0, 1, 2, 3, 4, 5, 6, 7, 8, 9}}},
	}
	for _, c := range cases {
		if classes, code := impl.CongruenceOf(c.q, c.x, c.y); !sameLists(classes, c.classes) || code != impl.ErrNone {
			t.Errorf("%v: CongruenceOf(%d, %d) = %v, %d", c.q, c.x, c.y, classes, code)
		}
	}
}

// innerIn returns inner maps of a loop of which all other ones are made.
func innerIn(q impl.Square) []impl.Places {
	var list []impl.Places
	for x := range byte(q.Order) {
		p, _ := impl.TurnMap(q, x)
		list = append(list, p)
		for y := range byte(q.Order) {
			l, _ := impl.LeftInner(q, x, y)
			r, _ := impl.RightInner(q, x, y)
			list = append(list, l, r)
		}
	}
	return list
}

// normalsByTrial returns the subloops of a loop that all inner maps lead to themselves, in the order of AllNormal.
func normalsByTrial(q impl.Square) []uint {
	inner := innerIn(q)
	return slices.DeleteFunc(subloopsByTrial(q), func(set uint) bool {
		return slices.ContainsFunc(inner, func(p impl.Places) bool { return maskOf(p, set) != set })
	})
}

// checkNormals checks what is told of all normal subloops of a loop, and of all its sets of elements.
func checkNormals(t *testing.T, q impl.Square) []uint {
	t.Helper()
	normals := normalsByTrial(q)
	if lists, code := impl.AllNormal(q); !sameLists(lists, listsIn(normals)) || code != impl.ErrNone {
		t.Errorf("%v: AllNormal = %v, %d", q, lists, code)
	}
	if yes, code := impl.IsSimpleLoop(q); yes != (q.Order > 1 && len(normals) == 2) || code != impl.ErrNone {
		t.Errorf("%v: IsSimpleLoop = %v, %d", q, yes, code)
	}
	checkClosed(t, q, normals, impl.IsNormalSubloop, impl.NormalClosure)
	return normals
}

func TestNormalsByTrial(t *testing.T) {
	met := map[string]int{}
	eachLoop(t, func(q impl.Square) {
		normals := checkNormals(t, q)
		subloops := len(subloopsByTrial(q))
		met["some subloops are not normal"] += countOf(len(normals) < subloops)
		met["simple"] += countOf(len(normals) == 2)
		met["simple with other subloops"] += countOf(len(normals) == 2 && subloops > 2)
		met["neither simple nor a group"] += countOf(len(normals) > 2 && !impl.IsGroup(q))
		for _, set := range normals {
			met["normal and not central"] += countOf(!impl.IsGroup(q) && int64(len(numbersIn(set))) < q.Order && !slices.Equal(numbersIn(set), []int64{0}) &&
				!slices.Equal(numbersIn(set), centreByTrial(q)))
		}
	})
	for _, kind := range []string{"some subloops are not normal", "simple", "simple with other subloops", "neither simple nor a group", "normal and not central"} {
		if met[kind] < 20 {
			t.Errorf("%s: %d loops are too few", kind, met[kind])
		}
	}
}

// That all inner maps of a loop lead a set to itself is looked at for all of them here.
func TestNormalsByAllInnerMaps(t *testing.T) {
	for _, q := range loopsForNuclei(t) {
		if order, _ := impl.MultiplicationOrder(q); order > 2000 {
			continue
		}
		rows, columns := rowsAndColumns(q)
		all := membersByTrial(append(rows, columns...), q.Order)
		for _, set := range subloopsByTrial(q) {
			kept := true
			for p := range all {
				kept = kept && (p[0] != 0 || maskOf(p, set) == set)
			}
			if yes, code := impl.IsNormalSubloop(q, numbersIn(set)); yes != kept || code != impl.ErrNone {
				t.Errorf("%v: IsNormalSubloop(%v) = %v, %d", q, numbersIn(set), yes, code)
			}
		}
	}
}

func TestNormalsOfExamples(t *testing.T) {
	all6, all8 := []int64{0, 1, 2, 3, 4, 5}, []int64{0, 1, 2, 3, 4, 5, 6, 7}
	cases := []struct {
		text    string
		normals [][]int64
		simple  bool
	}{
		{textOfOne, [][]int64{{0}}, false},
		{"01/10", [][]int64{{0}, {0, 1}}, true},
		{textOfTurns3, [][]int64{{0}, {0, 1, 2}, all6}, false},
		{textOfTurns4, [][]int64{{0}, {0, 2}, {0, 1, 2, 3}, {0, 2, 4, 6}, {0, 2, 5, 7}, all8}, false},
		{textOfQuarters, [][]int64{{0}, {0, 1}, {0, 1, 2, 3}, {0, 1, 4, 5}, {0, 1, 6, 7}, all8}, false},
		{textOfLoop5, [][]int64{{0}, {0, 1, 2, 3, 4}}, true},
		{textOfCentre2, [][]int64{{0}, {0, 1}, all6}, false},
	}
	for _, c := range cases {
		q := squareOf(t, c.text)
		if lists, code := impl.AllNormal(q); !sameLists(lists, c.normals) || code != impl.ErrNone {
			t.Errorf("%s: AllNormal = %v, %d", c.text, lists, code)
		}
		if yes, code := impl.IsSimpleLoop(q); yes != c.simple || code != impl.ErrNone {
			t.Errorf("%s: IsSimpleLoop = %v, %d", c.text, yes, code)
		}
	}
	// A cyclic group is simple if its order is prime, and it has no subgroup that is not normal.
	for n := int64(1); n <= impl.MaxOrder; n++ {
		q := cyclicOf(t, n)
		if yes, code := impl.IsSimpleLoop(q); yes != slices.Contains([]int64{2, 3, 5, 7}, n) || code != impl.ErrNone {
			t.Errorf("order %d: IsSimpleLoop = %v, %d", n, yes, code)
		}
		subloops, _ := impl.AllSubloops(q)
		if lists, code := impl.AllNormal(q); !sameLists(lists, subloops) || code != impl.ErrNone {
			t.Errorf("order %d: AllNormal = %v, %d", n, lists, code)
		}
	}
	for k, want := range []int{1, 2, 5, 16} {
		if lists, code := impl.AllNormal(elementaryOf(t, int64(k))); len(lists) != want || code != impl.ErrNone {
			t.Errorf("the normal subloops of the elementary square %d are %v, %d", k, lists, code)
		}
	}
	// The loop of the plane has many subloops, but is simple.
	lists, code := impl.AllNormal(steinerOf10())
	if yes, other := impl.IsSimpleLoop(steinerOf10()); len(lists) != 2 || !yes || code != impl.ErrNone || other != impl.ErrNone {
		t.Errorf("the normal subloops of the loop of the plane are %v, %d, and IsSimpleLoop = %v, %d", lists, code, yes, other)
	}
}

func TestNormalClosuresOfExamples(t *testing.T) {
	all6 := []int64{0, 1, 2, 3, 4, 5}
	cases := []struct {
		text       string
		list, want []int64
	}{
		{textOfOne, nil, []int64{0}},
		{textOfOne, []int64{}, []int64{0}},
		{textOfOne, []int64{0}, []int64{0}},
		{textOfTurns3, nil, []int64{0}},
		{textOfTurns3, []int64{0}, []int64{0}},
		{textOfTurns3, []int64{1}, []int64{0, 1, 2}},
		{textOfTurns3, []int64{1, 2}, []int64{0, 1, 2}},
		{textOfTurns3, []int64{0, 1, 2}, []int64{0, 1, 2}},
		{textOfTurns3, []int64{3}, all6},
		{textOfTurns3, []int64{0, 3}, all6},
		{textOfTurns3, all6, all6},
		{textOfTurns4, []int64{4}, []int64{0, 2, 4, 6}},
		{textOfTurns4, []int64{5, 7}, []int64{0, 2, 5, 7}},
		{textOfTurns4, []int64{4, 5}, []int64{0, 1, 2, 3, 4, 5, 6, 7}},
		{textOfLoop5, []int64{4}, []int64{0, 1, 2, 3, 4}},
		{textOfCentre2, []int64{1}, []int64{0, 1}},
		{textOfCentre2, []int64{2}, all6},
	}
	for _, c := range cases {
		q := squareOf(t, c.text)
		if made, code := impl.NormalClosure(q, c.list); !slices.Equal(made, c.want) || code != impl.ErrNone {
			t.Errorf("%s: NormalClosure(%v) = %v, %d", c.text, c.list, made, code)
		}
		if yes, code := impl.IsNormalSubloop(q, c.list); yes != slices.Equal(c.list, c.want) || code != impl.ErrNone {
			t.Errorf("%s: IsNormalSubloop(%v) = %v, %d", c.text, c.list, yes, code)
		}
	}
	made, code := impl.NormalClosure(steinerOf10(), []int64{9})
	if len(made) != 10 || code != impl.ErrNone {
		t.Errorf("NormalClosure = %v, %d", made, code)
	}
	made, code = impl.NormalClosure(groupOfTurns(5), []int64{1})
	if !slices.Equal(made, []int64{0, 1, 2, 3, 4}) || code != impl.ErrNone {
		t.Errorf("NormalClosure = %v, %d", made, code)
	}
}

// quotientByTrial returns the loop of the sets x * N, and the number of the set of each element, by the
// definition, and whether the products of two sets are in one set.
func quotientByTrial(q impl.Square, normal uint) (impl.Square, []int64, bool) {
	cosets, apart := cosetsByTrial(q, normal)
	numberOf := func(x byte) int64 {
		return int64(slices.IndexFunc(cosets, func(coset uint) bool { return coset>>x&1 == 1 }))
	}
	quotient := impl.Square{Order: int64(len(cosets))}
	var projection []int64
	for x := range byte(q.Order) {
		projection = append(projection, numberOf(x))
	}
	for a, first := range cosets {
		for b, second := range cosets {
			quotient.Table[a][b] = byte(numberOf(q.Table[numbersIn(first)[0]][numbersIn(second)[0]]))
		}
	}
	return quotient, projection, apart && isCongruence(q, projection)
}

// checkQuotients checks the quotients of a loop by all its sets of elements.
func checkQuotients(t *testing.T, q impl.Square) {
	t.Helper()
	normals := normalsByTrial(q)
	for set := range uint(1) << q.Order {
		list := numbersIn(set)
		quotient, projection, code := impl.QuotientLoop(q, list)
		if !slices.Contains(normals, set) {
			if quotient != (impl.Square{}) || len(projection) != 0 || code != impl.ErrState {
				t.Errorf("%v: QuotientLoop(%v) = %v, %v, %d", q, list, quotient, projection, code)
			}
			continue
		}
		want, numbers, good := quotientByTrial(q, set)
		if !good || quotient != want || !slices.Equal(projection, numbers) || code != impl.ErrNone {
			t.Errorf("%v: QuotientLoop(%v) = %v, %v, %d", q, list, quotient, projection, code)
		}
	}
}

func TestQuotientsByTrial(t *testing.T) {
	eachLoop(t, func(q impl.Square) { checkQuotients(t, q) })
}

func TestQuotientsOfExamples(t *testing.T) {
	one, two := cyclicOf(t, 1), cyclicOf(t, 2)
	cases := []struct {
		q          impl.Square
		list       []int64
		quotient   impl.Square
		projection []int64
		code       int64
	}{
		{cyclicOf(t, 4), []int64{0, 2}, two, []int64{0, 1, 0, 1}, impl.ErrNone},
		{cyclicOf(t, 4), []int64{0}, cyclicOf(t, 4), []int64{0, 1, 2, 3}, impl.ErrNone},
		{cyclicOf(t, 4), []int64{0, 1, 2, 3}, one, []int64{0, 0, 0, 0}, impl.ErrNone},
		{cyclicOf(t, 4), []int64{0, 1}, impl.Square{}, nil, impl.ErrState},
		{cyclicOf(t, 4), nil, impl.Square{}, nil, impl.ErrState},
		{cyclicOf(t, 4), []int64{}, impl.Square{}, nil, impl.ErrState},
		{cyclicOf(t, 4), []int64{2}, impl.Square{}, nil, impl.ErrState},
		{one, []int64{0}, one, []int64{0}, impl.ErrNone},
		{one, nil, impl.Square{}, nil, impl.ErrState},
		{cyclicOf(t, 10), []int64{0, 5}, cyclicOf(t, 5), []int64{0, 1, 2, 3, 4, 0, 1, 2, 3, 4}, impl.ErrNone},
		{cyclicOf(t, 10), []int64{0, 2, 4, 6, 8}, two, []int64{0, 1, 0, 1, 0, 1, 0, 1, 0, 1}, impl.ErrNone},
		{squareOf(t, textOfTurns3), []int64{0, 1, 2}, two, []int64{0, 0, 0, 1, 1, 1}, impl.ErrNone},
		{squareOf(t, textOfTurns3), []int64{0, 3}, impl.Square{}, nil, impl.ErrState},
		{squareOf(t, textOfTurns3), []int64{3, 4, 5}, impl.Square{}, nil, impl.ErrState},
		{squareOf(t, textOfTurns4), []int64{0, 2}, elementaryOf(t, 2), []int64{0, 1, 0, 1, 2, 3, 2, 3}, impl.ErrNone},
		{squareOf(t, textOfTurns4), []int64{0, 2, 5, 7}, two, []int64{0, 1, 0, 1, 1, 0, 1, 0}, impl.ErrNone},
		{squareOf(t, textOfTurns4), []int64{0, 4}, impl.Square{}, nil, impl.ErrState},
		{squareOf(t, textOfCentre2), []int64{0, 1}, cyclicOf(t, 3), []int64{0, 0, 1, 1, 2, 2}, impl.ErrNone},
		{squareOf(t, textOfLoop5), []int64{0, 1}, impl.Square{}, nil, impl.ErrState},
		{steinerOf10(), []int64{0, 1, 2, 3}, impl.Square{}, nil, impl.ErrState},
		{steinerOf10(), []int64{0}, steinerOf10(), []int64{0, 1, 2, 3, 4, 5, 6, 7, 8, 9}, impl.ErrNone},
	}
	for _, c := range cases {
		quotient, projection, code := impl.QuotientLoop(c.q, c.list)
		if quotient != c.quotient || !slices.Equal(projection, c.projection) || code != c.code {
			t.Errorf("%v: QuotientLoop(%v) = %v, %v, %d", c.q, c.list, quotient, projection, code)
		}
	}
}

// keepsProducts reports whether the element of r for a product in q is always the product of those for both factors.
func keepsProducts(q impl.Square, r impl.Square, list []int64) bool {
	return always(q, func(x byte, y byte) bool {
		return int64(r.Table[list[x]][list[y]]) == list[q.Table[x][y]]
	})
}

// homomorphismsByTrial returns all lists of elements of r, one for each of q, that are homomorphisms, in order.
func homomorphismsByTrial(q impl.Square, r impl.Square, each func(list []int64, good bool)) [][]int64 {
	list := make([]int64, q.Order)
	var found [][]int64
	var extend func(x int64)
	extend = func(x int64) {
		if x == q.Order {
			good := keepsProducts(q, r, list)
			if each(list, good); good {
				found = append(found, slices.Clone(list))
			}
			return
		}
		for v := range r.Order {
			list[x] = v
			extend(x + 1)
		}
	}
	extend(0)
	return found
}

// mapsBetween returns how many lists of elements of r there are with one for each element of q.
func mapsBetween(q impl.Square, r impl.Square) int64 {
	count := int64(1)
	for range q.Order {
		count *= r.Order
	}
	return count
}

// checkHomomorphisms checks all lists of elements of r, one for each of q, and returns how many homomorphisms there are.
func checkHomomorphisms(t *testing.T, q impl.Square, r impl.Square) int {
	t.Helper()
	want := homomorphismsByTrial(q, r, func(list []int64, good bool) {
		if yes, code := impl.IsHomomorphism(q, r, list); yes != good || code != impl.ErrNone {
			t.Errorf("%v to %v: IsHomomorphism(%v) = %v, %d", q, r, list, yes, code)
		}
	})
	if lists, code := impl.AllHomomorphisms(q, r); !sameLists(lists, want) || code != impl.ErrNone {
		t.Errorf("%v to %v: AllHomomorphisms = %v, %d", q, r, lists, code)
	}
	return len(want)
}

func TestHomomorphismsByTrial(t *testing.T) {
	list := append(squaresForMaps(t), allSquaresOfOrderThree()...)
	list = append(list, squareOf(t, textOfCentre2), squareOf(t, textOfAutomorphic6))
	met := map[int]int{}
	for _, q := range list {
		for _, r := range list {
			if mapsBetween(q, r) <= 10000 {
				met[checkHomomorphisms(t, q, r)]++
			}
		}
	}
	if met[0] < 100 || met[1] < 100 || met[2] < 100 || met[4] < 20 {
		t.Errorf("numbers of homomorphisms: %v", met)
	}
}

func TestHomomorphismsOfExamples(t *testing.T) {
	cases := []struct {
		q, r impl.Square
		maps [][]int64
	}{
		{cyclicOf(t, 4), cyclicOf(t, 2), [][]int64{{0, 0, 0, 0}, {0, 1, 0, 1}}},
		{cyclicOf(t, 2), cyclicOf(t, 4), [][]int64{{0, 0}, {0, 2}}},
		{cyclicOf(t, 1), cyclicOf(t, 4), [][]int64{{0}}},
		{cyclicOf(t, 4), cyclicOf(t, 1), [][]int64{{0, 0, 0, 0}}},
		{cyclicOf(t, 1), cyclicOf(t, 1), [][]int64{{0}}},
		{steinerOf10(), cyclicOf(t, 1), [][]int64{{0, 0, 0, 0, 0, 0, 0, 0, 0, 0}}},
		{squareOf(t, textOfShifted), cyclicOf(t, 1), [][]int64{{0, 0, 0, 0}}},
		// The loop of order 1 is led to an element that is its own square.
		{cyclicOf(t, 1), squareOf(t, textOfShifted), [][]int64{{3}}},
		{cyclicOf(t, 1), subtractOf(10), [][]int64{{0}}},
		{cyclicOf(t, 1), linearOf(5, 3, 3, 0), [][]int64{{0}, {1}, {2}, {3}, {4}}},
		{cyclicOf(t, 1), linearOf(10, 3, 7, 5), [][]int64{{5}}},
		{cyclicOf(t, 1), linearOf(10, 3, 3, 1), nil},
		{cyclicOf(t, 4), linearOf(10, 3, 3, 1), nil},
		{cyclicOf(t, 2), squareOf(t, textOfShifted), [][]int64{{3, 1}, {3, 3}}},
		{squareOf(t, textOfShifted), cyclicOf(t, 2), [][]int64{{0, 0, 0, 0}, {1, 0, 1, 0}}},
		{cyclicOf(t, 3), squareOf(t, textOfTurns3), [][]int64{{0, 0, 0}, {0, 1, 2}, {0, 2, 1}}},
		{squareOf(t, textOfTurns3), cyclicOf(t, 2), [][]int64{{0, 0, 0, 0, 0, 0}, {0, 0, 0, 1, 1, 1}}},
		{squareOf(t, textOfTurns3), cyclicOf(t, 3), [][]int64{{0, 0, 0, 0, 0, 0}}},
		{squareOf(t, textOfLoop5), cyclicOf(t, 10), [][]int64{{0, 0, 0, 0, 0}}},
		{squareOf(t, textOfLoop7), squareOf(t, textOfLoop7), [][]int64{{0, 0, 0, 0, 0, 0, 0}, {0, 1, 2, 3, 4, 5, 6}}},
	}
	for _, c := range cases {
		if lists, code := impl.AllHomomorphisms(c.q, c.r); !sameLists(lists, c.maps) || code != impl.ErrNone {
			t.Errorf("%v to %v: AllHomomorphisms = %v, %d", c.q, c.r, lists, code)
		}
	}
}

// isAscending reports whether lists stand in their order, none of them twice.
func isAscending(lists [][]int64) bool {
	for k := range lists {
		if k > 0 && slices.Compare(lists[k-1], lists[k]) >= 0 {
			return false
		}
	}
	return true
}

// mapsIn returns all homomorphisms from q to r, and checks that each of them is one, and that they are in order.
func mapsIn(t *testing.T, q impl.Square, r impl.Square) [][]int64 {
	t.Helper()
	lists, code := impl.AllHomomorphisms(q, r)
	if !isAscending(lists) || code != impl.ErrNone {
		t.Fatalf("%v to %v: AllHomomorphisms = %v, %d", q, r, lists, code)
	}
	for _, list := range lists {
		good := int64(len(list)) == q.Order && keepsProducts(q, r, list)
		if yes, code := impl.IsHomomorphism(q, r, list); !good || !yes || code != impl.ErrNone {
			t.Errorf("%v to %v: AllHomomorphisms has %v, but IsHomomorphism = %v, %d", q, r, list, yes, code)
		}
	}
	return lists
}

func TestHomomorphismsOfKnownNumbers(t *testing.T) {
	if impl.MaxMaps != 2000 {
		t.Errorf("MaxMaps = %d", impl.MaxMaps)
	}
	line := linearOf(3, 2, 2, 0)
	plane := productOf(t, line, line)
	turns4, quarters := squareOf(t, textOfTurns4), squareOf(t, textOfQuarters)
	cases := []struct {
		q, r  impl.Square
		count int
	}{
		{turns4, turns4, 36}, {quarters, quarters, 28}, {squareOf(t, textOfTurns3), squareOf(t, textOfTurns3), 10}, {groupOfTurns(5), groupOfTurns(5), 26},
		// The plane of nine points is led to itself by all affine maps, no two squares here have more.
		{plane, plane, 729}, {line, plane, 81}, {plane, line, 27}, {plane, cyclicOf(t, 9), 1},
		{elementaryOf(t, 3), steinerOf10(), 1 + 7*9 + 42*12}, {elementaryOf(t, 3), turns4, 1 + 7*5 + 7*2*6}, {steinerOf10(), elementaryOf(t, 3), 1},
		{linearOf(9, 5, 5, 0), linearOf(9, 5, 5, 0), 81}, {linearOf(7, 5, 3, 0), linearOf(7, 5, 3, 0), 49}, {subtractOf(10), subtractOf(10), 10},
	}
	for m := int64(1); m <= impl.MaxOrder; m++ {
		for n := int64(1); n <= impl.MaxOrder; n++ {
			common := m
			for m%common != 0 || n%common != 0 {
				common--
			}
			cases = append(cases, struct {
				q, r  impl.Square
				count int
			}{cyclicOf(t, m), cyclicOf(t, n), int(common)})
		}
	}
	for j := range int64(4) {
		for k := range int64(4) {
			cases = append(cases, struct {
				q, r  impl.Square
				count int
			}{elementaryOf(t, j), elementaryOf(t, k), 1 << (j * k)})
		}
	}
	for _, c := range cases {
		if lists := mapsIn(t, c.q, c.r); len(lists) != c.count {
			t.Errorf("%v to %v: %d homomorphisms, and not %d", c.q, c.r, len(lists), c.count)
		}
	}
}

// partOf returns the loop of the elements of a subloop, numbered in ascending order.
func partOf(q impl.Square, subloop []int64) impl.Square {
	part := impl.Square{Order: int64(len(subloop))}
	for i, x := range subloop {
		for j, y := range subloop {
			part.Table[i][j] = byte(slices.Index(subloop, int64(q.Table[x][y])))
		}
	}
	return part
}

// partsIn returns the loops of all subloops of a loop, and its quotients by all normal subloops.
func partsIn(q impl.Square) (parts []impl.Square, quotients []impl.Square) {
	for _, set := range subloopsByTrial(q) {
		parts = append(parts, partOf(q, numbersIn(set)))
	}
	for _, set := range normalsByTrial(q) {
		quotient, _, _ := quotientByTrial(q, set)
		quotients = append(quotients, quotient)
	}
	return parts, quotients
}

// Each homomorphism of loops is made of a projection and an isomorphism from the quotient to a subloop.
func TestHomomorphismsByQuotients(t *testing.T) {
	list := []impl.Square{steinerOf10(), squareOf(t, textOfTurns4), squareOf(t, textOfQuarters), squareOf(t, textOfCentre2), squareOf(t, textOfTurns3),
		squareOf(t, textOfLoop6), squareOf(t, textOfLoop5), squareOf(t, textOfAutomorphic6), elementaryOf(t, 2), elementaryOf(t, 3), groupOfTurns(5),
		cyclicOf(t, 8), cyclicOf(t, 9), cyclicOf(t, 10)}
	for k, q := range extensions(t) {
		if k%5 == 0 {
			list = append(list, q)
		}
	}
	for _, q := range list {
		_, quotients := partsIn(q)
		for _, r := range list {
			parts, _ := partsIn(r)
			count := 0
			for _, quotient := range quotients {
				automorphisms, _ := impl.AutomorphismsOf(quotient)
				for _, part := range parts {
					if part.Order != quotient.Order {
						continue
					}
					if _, code := impl.IsomorphismOf(quotient, part); code == impl.ErrNone {
						count += len(automorphisms)
					}
				}
			}
			if lists := mapsIn(t, q, r); len(lists) != count {
				t.Errorf("%v to %v: %d homomorphisms, and not %d", q, r, len(lists), count)
			}
		}
	}
}

// numbersOf returns the entries of p as numbers.
func numbersOf(p impl.Places, n int64) []int64 {
	var list []int64
	for _, v := range p[:n] {
		list = append(list, int64(v))
	}
	return list
}

// The bijective homomorphisms between squares of one order are the isomorphisms.
func TestHomomorphismsAndIsomorphisms(t *testing.T) {
	for _, q := range append(squaresForMaps(t), loopsForNuclei(t)...) {
		places := somePlaces(q.Order)
		for _, r := range []impl.Square{q, isotopeOf(t, q, thrice(places[len(places)-1])), oppositeIn(t, q)} {
			var bijective [][]int64
			for _, list := range mapsIn(t, q, r) {
				sorted := slices.Sorted(slices.Values(list))
				if len(slices.Compact(sorted)) == len(list) {
					bijective = append(bijective, list)
				}
			}
			first, code := impl.IsomorphismOf(q, r)
			count, _ := impl.CountAutomorphisms(q)
			if code == impl.ErrNotFound {
				count = 0
			}
			if int64(len(bijective)) != count || count > 0 && !slices.Equal(bijective[0], numbersOf(first, q.Order)) {
				t.Errorf("%v to %v: bijective homomorphisms %v, but isomorphisms %d, first %v", q, r, bijective, count, first)
			}
		}
	}
}

// checkKernels checks kernels and images of all homomorphisms from q to r, which are loops.
func checkKernels(t *testing.T, q impl.Square, r impl.Square) {
	t.Helper()
	for _, list := range mapsIn(t, q, r) {
		wanted := elementsThat(q, func(x byte) bool { return list[x] == 0 })
		kernel, code := impl.KernelOf(q, r, list)
		if !slices.Equal(kernel, wanted) || code != impl.ErrNone {
			t.Errorf("%v to %v: KernelOf(%v) = %v, %d", q, r, list, kernel, code)
		}
		met := elementsThat(r, func(v byte) bool { return slices.Contains(list, int64(v)) })
		image, code := impl.ImageOf(q, r, list)
		if !slices.Equal(image, met) || code != impl.ErrNone {
			t.Errorf("%v to %v: ImageOf(%v) = %v, %d", q, r, list, image, code)
		}
		// Promises 6 and 14: kernels are normal subloops, and images are subloops.
		normal, a := impl.IsNormalSubloop(q, kernel)
		first, b := impl.IsSubloop(q, kernel)
		second, c := impl.IsSubloop(r, image)
		if !normal || !first || !second || max(a, b, c) != impl.ErrNone {
			t.Errorf("%v to %v: the kernel of %v is %v, normal %v, and the image %v", q, r, list, kernel, normal, image)
		}
		// The quotient by the kernel is alike to the image.
		quotient, projection, code := impl.QuotientLoop(q, kernel)
		if _, other := impl.IsomorphismOf(quotient, partOf(r, image)); code != impl.ErrNone || other != impl.ErrNone {
			t.Errorf("%v to %v: the quotient by the kernel %v is %v, and the image %v", q, r, kernel, quotient, image)
		}
		for x := range list {
			for y := range list {
				if (projection[x] == projection[y]) != (list[x] == list[y]) {
					t.Errorf("%v: the projection %v does not divide the elements as %v", q, projection, list)
				}
			}
		}
	}
}

func TestKernelsAndImages(t *testing.T) {
	list := []impl.Square{cyclicOf(t, 1), cyclicOf(t, 2), cyclicOf(t, 6), cyclicOf(t, 10), squareOf(t, textOfTurns3), squareOf(t, textOfTurns4), squareOf(t, textOfQuarters),
		squareOf(t, textOfLoop5), squareOf(t, textOfCentre2), elementaryOf(t, 2), elementaryOf(t, 3), groupOfTurns(5), steinerOf10()}
	for k, q := range extensions(t) {
		if k%6 == 1 {
			list = append(list, q)
		}
	}
	for _, q := range list {
		for _, r := range list {
			if q.Order+r.Order <= 17 {
				checkKernels(t, q, r)
			}
		}
	}
	for n := 1; n <= 6; n++ {
		allLoops(n, func(q impl.Square) { checkKernels(t, q, q) })
	}
}

func TestKernelsAndImagesOfExamples(t *testing.T) {
	cases := []struct {
		q, r          impl.Square
		list          []int64
		kernel, image []int64
		code          int64
	}{
		{cyclicOf(t, 4), cyclicOf(t, 2), []int64{0, 1, 0, 1}, []int64{0, 2}, []int64{0, 1}, impl.ErrNone},
		{cyclicOf(t, 4), cyclicOf(t, 4), []int64{0, 2, 0, 2}, []int64{0, 2}, []int64{0, 2}, impl.ErrNone},
		{cyclicOf(t, 4), cyclicOf(t, 4), []int64{0, 3, 2, 1}, []int64{0}, []int64{0, 1, 2, 3}, impl.ErrNone},
		{cyclicOf(t, 4), cyclicOf(t, 4), []int64{0, 0, 0, 0}, []int64{0, 1, 2, 3}, []int64{0}, impl.ErrNone},
		{cyclicOf(t, 4), cyclicOf(t, 4), []int64{1, 2, 3, 0}, nil, nil, impl.ErrState},
		{cyclicOf(t, 4), cyclicOf(t, 4), []int64{0, 1, 2, 2}, nil, nil, impl.ErrState},
		{cyclicOf(t, 4), cyclicOf(t, 4), []int64{0, 1, 3, 2}, nil, nil, impl.ErrState},
		{cyclicOf(t, 4), cyclicOf(t, 4), []int64{1, 1, 1, 1}, nil, nil, impl.ErrState},
		{cyclicOf(t, 1), cyclicOf(t, 1), []int64{0}, []int64{0}, []int64{0}, impl.ErrNone},
		{cyclicOf(t, 1), cyclicOf(t, 2), []int64{0}, []int64{0}, []int64{0}, impl.ErrNone},
		{cyclicOf(t, 1), cyclicOf(t, 2), []int64{1}, nil, nil, impl.ErrState},
		{cyclicOf(t, 10), cyclicOf(t, 10), []int64{0, 4, 8, 2, 6, 0, 4, 8, 2, 6}, []int64{0, 5}, []int64{0, 2, 4, 6, 8}, impl.ErrNone},
		{steinerOf10(), cyclicOf(t, 1), slices.Repeat([]int64{0}, 10), []int64{0, 1, 2, 3, 4, 5, 6, 7, 8, 9}, []int64{0}, impl.ErrNone},
		{squareOf(t, textOfTurns3), squareOf(t, textOfTurns3), []int64{0, 0, 0, 5, 5, 5}, []int64{0, 1, 2}, []int64{0, 5}, impl.ErrNone},
		{squareOf(t, textOfCentre2), cyclicOf(t, 9), []int64{0, 0, 6, 6, 3, 3}, []int64{0, 1}, []int64{0, 3, 6}, impl.ErrNone},
		{squareOf(t, textOfLoop5), squareOf(t, textOfLoop5), []int64{0, 1, 2, 3, 4}, []int64{0}, []int64{0, 1, 2, 3, 4}, impl.ErrNone},
	}
	for _, c := range cases {
		if kernel, code := impl.KernelOf(c.q, c.r, c.list); !slices.Equal(kernel, c.kernel) || code != c.code {
			t.Errorf("%v to %v: KernelOf(%v) = %v, %d", c.q, c.r, c.list, kernel, code)
		}
		if image, code := impl.ImageOf(c.q, c.r, c.list); !slices.Equal(image, c.image) || code != c.code {
			t.Errorf("%v to %v: ImageOf(%v) = %v, %d", c.q, c.r, c.list, image, code)
		}
		if yes, code := impl.IsHomomorphism(c.q, c.r, c.list); yes != (c.code == impl.ErrNone) || code != impl.ErrNone {
			t.Errorf("%v to %v: IsHomomorphism(%v) = %v, %d", c.q, c.r, c.list, yes, code)
		}
	}
}

// differencesByTrial returns the sets of the commutators, and of the associators, of a loop.
func differencesByTrial(q impl.Square) (commutators uint, associators uint) {
	left, _ := quotientsIn(q)
	m := q.Table
	for x := range byte(q.Order) {
		for y := range byte(q.Order) {
			commutators |= 1 << left(m[y][x], m[x][y])
			for z := range byte(q.Order) {
				associators |= 1 << left(m[x][m[y][z]], m[m[x][y]][z])
			}
		}
	}
	return commutators, associators
}

func TestDerivedSubloopsByTrial(t *testing.T) {
	parts := 0
	eachLoop(t, func(q impl.Square) {
		normals := normalsByTrial(q)
		commutators, associators := differencesByTrial(q)
		derived := numbersIn(generatedByTrial(normals, commutators|associators))
		if list, code := impl.DerivedSubloop(q); !slices.Equal(list, derived) || code != impl.ErrNone {
			t.Errorf("%v: DerivedSubloop = %v, %d", q, list, code)
		}
		without := numbersIn(generatedByTrial(normals, associators))
		if list, code := impl.AssociatorSubloop(q); !slices.Equal(list, without) || code != impl.ErrNone {
			t.Errorf("%v: AssociatorSubloop = %v, %d", q, list, code)
		}
		parts += countOf(!impl.IsGroup(q) && int64(len(derived)) < q.Order)
	})
	if parts < 20 {
		t.Errorf("%d loops that are no groups with smaller derived subloops are too few", parts)
	}
}

func TestDerivedSubloopsOfExamples(t *testing.T) {
	cases := []struct {
		text                string
		derived, associator []int64
	}{
		{textOfOne, []int64{0}, []int64{0}},
		{"01/10", []int64{0}, []int64{0}},
		{textOfTurns3, []int64{0, 1, 2}, []int64{0}},
		{textOfTurns4, []int64{0, 2}, []int64{0}},
		{textOfQuarters, []int64{0, 1}, []int64{0}},
		{textOfLoop5, []int64{0, 1, 2, 3, 4}, []int64{0, 1, 2, 3, 4}},
		{textOfCentre2, []int64{0, 1}, []int64{0, 1}},
	}
	for _, c := range cases {
		q := squareOf(t, c.text)
		if list, code := impl.DerivedSubloop(q); !slices.Equal(list, c.derived) || code != impl.ErrNone {
			t.Errorf("%s: DerivedSubloop = %v, %d", c.text, list, code)
		}
		if list, code := impl.AssociatorSubloop(q); !slices.Equal(list, c.associator) || code != impl.ErrNone {
			t.Errorf("%s: AssociatorSubloop = %v, %d", c.text, list, code)
		}
	}
	for n := int64(1); n <= impl.MaxOrder; n++ {
		derived, a := impl.DerivedSubloop(cyclicOf(t, n))
		free, b := impl.AssociatorSubloop(cyclicOf(t, n))
		if !slices.Equal(derived, []int64{0}) || !slices.Equal(free, []int64{0}) || a != impl.ErrNone || b != impl.ErrNone {
			t.Errorf("order %d: DerivedSubloop = %v, %d, and AssociatorSubloop = %v, %d", n, derived, a, free, b)
		}
	}
}

// isCommutative reports whether x * y is y * x for all x and y.
func isCommutative(q impl.Square) bool {
	return always(q, func(x byte, y byte) bool { return q.Table[x][y] == q.Table[y][x] })
}

// checkQuotientLoops checks promise 6 for all normal subloops of a loop.
func checkQuotientLoops(t *testing.T, q impl.Square) {
	t.Helper()
	derived, a := impl.DerivedSubloop(q)
	free, b := impl.AssociatorSubloop(q)
	normals, c := impl.AllNormal(q)
	if max(a, b, c) != impl.ErrNone || len(normals) == 0 {
		t.Fatalf("%v: codes %d, %d, %d, and %v", q, a, b, c, normals)
	}
	has := func(list []int64, other []int64) bool {
		return !slices.ContainsFunc(other, func(x int64) bool { return !slices.Contains(list, x) })
	}
	for _, normal := range normals {
		quotient, projection, code := impl.QuotientLoop(q, normal)
		if !impl.IsLoop(quotient) || quotient.Order*int64(len(normal)) != q.Order || code != impl.ErrNone {
			t.Errorf("%v: QuotientLoop(%v) = %v, %v, %d", q, normal, quotient, projection, code)
		}
		yes, a := impl.IsHomomorphism(q, quotient, projection)
		kernel, b := impl.KernelOf(q, quotient, projection)
		image, c := impl.ImageOf(q, quotient, projection)
		if !yes || !slices.Equal(kernel, normal) || int64(len(image)) != quotient.Order || max(a, b, c) != impl.ErrNone {
			t.Errorf("%v: the projection %v by %v is %v, with kernel %v and image %v", q, projection, normal, yes, kernel, image)
		}
		// These subloops are the least ones by which the quotient is a group, and a commutative one.
		if group := impl.IsGroup(quotient); group != has(normal, free) || (group && isCommutative(quotient)) != has(normal, derived) {
			t.Errorf("%v: the quotient by %v is %v, but the subloops are %v and %v", q, normal, quotient, free, derived)
		}
	}
}

// Promise 6: kernels are normal, quotients are loops, and quotients by derived subloops are commutative groups.
func TestQuotientsAreLoops(t *testing.T) {
	check := func(q impl.Square) {
		checkQuotientLoops(t, q)
		derived, a := impl.DerivedSubloop(q)
		group, _, b := impl.QuotientLoop(q, derived)
		if !impl.IsGroup(group) || !isCommutative(group) || a != impl.ErrNone || b != impl.ErrNone {
			t.Errorf("%v: the quotient by %v, %d, is %v, %d", q, derived, a, group, b)
		}
	}
	eachLoop(t, check)
	allLoops(6, check)
}

// Promise 14: the centre is a normal subloop.
func TestCentresAreNormal(t *testing.T) {
	check := func(q impl.Square) {
		lists, code := impl.UpperSeries(q)
		for _, list := range append(lists, listIn(t, "CentreOf", q), []int64{0}, numbersIn(1<<q.Order-1)) {
			normal, a := impl.IsNormalSubloop(q, list)
			yes, b := impl.IsSubloop(q, list)
			if !normal || !yes || max(a, b, code) != impl.ErrNone {
				t.Errorf("%v: IsNormalSubloop(%v) = %v, %d", q, list, normal, a)
			}
		}
		_, projection, code := impl.QuotientLoop(q, listIn(t, "CentreOf", q))
		if int64(len(projection)) != q.Order || code != impl.ErrNone {
			t.Errorf("%v: the quotient by the centre has the projection %v, %d", q, projection, code)
		}
	}
	eachLoop(t, check)
	allLoops(6, check)
}

// Normal closures are normal, and so are derived and associator subloops.
func TestNormalClosuresAreNormal(t *testing.T) {
	for _, q := range loopsForNuclei(t) {
		lists := [][]int64{}
		for set := range uint(1) << q.Order {
			made, code := impl.NormalClosure(q, numbersIn(set))
			if code != impl.ErrNone {
				t.Errorf("%v: NormalClosure(%v) = %v, %d", q, numbersIn(set), made, code)
			}
			lists = append(lists, made)
		}
		derived, a := impl.DerivedSubloop(q)
		free, b := impl.AssociatorSubloop(q)
		for _, list := range append(lists, derived, free) {
			if yes, code := impl.IsNormalSubloop(q, list); !yes || max(a, b, code) != impl.ErrNone {
				t.Errorf("%v: IsNormalSubloop(%v) = %v, %d", q, list, yes, code)
			}
		}
	}
}

// What is told of a loop holds in all loops that are alike.
func TestNormalsOfIsomorphicLoops(t *testing.T) {
	for _, q := range loopsForNuclei(t) {
		for _, p := range somePlaces(q.Order) {
			p[slices.Index(p[:q.Order], 0)], p[0] = p[0], 0
			checkNormalsAlike(t, q, isotopeOf(t, q, thrice(p)), p)
		}
	}
}

// checkNormalsAlike checks that what is told of q is told of r, to which an isomorphism p leads it.
func checkNormalsAlike(t *testing.T, q impl.Square, r impl.Square, p impl.Places) {
	t.Helper()
	normals, _ := impl.AllNormal(q)
	var led [][]int64
	for _, list := range normals {
		led = append(led, ledList(p, list))
		first, _, a := impl.QuotientLoop(q, list)
		second, _, b := impl.QuotientLoop(r, ledList(p, list))
		if _, code := impl.IsomorphismOf(first, second); max(a, b, code) != impl.ErrNone {
			t.Errorf("%v: the quotient by %v is %v, but led on %v", q, list, first, second)
		}
	}
	slices.SortFunc(led, func(a []int64, b []int64) int { return cmp.Or(cmp.Compare(len(a), len(b)), slices.Compare(a, b)) })
	if others, code := impl.AllNormal(r); !sameLists(others, led) || code != impl.ErrNone {
		t.Errorf("%v: the normal subloops are led to %v, but are %v, %d", q, led, others, code)
	}
	derived, _ := impl.DerivedSubloop(q)
	free, _ := impl.AssociatorSubloop(q)
	simple, _ := impl.IsSimpleLoop(q)
	otherDerived, a := impl.DerivedSubloop(r)
	otherFree, b := impl.AssociatorSubloop(r)
	otherSimple, c := impl.IsSimpleLoop(r)
	if !slices.Equal(ledList(p, derived), otherDerived) || !slices.Equal(ledList(p, free), otherFree) || simple != otherSimple || max(a, b, c) != impl.ErrNone {
		t.Errorf("%v: other results for an isomorphic loop: %v, %v, %v", q, otherDerived, otherFree, otherSimple)
	}
	if forth, back := len(mapsIn(t, q, r)), len(mapsIn(t, r, q)); forth != back || forth != len(mapsIn(t, q, q)) {
		t.Errorf("%v: %d homomorphisms, and %d back", q, forth, back)
	}
}

// wholeNormals are the functions of a loop alone that return lists, here as lists of lists.
func wholeNormals() map[string]func(q impl.Square) ([][]int64, int64) {
	alone := func(function func(q impl.Square) ([]int64, int64)) func(q impl.Square) ([][]int64, int64) {
		return func(q impl.Square) ([][]int64, int64) {
			list, code := function(q)
			if len(list) == 0 {
				return nil, code
			}
			return [][]int64{list}, code
		}
	}
	return map[string]func(q impl.Square) ([][]int64, int64){
		"AllNormal":         impl.AllNormal,
		"DerivedSubloop":    alone(impl.DerivedSubloop),
		"AssociatorSubloop": alone(impl.AssociatorSubloop),
	}
}

// checkNormalCodes checks that the functions of a loop and a list of its elements return a code and zero values.
func checkNormalCodes(t *testing.T, reason string, q impl.Square, list []int64, want int64) {
	t.Helper()
	if yes, code := impl.IsNormalSubloop(q, list); yes || code != want {
		t.Errorf("%s: IsNormalSubloop(%v, %v) = %v, %d", reason, q, list, yes, code)
	}
	if made, code := impl.NormalClosure(q, list); len(made) != 0 || code != want {
		t.Errorf("%s: NormalClosure(%v, %v) = %v, %d", reason, q, list, made, code)
	}
	if quotient, projection, code := impl.QuotientLoop(q, list); quotient != (impl.Square{}) || len(projection) != 0 || code != want {
		t.Errorf("%s: QuotientLoop(%v, %v) = %v, %v, %d", reason, q, list, quotient, projection, code)
	}
}

// checkMapCodes checks that the functions of a map of loops return a code and zero values.
func checkMapCodes(t *testing.T, reason string, q impl.Square, r impl.Square, list []int64, want int64) {
	t.Helper()
	if kernel, code := impl.KernelOf(q, r, list); len(kernel) != 0 || code != want {
		t.Errorf("%s: KernelOf(%v, %v, %v) = %v, %d", reason, q, r, list, kernel, code)
	}
	if image, code := impl.ImageOf(q, r, list); len(image) != 0 || code != want {
		t.Errorf("%s: ImageOf(%v, %v, %v) = %v, %d", reason, q, r, list, image, code)
	}
}

// checkNoHomomorphism checks that a list is refused with a code.
func checkNoHomomorphism(t *testing.T, reason string, q impl.Square, r impl.Square, list []int64, want int64) {
	t.Helper()
	if yes, code := impl.IsHomomorphism(q, r, list); yes || code != want {
		t.Errorf("%s: IsHomomorphism(%v, %v, %v) = %v, %d", reason, q, r, list, yes, code)
	}
}

// badMaps are lists that are no lists of elements of a square of order r, one for each of one of order q.
func badMaps(q int64, r int64) [][]int64 {
	good := make([]int64, q)
	lists := [][]int64{good[1:], append(slices.Clone(good), 0), make([]int64, 1000), nil, {}}
	for _, v := range append(noNumbers(), -1, r, r+1, 256, math.MinInt64) {
		if v >= 0 && v < r {
			continue
		}
		for _, x := range []int64{0, q / 2, q - 1} {
			bad := slices.Clone(good)
			bad[x] = v
			lists = append(lists, bad, append(slices.Clone(bad), 0))
		}
	}
	return lists
}

// That something is no loop, or no square, goes before that something is not in its range.
func TestNormalErrorsOfLoops(t *testing.T) {
	group := cyclicOf(t, 3)
	lists := append(badSets(3), nil, []int64{}, []int64{0}, []int64{0, 1}, []int64{0, 0, 0})
	checkLoopOnly := func(reason string, q impl.Square) {
		for name, function := range wholeNormals() {
			if lists, code := function(q); len(lists) != 0 || code != impl.ErrInvalid {
				t.Errorf("%s: %s(%v) = %v, %d", reason, name, q, lists, code)
			}
		}
		if yes, code := impl.IsSimpleLoop(q); yes || code != impl.ErrInvalid {
			t.Errorf("%s: IsSimpleLoop(%v) = %v, %d", reason, q, yes, code)
		}
		for _, list := range lists {
			checkNormalCodes(t, reason, q, list, impl.ErrInvalid)
			checkMapCodes(t, reason, q, group, list, impl.ErrInvalid)
			checkMapCodes(t, reason, group, q, list, impl.ErrInvalid)
			checkMapCodes(t, reason, q, q, list, impl.ErrInvalid)
		}
	}
	for reason, q := range noSquares(t) {
		checkLoopOnly(reason, q)
		for _, pair := range [][2]impl.Square{{q, group}, {group, q}, {q, q}} {
			if maps, code := impl.AllHomomorphisms(pair[0], pair[1]); len(maps) != 0 || code != impl.ErrInvalid {
				t.Errorf("%s: AllHomomorphisms(%v) = %v, %d", reason, pair, maps, code)
			}
			for _, list := range lists {
				checkNoHomomorphism(t, reason, pair[0], pair[1], list, impl.ErrInvalid)
			}
		}
		for _, x := range []byte{0, 1, 9, 10, 255} {
			for _, y := range []byte{0, x} {
				if classes, code := impl.CongruenceOf(q, x, y); len(classes) != 0 || code != impl.ErrInvalid {
					t.Errorf("%s: CongruenceOf(%v, %d, %d) = %v, %d", reason, q, x, y, classes, code)
				}
			}
		}
	}
	for _, q := range append(squaresForMaps(t), allSquaresOfOrderThree()...) {
		if !impl.IsLoop(q) {
			checkLoopOnly("no loop", q)
		}
	}
}

func TestNormalErrorsOfElements(t *testing.T) {
	for _, q := range append(squaresForMaps(t), loopsForNuclei(t)...) {
		n := byte(q.Order)
		for _, x := range []byte{n, n + 1, 10, 127, 128, 255} {
			for _, pair := range [][2]byte{{x, 0}, {0, x}, {n - 1, x}, {x, x}} {
				if classes, code := impl.CongruenceOf(q, pair[0], pair[1]); len(classes) != 0 || code != impl.ErrRange {
					t.Errorf("%v: CongruenceOf(%v) = %v, %d", q, pair, classes, code)
				}
			}
		}
		if impl.IsLoop(q) {
			for _, list := range badSets(q.Order) {
				checkNormalCodes(t, "no set", q, list, impl.ErrRange)
			}
		}
		for _, r := range []impl.Square{cyclicOf(t, 1), cyclicOf(t, 10), squareOf(t, textOfShifted), squareOf(t, textOfLoop5), q} {
			for _, list := range badMaps(q.Order, r.Order) {
				checkNoHomomorphism(t, "no map", q, r, list, impl.ErrRange)
				if impl.IsLoop(q) && impl.IsLoop(r) {
					checkMapCodes(t, "no map", q, r, list, impl.ErrRange)
				}
			}
		}
	}
}

func TestNormalErrorsOfStates(t *testing.T) {
	for _, q := range loopsForNuclei(t) {
		// All are led to an element that is not 0, which is no homomorphism.
		r := cyclicOf(t, 10)
		list := slices.Repeat([]int64{9}, int(q.Order))
		checkMapCodes(t, "no homomorphism", q, r, list, impl.ErrState)
		if yes, code := impl.IsHomomorphism(q, r, list); yes || code != impl.ErrNone {
			t.Errorf("%v: IsHomomorphism = %v, %d", q, yes, code)
		}
	}
}

// No function changes a list, nor what stands behind its end.
func TestNormalsKeepTheirLists(t *testing.T) {
	for _, q := range loopsForNuclei(t) {
		check := func(list []int64, call func(list []int64)) {
			room := append(slices.Clone(list), 77, 78, 79, 80, 81, 82, 83, 84, 85, 86)
			kept := slices.Clone(room)
			if call(room[:len(list)]); !slices.Equal(room, kept) {
				t.Fatalf("%v: the list %v has become %v", q, kept, room)
			}
		}
		for set := range uint(1) << q.Order {
			check(numbersIn(set), func(list []int64) {
				impl.IsNormalSubloop(q, list)
				impl.NormalClosure(q, list)
				impl.QuotientLoop(q, list)
			})
		}
		for _, list := range mapsIn(t, q, q) {
			check(list, func(list []int64) {
				impl.IsHomomorphism(q, q, list)
				impl.KernelOf(q, q, list)
				impl.ImageOf(q, q, list)
			})
		}
	}
}

func TestNormalsShareNoMemory(t *testing.T) {
	turns, whole := squareOf(t, textOfTurns4), []int64{0, 1, 2, 3, 4, 5, 6, 7}
	first := func(lists [][]int64, _ int64) [][]int64 { return lists }
	alone := func(list []int64, _ int64) [][]int64 { return [][]int64{list} }
	calls := map[string]func() [][]int64{
		"CongruenceOf":     func() [][]int64 { return first(impl.CongruenceOf(turns, 0, 2)) },
		"AllHomomorphisms": func() [][]int64 { return first(impl.AllHomomorphisms(turns, turns)) },
		"NormalClosure":    func() [][]int64 { return alone(impl.NormalClosure(turns, whole)) },
		"KernelOf":         func() [][]int64 { return alone(impl.KernelOf(turns, turns, whole)) },
		"ImageOf":          func() [][]int64 { return alone(impl.ImageOf(turns, turns, whole)) },
		"QuotientLoop": func() [][]int64 {
			_, projection, _ := impl.QuotientLoop(turns, []int64{0, 2})
			return [][]int64{projection}
		},
	}
	for name, function := range wholeNormals() {
		calls[name] = func() [][]int64 { return first(function(turns)) }
	}
	for name, call := range calls {
		checkApart(t, name, call)
	}
	// Lists that are the same as the one that was passed are other ones.
	made, _ := impl.NormalClosure(turns, whole)
	image, _ := impl.ImageOf(turns, turns, whole)
	_, projection, _ := impl.QuotientLoop(turns, []int64{0})
	for _, list := range [][]int64{made, image, projection} {
		if spoilNumbers(list); !slices.Equal(whole, []int64{0, 1, 2, 3, 4, 5, 6, 7}) {
			t.Errorf("changing results has made %v of the list", whole)
		}
	}
}
