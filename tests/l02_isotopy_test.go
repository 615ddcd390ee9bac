package tests

import (
	"slices"
	"testing"

	"loop.example/g01195/impl"
)

const (
	textOfLoop7   = "0123456/1032564/2305641/3456012/4561203/5614320/6240135" // a loop without any symmetry
	textOfSquare5 = "13042/42103/01234/30421/24310"                           // no loop, and no isotope of the cyclic square
)

// unchanged returns the permutation of n numbers that changes nothing.
func unchanged(n int64) impl.Places {
	var p impl.Places
	for x := range n {
		p[x] = byte(x)
	}
	return p
}

// thrice returns the triple with the same permutation three times.
func thrice(p impl.Places) impl.Triple {
	return impl.Triple{First: p, Second: p, Third: p}
}

// somePlaces returns four permutations of n numbers, which differ unless n is small.
func somePlaces(n int64) []impl.Places {
	var turn, flip, riffle impl.Places
	for x := range n {
		turn[x] = byte((x + 1) % n)
		flip[x] = byte(n - 1 - x)
		riffle[x] = byte(x / 2)
		if x%2 == 1 {
			riffle[x] = byte((n+1)/2 + x/2)
		}
	}
	return []impl.Places{unchanged(n), turn, flip, riffle}
}

// someTriples returns triples for n, most of which have three different parts.
func someTriples(n int64) []impl.Triple {
	var list []impl.Triple
	for _, first := range somePlaces(n) {
		for _, second := range somePlaces(n) {
			for _, third := range somePlaces(n) {
				list = append(list, impl.Triple{First: first, Second: second, Third: third})
			}
		}
	}
	return list
}

// badTriples returns triples with a number for which they are none, because of one part alone.
func badTriples() map[string]struct {
	Triple impl.Triple
	Count  int64
} {
	type pair = struct {
		Triple impl.Triple
		Count  int64
	}
	list := map[string]pair{}
	for reason, c := range badPlaces() {
		for part := range 3 {
			parts := [3]impl.Places{}
			for i := range parts {
				parts[i] = unchanged(min(max(c.Count, 0), impl.MaxOrder))
			}
			parts[part] = c.Places
			list[reason+" in the part "+decimal(int64(part))] = pair{impl.Triple{First: parts[0], Second: parts[1], Third: parts[2]}, c.Count}
		}
	}
	return list
}

// isotopeOf returns the isotope of q by t.
func isotopeOf(t *testing.T, q impl.Square, by impl.Triple) impl.Square {
	t.Helper()
	isotope, code := impl.IsotopeOf(q, by)
	if code != impl.ErrNone {
		t.Fatalf("IsotopeOf(%v, %v): code %d", q, by, code)
	}
	return isotope
}

// leads tells by the definition whether a triple leads q to r.
func leads(q impl.Square, by impl.Triple, r impl.Square) bool {
	for x := range q.Order {
		for y := range q.Order {
			if r.Table[by.First[x]][by.Second[y]] != by.Third[q.Table[x][y]] {
				return false
			}
		}
	}
	return q.Order == r.Order
}

// isomorphismsByTrial returns all isomorphisms from q to r, in order.
func isomorphismsByTrial(q impl.Square, r impl.Square) []impl.Places {
	var list []impl.Places
	if q.Order != r.Order {
		return nil
	}
	orderings(int(q.Order), func(numbers []byte) {
		if p := placesOf(numbers); leads(q, thrice(p), r) {
			list = append(list, p)
		}
	})
	return list
}

// isotopismsByTrial returns all isotopisms from q to r, in order: the other parts follow from First
// and the first entry of Second.
func isotopismsByTrial(q impl.Square, r impl.Square) []impl.Triple {
	var list []impl.Triple
	if q.Order != r.Order {
		return nil
	}
	orderings(int(q.Order), func(numbers []byte) {
		for b := range byte(q.Order) {
			by := impl.Triple{First: placesOf(numbers)}
			for x := range q.Order {
				by.Third[q.Table[x][0]] = r.Table[by.First[x]][b]
			}
			for y := range q.Order {
				row := r.Table[by.First[0]]
				by.Second[y] = byte(slices.Index(row[:q.Order], by.Third[q.Table[0][y]]))
			}
			if leads(q, by, r) {
				list = append(list, by)
			}
		}
	})
	return list
}

// smallSquares returns squares of orders up to most, and isotopes of them.
func smallSquares(t *testing.T, most int64) []impl.Square {
	t.Helper()
	var list []impl.Square
	for _, q := range append(someSquares(t), squareOf(t, textOfSquare5)) {
		if q.Order > most {
			continue
		}
		places := somePlaces(q.Order)
		list = append(list, q, isotopeOf(t, q, thrice(places[3])),
			isotopeOf(t, q, impl.Triple{First: places[1], Second: places[2], Third: places[3]}))
	}
	return list
}

func TestMaxCanonical(t *testing.T) {
	if impl.MaxCanonical != 7 {
		t.Errorf("MaxCanonical = %d", impl.MaxCanonical)
	}
}

func TestIsTriple(t *testing.T) {
	for n := int64(1); n <= impl.MaxOrder; n++ {
		for _, by := range someTriples(n) {
			if !impl.IsTriple(by, n) {
				t.Errorf("%v is no triple for %d", by, n)
			}
			if n < impl.MaxOrder && impl.IsTriple(by, n+1) || n > 1 && impl.IsTriple(by, n-1) {
				t.Errorf("%v is a triple for a number beside %d", by, n)
			}
		}
	}
	if !impl.IsTriple(impl.Triple{}, 1) || impl.IsTriple(impl.Triple{}, 2) || impl.IsTriple(impl.Triple{}, 0) {
		t.Errorf("IsTriple of the zero value is wrong")
	}
	for reason, c := range badTriples() {
		if impl.IsTriple(c.Triple, c.Count) {
			t.Errorf("%s: %v is a triple for %d", reason, c.Triple, c.Count)
		}
	}
}

func TestIsotopeOfAnExample(t *testing.T) {
	by := impl.Triple{First: impl.Places{1, 2, 0}, Second: impl.Places{1, 0, 2}, Third: impl.Places{0, 2, 1}}
	// 0 * 0 = 0 becomes 1 * 1 = 0, 0 * 1 = 1 becomes 1 * 0 = 2, and so on.
	if r, code := impl.IsotopeOf(cyclicOf(t, 3), by); r != squareOf(t, "012/201/120") || code != impl.ErrNone {
		t.Errorf("IsotopeOf = %v, %d", r, code)
	}
	if r, code := impl.IsotopeOf(impl.Square{Order: 1}, impl.Triple{}); r != (impl.Square{Order: 1}) || code != impl.ErrNone {
		t.Errorf("IsotopeOf of order 1 = %v, %d", r, code)
	}
}

// The isotope is the one that the definition tells, a square, and the same as q only for an autotopism.
func TestIsotopeOfAndIsAutotopism(t *testing.T) {
	for _, q := range append(someSquares(t), squareOf(t, textOfLoop7), steinerOf10()) {
		found := 0
		for _, by := range someTriples(q.Order) {
			r, code := impl.IsotopeOf(q, by)
			if code != impl.ErrNone || !impl.IsSquare(r) || !leads(q, by, r) {
				t.Errorf("IsotopeOf(%v, %v) = %v, %d", q, by, r, code)
			}
			yes, code := impl.IsAutotopism(q, by)
			if code != impl.ErrNone || yes != leads(q, by, q) {
				t.Errorf("IsAutotopism(%v, %v) = %v, %d", q, by, yes, code)
			}
			found += countOf(yes)
		}
		if found == 0 {
			t.Errorf("no autotopism of %v is found", q)
		}
	}
}

// Of all 216 triples for order 3, 18 are autotopisms of each square.
func TestIsAutotopismOfAllTriples(t *testing.T) {
	for _, q := range []impl.Square{cyclicOf(t, 3), squareOf(t, textOfSubtract), squareOf(t, "102/021/210")} {
		found := 0
		orderings(3, func(numbers []byte) {
			first := placesOf(numbers)
			orderings(3, func(numbers []byte) {
				second := placesOf(numbers)
				orderings(3, func(numbers []byte) {
					by := impl.Triple{First: first, Second: second, Third: placesOf(numbers)}
					yes, code := impl.IsAutotopism(q, by)
					if code != impl.ErrNone || yes != leads(q, by, q) {
						t.Errorf("IsAutotopism(%v, %v) = %v, %d", q, by, yes, code)
					}
					found += countOf(yes)
				})
			})
		})
		if found != 18 {
			t.Errorf("%v has %d autotopisms", q, found)
		}
	}
}

func TestIsotopeErrors(t *testing.T) {
	check := func(reason string, q impl.Square, by impl.Triple) {
		t.Helper()
		if r, code := impl.IsotopeOf(q, by); r != (impl.Square{}) || code != impl.ErrInvalid {
			t.Errorf("%s: IsotopeOf = %v, %d", reason, r, code)
		}
		if yes, code := impl.IsAutotopism(q, by); yes || code != impl.ErrInvalid {
			t.Errorf("%s: IsAutotopism = %v, %d", reason, yes, code)
		}
	}
	for reason, q := range noSquares(t) {
		check(reason, q, thrice(unchanged(min(max(q.Order, 0), impl.MaxOrder))))
		check(reason+" and no triple", q, impl.Triple{First: impl.Places{255}})
	}
	for reason, c := range badTriples() {
		if 1 <= c.Count && c.Count <= impl.MaxOrder {
			check(reason, cyclicOf(t, c.Count), c.Triple)
		}
	}
	for n := int64(1); n < impl.MaxOrder; n++ {
		check("a triple for a greater order", cyclicOf(t, n), thrice(unchanged(n+1)))
		check("a triple for a smaller order", cyclicOf(t, n+1), thrice(unchanged(n)))
	}
}

func TestThenAndBackTriples(t *testing.T) {
	for n := int64(1); n <= impl.MaxOrder; n++ {
		triples := someTriples(n)
		for i, s := range triples {
			back, code := impl.BackTriple(s, n)
			if code != impl.ErrNone || !impl.IsTriple(back, n) {
				t.Errorf("BackTriple(%v, %d) = %v, %d", s, n, back, code)
			}
			if then, code := impl.ThenTriples(s, back, n); then != thrice(unchanged(n)) || code != impl.ErrNone {
				t.Errorf("%v then %v = %v, %d", s, back, then, code)
			}
			if then, code := impl.ThenTriples(back, s, n); then != thrice(unchanged(n)) || code != impl.ErrNone {
				t.Errorf("%v then %v = %v, %d", back, s, then, code)
			}
			other := triples[(7*i+3)%len(triples)]
			then, code := impl.ThenTriples(s, other, n)
			if code != impl.ErrNone {
				t.Errorf("ThenTriples: code %d", code)
			}
			for x := range n {
				if then.First[x] != other.First[s.First[x]] || then.Second[x] != other.Second[s.Second[x]] || then.Third[x] != other.Third[s.Third[x]] {
					t.Errorf("%v then %v = %v", s, other, then)
				}
			}
		}
	}
}

func TestThenAndBackTriplesOfAnExample(t *testing.T) {
	s := impl.Triple{First: impl.Places{1, 2, 0}, Second: impl.Places{1, 0, 2}, Third: impl.Places{0, 1, 2}}
	u := impl.Triple{First: impl.Places{1, 0, 2}, Second: impl.Places{1, 2, 0}, Third: impl.Places{2, 0, 1}}
	want := impl.Triple{First: impl.Places{0, 2, 1}, Second: impl.Places{2, 1, 0}, Third: impl.Places{2, 0, 1}}
	if then, code := impl.ThenTriples(s, u, 3); then != want || code != impl.ErrNone {
		t.Errorf("ThenTriples = %v, %d", then, code)
	}
	want = impl.Triple{First: impl.Places{1, 0, 2}, Second: impl.Places{2, 0, 1}, Third: impl.Places{1, 2, 0}}
	if back, code := impl.BackTriple(u, 3); back != want || code != impl.ErrNone {
		t.Errorf("BackTriple = %v, %d", back, code)
	}
}

func TestThenAndBackTriplesErrors(t *testing.T) {
	for reason, c := range badTriples() {
		good := thrice(unchanged(min(max(c.Count, 0), impl.MaxOrder)))
		if then, code := impl.ThenTriples(c.Triple, good, c.Count); then != (impl.Triple{}) || code != impl.ErrInvalid {
			t.Errorf("%s as first: ThenTriples = %v, %d", reason, then, code)
		}
		if then, code := impl.ThenTriples(good, c.Triple, c.Count); then != (impl.Triple{}) || code != impl.ErrInvalid {
			t.Errorf("%s as second: ThenTriples = %v, %d", reason, then, code)
		}
		if back, code := impl.BackTriple(c.Triple, c.Count); back != (impl.Triple{}) || code != impl.ErrInvalid {
			t.Errorf("%s: BackTriple = %v, %d", reason, back, code)
		}
	}
}

// Isotopes by composed triples are isotopes of isotopes, and the triple back leads back.
func TestIsotopesOfIsotopes(t *testing.T) {
	for _, q := range append(someSquares(t), squareOf(t, textOfLoop7), steinerOf10()) {
		triples := someTriples(q.Order)
		for i, s := range triples {
			between := isotopeOf(t, q, s)
			other := triples[(11*i+5)%len(triples)]
			then, _ := impl.ThenTriples(s, other, q.Order)
			if isotopeOf(t, q, then) != isotopeOf(t, between, other) {
				t.Errorf("%v: %v then %v leads elsewhere", q, s, other)
			}
			back, _ := impl.BackTriple(s, q.Order)
			if isotopeOf(t, between, back) != q {
				t.Errorf("%v: %v does not lead back", q, s)
			}
		}
	}
}

func TestLoopAt(t *testing.T) {
	for _, q := range append(someSquares(t), squareOf(t, textOfLoop7), squareOf(t, textOfSquare5), steinerOf10()) {
		for a := range byte(q.Order) {
			for b := range byte(q.Order) {
				loop, code := impl.LoopAt(q, a, b)
				if code != impl.ErrNone || !impl.IsLoop(loop) || loop.Order != q.Order {
					t.Errorf("LoopAt(%v, %d, %d) = %v, %d", q, a, b, loop, code)
				}
				exchange := unchanged(q.Order)
				exchange[0], exchange[q.Table[a][b]] = q.Table[a][b], 0
				for x := range q.Order {
					for y := range q.Order {
						if loop.Table[exchange[q.Table[x][b]]][exchange[q.Table[a][y]]] != exchange[q.Table[x][y]] {
							t.Errorf("%v: the loop at %d, %d is %v", q, a, b, loop)
						}
					}
				}
			}
		}
	}
}

func TestLoopAtOfExamples(t *testing.T) {
	cases := []struct {
		text string
		a, b byte
		loop string
	}{
		{"0", 0, 0, "0"},
		{"10/01", 0, 0, "01/10"},
		{"10/01", 1, 0, "01/10"},
		{textOfSubtract, 1, 2, "012/120/201"},
		{textOfLoop5, 0, 0, textOfLoop5},
	}
	for _, c := range cases {
		if loop, code := impl.LoopAt(squareOf(t, c.text), c.a, c.b); loop != squareOf(t, c.loop) || code != impl.ErrNone {
			t.Errorf("LoopAt(%s, %d, %d) = %v, %d", c.text, c.a, c.b, loop, code)
		}
	}
	for _, q := range someSquares(t) {
		if loop, _ := impl.LoopAt(q, 0, 0); impl.IsLoop(q) && loop != q {
			t.Errorf("the loop at 0, 0 of the loop %v is %v", q, loop)
		}
	}
}

func TestLoopAtErrors(t *testing.T) {
	for reason, q := range noSquares(t) {
		for _, x := range []byte{0, 255} {
			if loop, code := impl.LoopAt(q, x, x); loop != (impl.Square{}) || code != impl.ErrInvalid {
				t.Errorf("%s: LoopAt %d = %v, %d", reason, x, loop, code)
			}
		}
	}
	for _, q := range someSquares(t) {
		n, last := byte(q.Order), byte(q.Order-1)
		for _, pair := range [][2]byte{{n, last}, {last, n}, {n, n}, {255, 0}, {0, 255}} {
			if loop, code := impl.LoopAt(q, pair[0], pair[1]); loop != (impl.Square{}) || code != impl.ErrRange {
				t.Errorf("%v: LoopAt %v = %v, %d", q, pair, loop, code)
			}
		}
	}
}

func TestIsomorphismsByTrial(t *testing.T) {
	squares := append(smallSquares(t, 5), squareOf(t, textOfLoop6), squareOf(t, textOfTurns3), cyclicOf(t, 6))
	for _, q := range squares {
		for _, r := range squares {
			checkIsomorphism(t, q, r, isomorphismsByTrial(q, r))
		}
	}
}

// checkIsomorphism checks the first isomorphism from q to r by the list of all of them.
func checkIsomorphism(t *testing.T, q impl.Square, r impl.Square, list []impl.Places) {
	t.Helper()
	want, end := impl.Places{}, int64(impl.ErrNotFound)
	if len(list) > 0 {
		want, end = list[0], impl.ErrNone
	}
	if p, code := impl.IsomorphismOf(q, r); p != want || code != end {
		t.Errorf("IsomorphismOf(%v, %v) = %v, %d, not %v, %d", q, r, p, code, want, end)
	}
}

// All pairs of loops of order 5: each one is isomorphic to as many as there are permutations of its
// four other numbers, by the number of its automorphisms.
func TestIsomorphismsOfAllLoopsOfOrderFive(t *testing.T) {
	var loops []impl.Square
	allLoops(5, func(q impl.Square) { loops = append(loops, q) })
	for _, q := range loops {
		alike := 0
		for _, r := range loops {
			list := isomorphismsByTrial(q, r)
			checkIsomorphism(t, q, r, list)
			alike += countOf(len(list) > 0)
		}
		if count, code := impl.CountAutomorphisms(q); int(count)*alike != 24 || code != impl.ErrNone {
			t.Errorf("%v: %d automorphisms, %d loops are alike, code %d", q, count, alike, code)
		}
	}
}

// One loop of each class of order 6, with itself and with its opposite.
func TestIsomorphismsOfLoopsOfOrderSix(t *testing.T) {
	allLoops(6, func(q impl.Square) {
		if least, _ := impl.CanonicalLoop(q); least != q {
			return
		}
		list := isomorphismsByTrial(q, q)
		if found, code := impl.AutomorphismsOf(q); !slices.Equal(found, list) || code != impl.ErrNone {
			t.Errorf("AutomorphismsOf(%v) = %v, %d, not %v", q, found, code, list)
		}
		opposite, _ := impl.OppositeOf(q)
		checkIsomorphism(t, q, opposite, isomorphismsByTrial(q, opposite))
	})
}

// Two loops that differ only where a number from 4 on stands before a smaller one; all row maps of
// the one have cycles as long as those of the other one. In their opposites it is the other way round.
func TestIsomorphismKeepsAllProducts(t *testing.T) {
	top := "01234567/10325476/23016745/32107654/"
	q := squareOf(t, top+"45670231/54761320/67452013/76543102")
	r := squareOf(t, top+"46750231/57641320/64572013/75463102")
	checkIsomorphism(t, q, r, isomorphismsByTrial(q, r))
	first, _ := impl.OppositeOf(q)
	second, _ := impl.OppositeOf(r)
	checkIsomorphism(t, first, second, isomorphismsByTrial(first, second))
	if leads(q, thrice(unchanged(8)), r) {
		t.Errorf("%v and %v do not differ", q, r)
	}
}

func TestIsomorphismOfGreatOrders(t *testing.T) {
	for _, q := range append(someSquares(t), squareOf(t, textOfLoop7), steinerOf10()) {
		if p, code := impl.IsomorphismOf(q, q); p != unchanged(q.Order) || code != impl.ErrNone {
			t.Errorf("IsomorphismOf(%v) to itself = %v, %d", q, p, code)
		}
		for _, p := range somePlaces(q.Order) {
			r := isotopeOf(t, q, thrice(p))
			found, code := impl.IsomorphismOf(q, r)
			if code != impl.ErrNone || !leads(q, thrice(found), r) || slices.Compare(found[:], p[:]) > 0 {
				t.Errorf("IsomorphismOf(%v, %v) = %v, %d", q, r, found, code)
			}
		}
	}
}

func TestIsomorphismOfExamples(t *testing.T) {
	if p, code := impl.IsomorphismOf(cyclicOf(t, 3), cyclicOf(t, 3)); p != (impl.Places{0, 1, 2}) || code != impl.ErrNone {
		t.Errorf("IsomorphismOf = %v, %d", p, code)
	}
	if p, code := impl.IsomorphismOf(impl.Square{Order: 1}, impl.Square{Order: 1}); p != (impl.Places{}) || code != impl.ErrNone {
		t.Errorf("IsomorphismOf of order 1 = %v, %d", p, code)
	}
	// The order of the factors changes the names alone: 3x + y of the one is x + 2y of the other.
	first, _ := impl.DirectProduct(cyclicOf(t, 2), cyclicOf(t, 3))
	second, _ := impl.DirectProduct(cyclicOf(t, 3), cyclicOf(t, 2))
	if p, code := impl.IsomorphismOf(first, second); p != (impl.Places{0, 2, 4, 1, 3, 5}) || code != impl.ErrNone {
		t.Errorf("IsomorphismOf direct products = %v, %d", p, code)
	}
	if p, code := impl.IsomorphismOf(squareOf(t, "01/10"), squareOf(t, "10/01")); p != (impl.Places{1, 0}) || code != impl.ErrNone {
		t.Errorf("IsomorphismOf order 2 = %v, %d", p, code)
	}
	pairs := [][2]impl.Square{
		{cyclicOf(t, 4), elementaryOf(t, 2)},
		{cyclicOf(t, 6), squareOf(t, textOfTurns3)},
		{cyclicOf(t, 8), elementaryOf(t, 3)},
		{cyclicOf(t, 10), steinerOf10()},
		{cyclicOf(t, 3), squareOf(t, textOfSubtract)},
		{cyclicOf(t, 1), cyclicOf(t, 10)},
		{cyclicOf(t, 7), cyclicOf(t, 8)},
	}
	for _, pair := range pairs {
		for i := range pair {
			if p, code := impl.IsomorphismOf(pair[i], pair[1-i]); p != (impl.Places{}) || code != impl.ErrNotFound {
				t.Errorf("IsomorphismOf(%v, %v) = %v, %d", pair[i], pair[1-i], p, code)
			}
		}
	}
}

func TestAutomorphismsByTrial(t *testing.T) {
	squares := append(smallSquares(t, 6), squareOf(t, textOfLoop7), cyclicOf(t, 7), elementaryOf(t, 3))
	for _, q := range squares {
		want := isomorphismsByTrial(q, q)
		if list, code := impl.AutomorphismsOf(q); !slices.Equal(list, want) || code != impl.ErrNone {
			t.Errorf("AutomorphismsOf(%v) = %v, %d, not %v", q, list, code, want)
		}
		if count, code := impl.CountAutomorphisms(q); count != int64(len(want)) || code != impl.ErrNone {
			t.Errorf("CountAutomorphisms(%v) = %d, %d, not %d", q, count, code, len(want))
		}
	}
}

func TestAutomorphismsOfExamples(t *testing.T) {
	cases := []struct {
		square impl.Square
		count  int64
	}{
		{cyclicOf(t, 1), 1}, {cyclicOf(t, 2), 1}, {cyclicOf(t, 3), 2}, {cyclicOf(t, 4), 2}, {cyclicOf(t, 5), 4},
		{cyclicOf(t, 6), 2}, {cyclicOf(t, 7), 6}, {cyclicOf(t, 8), 4}, {cyclicOf(t, 9), 6}, {cyclicOf(t, 10), 4},
		{elementaryOf(t, 2), 6}, {elementaryOf(t, 3), 168}, {squareOf(t, textOfTurns3), 6},
		{squareOf(t, textOfLoop7), 1}, {steinerOf10(), 432},
	}
	for _, c := range cases {
		list, code := impl.AutomorphismsOf(c.square)
		if int64(len(list)) != c.count || code != impl.ErrNone {
			t.Errorf("AutomorphismsOf(%v) are %d, %d", c.square, len(list), code)
		}
		for i, p := range list {
			if !leads(c.square, thrice(p), c.square) || !impl.IsPermutation(p, c.square.Order) {
				t.Errorf("%v is no automorphism of %v", p, c.square)
			}
			if i > 0 && slices.Compare(list[i-1][:], p[:]) >= 0 {
				t.Errorf("%v stands before %v", list[i-1], p)
			}
		}
		if count, code := impl.CountAutomorphisms(c.square); count != c.count || code != impl.ErrNone {
			t.Errorf("CountAutomorphisms(%v) = %d, %d", c.square, count, code)
		}
	}
	if list, _ := impl.AutomorphismsOf(cyclicOf(t, 4)); !slices.Equal(list, []impl.Places{{0, 1, 2, 3}, {0, 3, 2, 1}}) {
		t.Errorf("AutomorphismsOf order 4 = %v", list)
	}
}

// What a caller does with a result does not reach the next one.
func TestAutomorphismsShareNoMemory(t *testing.T) {
	list, _ := impl.AutomorphismsOf(cyclicOf(t, 5))
	clear(list[:cap(list)])
	if again, _ := impl.AutomorphismsOf(cyclicOf(t, 5)); again[0] != unchanged(5) || again[3] != (impl.Places{0, 4, 3, 2, 1}) {
		t.Errorf("a second call returns %v", again)
	}
}

func TestMorphismsErrors(t *testing.T) {
	for reason, bad := range noSquares(t) {
		if list, code := impl.AutomorphismsOf(bad); len(list) != 0 || code != impl.ErrInvalid {
			t.Errorf("%s: AutomorphismsOf = %v, %d", reason, list, code)
		}
		if count, code := impl.CountAutomorphisms(bad); count != 0 || code != impl.ErrInvalid {
			t.Errorf("%s: CountAutomorphisms = %d, %d", reason, count, code)
		}
		for _, q := range []impl.Square{cyclicOf(t, 1), cyclicOf(t, 2), cyclicOf(t, 10), bad} {
			for _, pair := range [][2]impl.Square{{q, bad}, {bad, q}} {
				if p, code := impl.IsomorphismOf(pair[0], pair[1]); p != (impl.Places{}) || code != impl.ErrInvalid {
					t.Errorf("%s: IsomorphismOf = %v, %d", reason, p, code)
				}
				if by, code := impl.IsotopismOf(pair[0], pair[1]); by != (impl.Triple{}) || code != impl.ErrInvalid {
					t.Errorf("%s: IsotopismOf = %v, %d", reason, by, code)
				}
				if count, code := impl.CountIsotopisms(pair[0], pair[1]); count != 0 || code != impl.ErrInvalid {
					t.Errorf("%s: CountIsotopisms = %d, %d", reason, count, code)
				}
			}
		}
	}
}

// checkIsotopisms checks the first isotopism from q to r and their number by the list of all of them.
func checkIsotopisms(t *testing.T, q impl.Square, r impl.Square, list []impl.Triple) {
	t.Helper()
	want, end := impl.Triple{}, int64(impl.ErrNotFound)
	if len(list) > 0 {
		want, end = list[0], impl.ErrNone
	}
	if by, code := impl.IsotopismOf(q, r); by != want || code != end {
		t.Errorf("IsotopismOf(%v, %v) = %v, %d, not %v, %d", q, r, by, code, want, end)
	}
	if count, code := impl.CountIsotopisms(q, r); count != int64(len(list)) || code != impl.ErrNone {
		t.Errorf("CountIsotopisms(%v, %v) = %d, %d, not %d", q, r, count, code, len(list))
	}
}

func TestIsotopismsByTrial(t *testing.T) {
	squares := smallSquares(t, 5)
	for _, q := range squares {
		for _, r := range squares {
			checkIsotopisms(t, q, r, isotopismsByTrial(q, r))
		}
	}
	six := []impl.Square{squareOf(t, textOfLoop6), squareOf(t, textOfTurns3), cyclicOf(t, 6), subtractOf(6)}
	for _, q := range six {
		for _, r := range six {
			for _, by := range someTriples(6)[20:24] {
				isotope := isotopeOf(t, r, by)
				checkIsotopisms(t, q, isotope, isotopismsByTrial(q, isotope))
			}
		}
	}
	seven := squareOf(t, textOfLoop7)
	isotope := isotopeOf(t, seven, someTriples(7)[27])
	checkIsotopisms(t, seven, isotope, isotopismsByTrial(seven, isotope))
	checkIsotopisms(t, isotope, cyclicOf(t, 7), isotopismsByTrial(isotope, cyclicOf(t, 7)))
}

// Autotopisms of a group are as many as its automorphisms times the pairs of its elements.
func TestCountIsotopismsOfExamples(t *testing.T) {
	cases := []struct {
		first, second impl.Square
		count         int64
	}{
		{cyclicOf(t, 1), cyclicOf(t, 1), 1},
		{cyclicOf(t, 2), squareOf(t, "10/01"), 4},
		{cyclicOf(t, 3), squareOf(t, textOfSubtract), 18},
		{cyclicOf(t, 4), elementaryOf(t, 2), 0},
		{elementaryOf(t, 2), elementaryOf(t, 2), 96},
		{cyclicOf(t, 5), subtractOf(5), 100},
		{cyclicOf(t, 5), squareOf(t, textOfSquare5), 0},
		{squareOf(t, textOfTurns3), squareOf(t, textOfTurns3), 216},
		{squareOf(t, textOfTurns3), cyclicOf(t, 6), 0},
		{elementaryOf(t, 3), elementaryOf(t, 3), 10752},
		{cyclicOf(t, 9), subtractOf(9), 486},
		{cyclicOf(t, 10), subtractOf(10), 400},
		{cyclicOf(t, 10), steinerOf10(), 0},
		{cyclicOf(t, 1), cyclicOf(t, 2), 0},
		{cyclicOf(t, 10), cyclicOf(t, 9), 0},
	}
	for _, c := range cases {
		if count, code := impl.CountIsotopisms(c.first, c.second); count != c.count || code != impl.ErrNone {
			t.Errorf("CountIsotopisms(%v, %v) = %d, %d, not %d", c.first, c.second, count, code, c.count)
		}
		by, code := impl.IsotopismOf(c.first, c.second)
		if c.count == 0 && (by != (impl.Triple{}) || code != impl.ErrNotFound) {
			t.Errorf("IsotopismOf(%v, %v) = %v, %d", c.first, c.second, by, code)
		}
		if c.count > 0 && (code != impl.ErrNone || !leads(c.first, by, c.second)) {
			t.Errorf("IsotopismOf(%v, %v) = %v, %d", c.first, c.second, by, code)
		}
	}
}

// At all orders: isotopisms lead where they say, none of them is before the first one, and there are
// as many as autotopisms.
func TestIsotopismsToIsotopes(t *testing.T) {
	for _, q := range append(someSquares(t), squareOf(t, textOfLoop7), steinerOf10()) {
		if by, code := impl.IsotopismOf(q, q); by != thrice(unchanged(q.Order)) || code != impl.ErrNone {
			t.Errorf("IsotopismOf(%v) to itself = %v, %d", q, by, code)
		}
		own, code := impl.CountIsotopisms(q, q)
		if code != impl.ErrNone || own < 1 {
			t.Errorf("CountIsotopisms(%v) to itself = %d, %d", q, own, code)
		}
		for _, by := range someTriples(q.Order)[25:29] {
			r := isotopeOf(t, q, by)
			first, code := impl.IsotopismOf(q, r)
			if code != impl.ErrNone || !impl.IsTriple(first, q.Order) || !leads(q, first, r) || isBefore(by, first) {
				t.Errorf("IsotopismOf(%v, %v) = %v, %d", q, r, first, code)
			}
			if count, code := impl.CountIsotopisms(q, r); count != own || code != impl.ErrNone {
				t.Errorf("CountIsotopisms(%v, %v) = %d, %d, not %d", q, r, count, code, own)
			}
		}
	}
}

// isBefore reports whether s is before t.
func isBefore(s impl.Triple, t impl.Triple) bool {
	first := slices.Concat(s.First[:], s.Second[:], s.Third[:])
	second := slices.Concat(t.First[:], t.Second[:], t.Third[:])
	return slices.Compare(first, second) < 0
}

// leastByTrial returns the least loop to which an isomorphism leads from a loop.
func leastByTrial(t *testing.T, q impl.Square) impl.Square {
	t.Helper()
	least := q
	orderings(int(q.Order), func(numbers []byte) {
		if numbers[0] != 0 {
			return
		}
		r := isotopeOf(t, q, thrice(placesOf(numbers)))
		if first, second := rowsOf(r), rowsOf(least); slices.Compare(first, second) < 0 {
			least = r
		}
	})
	return least
}

// rowsOf returns the rows of q, one behind the other.
func rowsOf(q impl.Square) []byte {
	var list []byte
	for _, row := range q.Table {
		list = append(list, row[:]...)
	}
	return list
}

func TestCanonicalLoopByTrial(t *testing.T) {
	var loops []impl.Square
	for n := 1; n <= 5; n++ {
		allLoops(n, func(q impl.Square) { loops = append(loops, q) })
	}
	for _, q := range append(someSquares(t), squareOf(t, textOfLoop7)) {
		if impl.IsLoop(q) && q.Order <= impl.MaxCanonical {
			loops = append(loops, q)
		}
	}
	for _, q := range loops {
		want := leastByTrial(t, q)
		if least, code := impl.CanonicalLoop(q); least != want || code != impl.ErrNone {
			t.Errorf("CanonicalLoop(%v) = %v, %d, not %v", q, least, code, want)
		}
		if least, code := impl.CanonicalLoop(want); least != want || code != impl.ErrNone {
			t.Errorf("CanonicalLoop(%v) = %v, %d", want, least, code)
		}
	}
}

// Canonical loops are equal exactly for isomorphic loops.
func TestCanonicalLoopsOfIsomorphicLoops(t *testing.T) {
	var loops []impl.Square
	allLoops(5, func(q impl.Square) { loops = append(loops, q) })
	for _, q := range loops {
		for _, r := range loops {
			first, _ := impl.CanonicalLoop(q)
			second, _ := impl.CanonicalLoop(r)
			if (first == second) != (len(isomorphismsByTrial(q, r)) > 0) {
				t.Errorf("%v and %v have the canonical loops %v and %v", q, r, first, second)
			}
		}
	}
}

// The numbers of loops up to isomorphism, and up to isotopy, are known for all orders up to 6.
func TestClassesOfAllLoops(t *testing.T) {
	for i, known := range [][2]int{{1, 1}, {1, 1}, {1, 1}, {2, 2}, {6, 2}, {109, 22}} {
		loops, isotopes := map[impl.Square]bool{}, map[impl.Square]bool{}
		allLoops(i+1, func(q impl.Square) {
			least, code := impl.CanonicalLoop(q)
			if code != impl.ErrNone {
				t.Errorf("CanonicalLoop(%v): code %d", q, code)
			}
			loops[least] = true
		})
		for q := range loops {
			least, code := impl.CanonicalIsotope(q)
			if code != impl.ErrNone || !loops[least] {
				t.Errorf("CanonicalIsotope(%v) = %v, %d", q, least, code)
			}
			isotopes[least] = true
		}
		if len(loops) != known[0] || len(isotopes) != known[1] {
			t.Errorf("order %d: %d classes of loops, and %d of isotopes", i+1, len(loops), len(isotopes))
		}
	}
}

func TestCanonicalLoopOfExamples(t *testing.T) {
	cases := []struct{ text, least string }{
		{"0", "0"},
		{"01/10", "01/10"},
		{"012/120/201", "012/120/201"},
		{"0123/1230/2301/3012", "0123/1032/2310/3201"},
		{"0123/1032/2301/3210", "0123/1032/2301/3210"},
	}
	for _, c := range cases {
		q := squareOf(t, c.text)
		if least, code := impl.CanonicalLoop(q); least != squareOf(t, c.least) || code != impl.ErrNone {
			t.Errorf("CanonicalLoop(%s) = %v, %d", c.text, least, code)
		}
		if least, code := impl.CanonicalIsotope(q); least != squareOf(t, c.least) || code != impl.ErrNone {
			t.Errorf("CanonicalIsotope(%s) = %v, %d", c.text, least, code)
		}
	}
	// It need not be a loop: the square of differences is an isotope of the cyclic one.
	if least, code := impl.CanonicalIsotope(squareOf(t, textOfSubtract)); least != cyclicOf(t, 3) || code != impl.ErrNone {
		t.Errorf("CanonicalIsotope of differences = %v, %d", least, code)
	}
}

// The canonical isotope is the least of the canonical loops of all loops.
func TestCanonicalIsotopeByTrial(t *testing.T) {
	for _, q := range append(smallSquares(t, 6), cyclicOf(t, 7), squareOf(t, textOfLoop7)) {
		var want impl.Square
		for a := range byte(q.Order) {
			for b := range byte(q.Order) {
				loop, _ := impl.LoopAt(q, a, b)
				least, _ := impl.CanonicalLoop(loop)
				if want.Order == 0 || slices.Compare(rowsOf(least), rowsOf(want)) < 0 {
					want = least
				}
			}
		}
		if least, code := impl.CanonicalIsotope(q); least != want || code != impl.ErrNone {
			t.Errorf("CanonicalIsotope(%v) = %v, %d, not %v", q, least, code, want)
		}
	}
}

// Canonical isotopes are equal exactly for isotopic squares.
func TestCanonicalIsotopesOfIsotopicSquares(t *testing.T) {
	squares := append(smallSquares(t, impl.MaxCanonical), squareOf(t, textOfLoop7))
	for _, q := range squares {
		first, code := impl.CanonicalIsotope(q)
		if code != impl.ErrNone || !impl.IsLoop(first) {
			t.Errorf("CanonicalIsotope(%v) = %v, %d", q, first, code)
		}
		for _, r := range squares {
			second, _ := impl.CanonicalIsotope(r)
			count, _ := impl.CountIsotopisms(q, r)
			if (first == second) != (count > 0) {
				t.Errorf("%v and %v have %d isotopisms, and the canonical isotopes %v and %v", q, r, count, first, second)
			}
		}
		for _, by := range someTriples(q.Order)[25:29] {
			if least, code := impl.CanonicalIsotope(isotopeOf(t, q, by)); least != first || code != impl.ErrNone {
				t.Errorf("CanonicalIsotope of an isotope of %v = %v, %d, not %v", q, least, code, first)
			}
		}
	}
}

func TestCanonicalErrors(t *testing.T) {
	for reason, q := range noSquares(t) {
		if least, code := impl.CanonicalLoop(q); least != (impl.Square{}) || code != impl.ErrInvalid {
			t.Errorf("%s: CanonicalLoop = %v, %d", reason, least, code)
		}
		if least, code := impl.CanonicalIsotope(q); least != (impl.Square{}) || code != impl.ErrInvalid {
			t.Errorf("%s: CanonicalIsotope = %v, %d", reason, least, code)
		}
	}
	bad := cyclicOf(t, 8)
	bad.Table[7][7] = 7
	if least, code := impl.CanonicalLoop(bad); least != (impl.Square{}) || code != impl.ErrInvalid {
		t.Errorf("CanonicalLoop of no square of order 8 = %v, %d", least, code)
	}
	if least, code := impl.CanonicalIsotope(bad); least != (impl.Square{}) || code != impl.ErrInvalid {
		t.Errorf("CanonicalIsotope of no square of order 8 = %v, %d", least, code)
	}
	for n := int64(1); n <= impl.MaxOrder; n++ {
		checkCanonicalCodes(t, cyclicOf(t, n))
		checkCanonicalCodes(t, isotopeOf(t, cyclicOf(t, n), impl.Triple{First: somePlaces(n)[1], Second: unchanged(n), Third: unchanged(n)}))
	}
}

// checkCanonicalCodes checks the codes for a square: that it is no loop goes before its order.
func checkCanonicalCodes(t *testing.T, q impl.Square) {
	t.Helper()
	want := int64(impl.ErrNone)
	if q.Order > impl.MaxCanonical {
		want = impl.ErrLimit
	}
	least, code := impl.CanonicalIsotope(q)
	if code != want || (least == impl.Square{}) != (want != impl.ErrNone) {
		t.Errorf("CanonicalIsotope(%v) = %v, %d", q, least, code)
	}
	if !impl.IsLoop(q) {
		want = impl.ErrState
	}
	least, code = impl.CanonicalLoop(q)
	if code != want || (least == impl.Square{}) != (want != impl.ErrNone) {
		t.Errorf("CanonicalLoop(%v) = %v, %d", q, least, code)
	}
}
