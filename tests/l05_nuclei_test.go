package tests

import (
	"cmp"
	"maps"
	"math"
	"slices"
	"testing"

	"loop.example/g01195/impl"
)

// The texts of loops of which the centre, or the subloops, are worth a look.
const (
	textOfTurns4   = "01234567/12305674/23016745/30127456/47650321/54761032/65472103/76543210" // the group of the square's turns and flips
	textOfQuarters = "01234567/10325476/23106754/32017645/45761023/54670132/67453210/76542301" // the group of the quaternions
	textOfCentre2  = "012345/103254/234501/325410/450132/541023"                               // no group, but 1 is central
)

// extensionOf returns the loop of the pairs of an element a of a loop q and a number k in 0..m - 1, as
// m a + k, in which sums by m of the numbers are taken, and of what a cocycle has for both elements of q.
func extensionOf(q impl.Square, m int64, cocycle func(a int64, b int64) int64) impl.Square {
	wide := impl.Square{Order: q.Order * m}
	for x := range wide.Order {
		for y := range wide.Order {
			a, b := x/m, y/m
			k := x%m + y%m
			if a > 0 && b > 0 {
				k += cocycle(a, b)
			}
			wide.Table[x][y] = q.Table[a][b]*byte(m) + byte(k%m)
		}
	}
	return wide
}

// extensions returns loops of orders 4 to 10 in which the numbers of 0 are central, most of them no groups.
func extensions(t *testing.T) []impl.Square {
	t.Helper()
	var list []impl.Square
	for _, sizes := range [][2]int64{{2, 2}, {2, 3}, {3, 2}, {2, 4}, {4, 2}, {3, 3}, {2, 5}, {5, 2}} {
		for seed := range int64(6) {
			list = append(list, extensionOf(cyclicOf(t, sizes[0]), sizes[1], func(a int64, b int64) int64 {
				return (seed + 1) * a * (seed + 3*a + b*b) / (2 + seed%3)
			}))
		}
	}
	return append(list,
		extensionOf(elementaryOf(t, 2), 2, func(a int64, b int64) int64 { return a & b & 1 }),
		extensionOf(elementaryOf(t, 2), 2, func(a int64, b int64) int64 { return a / 2 * b % 2 }),
		extensionOf(squareOf(t, textOfLoop5), 2, func(a int64, b int64) int64 { return 0 }),
		extensionOf(squareOf(t, textOfLoop5), 2, func(a int64, b int64) int64 { return a * b / 3 }),
	)
}

// groupOfTurns returns the group of the turns and flips of a shape with m corners, of order 2 m.
func groupOfTurns(m int64) impl.Square {
	q := impl.Square{Order: 2 * m}
	for x := range q.Order {
		for y := range q.Order {
			sign := 1 - x/m*2
			q.Table[x][y] = byte((x/m+y/m)%2*m + (x%m+sign*(y%m)+m)%m)
		}
	}
	return q
}

// loopsForNuclei returns loops of all orders, with and without central elements and cosets.
func loopsForNuclei(t *testing.T) []impl.Square {
	t.Helper()
	list := append(loopsForGroups(t), extensions(t)...)
	for m := int64(2); m <= 5; m++ {
		list = append(list, groupOfTurns(m))
	}
	for _, text := range []string{textOfTurns4, textOfQuarters, textOfCentre2} {
		list = append(list, squareOf(t, text))
	}
	return list
}

// eachLoop calls each with small loops, and with those for this chapter.
func eachLoop(t *testing.T, each func(q impl.Square)) {
	t.Helper()
	smallLoops(each)
	for _, q := range loopsForNuclei(t) {
		each(q)
	}
}

// elementsThat returns the elements of q for which something holds.
func elementsThat(q impl.Square, holds func(a byte) bool) []int64 {
	var list []int64
	for a := range byte(q.Order) {
		if holds(a) {
			list = append(list, int64(a))
		}
	}
	return list
}

// always tells whether something holds for all x and y of q.
func always(q impl.Square, holds func(x byte, y byte) bool) bool {
	for x := range byte(q.Order) {
		for y := range byte(q.Order) {
			if !holds(x, y) {
				return false
			}
		}
	}
	return true
}

// wholeLists are the functions that return a list of elements of a loop.
func wholeLists() map[string]func(q impl.Square) ([]int64, int64) {
	return map[string]func(q impl.Square) ([]int64, int64){
		"LeftNucleus":   impl.LeftNucleus,
		"MiddleNucleus": impl.MiddleNucleus,
		"RightNucleus":  impl.RightNucleus,
		"CommutantOf":   impl.CommutantOf,
		"CentreOf":      impl.CentreOf,
		"FrattiniOf":    impl.FrattiniOf,
	}
}

// listIn returns the list that one of these functions returns.
func listIn(t *testing.T, name string, q impl.Square) []int64 {
	t.Helper()
	list, code := wholeLists()[name](q)
	if code != impl.ErrNone {
		t.Fatalf("%s(%v): code %d", name, q, code)
	}
	return list
}

// nucleiByTrial returns what the definitions of nuclei, commutant and centre make of a loop.
func nucleiByTrial(q impl.Square) map[string][]int64 {
	m := q.Table
	return map[string][]int64{
		"LeftNucleus": elementsThat(q, func(a byte) bool {
			return always(q, func(x byte, y byte) bool { return m[m[a][x]][y] == m[a][m[x][y]] })
		}),
		"MiddleNucleus": elementsThat(q, func(a byte) bool {
			return always(q, func(x byte, y byte) bool { return m[m[x][a]][y] == m[x][m[a][y]] })
		}),
		"RightNucleus": elementsThat(q, func(a byte) bool {
			return always(q, func(x byte, y byte) bool { return m[m[x][y]][a] == m[x][m[y][a]] })
		}),
		"CommutantOf": elementsThat(q, func(a byte) bool {
			return always(q, func(x byte, _ byte) bool { return m[a][x] == m[x][a] })
		}),
		"CentreOf": centreByTrial(q),
	}
}

func TestNucleiByTrial(t *testing.T) {
	different := map[string]int{}
	eachLoop(t, func(q impl.Square) {
		wanted := nucleiByTrial(q)
		for name, want := range wanted {
			if list, code := wholeLists()[name](q); !slices.Equal(list, want) || code != impl.ErrNone {
				t.Errorf("%v: %s = %v, %d", q, name, list, code)
			}
			for other := range wanted {
				different[name+", but not "+other] += countOf(len(want) > len(wanted[other]))
			}
		}
	})
	// These loops can tell all of the sets from each other, but that the centre is never greater than the others.
	for name := range wholeLists() {
		for other := range wholeLists() {
			if pair := name + ", but not " + other; name != other && name != "CentreOf" && name != "FrattiniOf" && other != "FrattiniOf" && different[pair] == 0 {
				t.Errorf("no loop has elements of %s", pair)
			}
		}
	}
}

func TestNucleiOfExamples(t *testing.T) {
	all6, all8 := []int64{0, 1, 2, 3, 4, 5}, []int64{0, 1, 2, 3, 4, 5, 6, 7}
	none := []int64{0}
	cases := []struct {
		text                                   string
		left, middle, right, commutant, centre []int64
	}{
		{textOfOne, none, none, none, none, none},
		{"01/10", []int64{0, 1}, []int64{0, 1}, []int64{0, 1}, []int64{0, 1}, []int64{0, 1}},
		{textOfLoop5, none, none, none, none, none},
		{textOfTurns3, all6, all6, all6, none, none},
		{textOfTurns4, all8, all8, all8, []int64{0, 2}, []int64{0, 2}},
		{textOfQuarters, all8, all8, all8, []int64{0, 1}, []int64{0, 1}},
		{textOfCentre2, []int64{0, 1}, []int64{0, 1}, []int64{0, 1}, all6, []int64{0, 1}},
		{textOfAutomorphic6, none, []int64{0, 3, 5}, none, none, none},
	}
	for _, c := range cases {
		q := squareOf(t, c.text)
		wanted := map[string][]int64{"LeftNucleus": c.left, "MiddleNucleus": c.middle, "RightNucleus": c.right, "CommutantOf": c.commutant, "CentreOf": c.centre}
		for name, want := range wanted {
			if list := listIn(t, name, q); !slices.Equal(list, want) {
				t.Errorf("%s: %s = %v", c.text, name, list)
			}
		}
	}
	for n := int64(1); n <= impl.MaxOrder; n++ {
		for name := range nucleiByTrial(cyclicOf(t, n)) {
			if list := listIn(t, name, cyclicOf(t, n)); int64(len(list)) != n || list[n-1] != n-1 {
				t.Errorf("%s of the cyclic square of order %d is %v", name, n, list)
			}
		}
	}
}

// The opposite loop has the left nucleus as its right one, and the same other sets.
func TestNucleiOfOpposites(t *testing.T) {
	turned := map[string]string{"LeftNucleus": "RightNucleus", "RightNucleus": "LeftNucleus"}
	eachLoop(t, func(q impl.Square) {
		opposite := oppositeIn(t, q)
		for name := range wholeLists() {
			if list, other := listIn(t, name, q), listIn(t, cmp.Or(turned[name], name), opposite); !slices.Equal(list, other) {
				t.Errorf("%v: %s = %v, but of the opposite loop %v", q, name, list, other)
			}
		}
	})
}

// checkDifferences checks all commutators and associators of a loop by the definitions.
func checkDifferences(t *testing.T, q impl.Square) {
	t.Helper()
	m := q.Table
	left, _ := quotientsIn(q)
	for x := range byte(q.Order) {
		for y := range byte(q.Order) {
			if c, code := impl.CommutatorOf(q, x, y); c != left(m[y][x], m[x][y]) || code != impl.ErrNone {
				t.Errorf("%v: CommutatorOf(%d, %d) = %d, %d", q, x, y, c, code)
			}
			for z := range byte(q.Order) {
				if a, code := impl.AssociatorOf(q, x, y, z); a != left(m[x][m[y][z]], m[m[x][y]][z]) || code != impl.ErrNone {
					t.Errorf("%v: AssociatorOf(%d, %d, %d) = %d, %d", q, x, y, z, a, code)
				}
			}
		}
	}
}

func TestDifferencesByTrial(t *testing.T) {
	eachLoop(t, func(q impl.Square) { checkDifferences(t, q) })
}

func TestDifferencesOfExamples(t *testing.T) {
	commutators := []struct {
		text    string
		x, y, c byte
	}{
		{textOfOne, 0, 0, 0}, {textOfTurns3, 1, 3, 1}, {textOfTurns3, 3, 1, 2}, {textOfTurns3, 1, 2, 0}, {textOfTurns3, 0, 5, 0},
		{textOfLoop5, 1, 2, 1}, {textOfLoop5, 2, 1, 2}, {textOfQuarters, 2, 4, 1}, {textOfTurns4, 7, 6, 2},
	}
	for _, c := range commutators {
		if got, code := impl.CommutatorOf(squareOf(t, c.text), c.x, c.y); got != c.c || code != impl.ErrNone {
			t.Errorf("%s: CommutatorOf(%d, %d) = %d, %d", c.text, c.x, c.y, got, code)
		}
	}
	associators := []struct {
		text       string
		x, y, z, a byte
	}{
		{textOfOne, 0, 0, 0, 0}, {textOfTurns3, 1, 3, 4, 0}, {textOfLoop5, 1, 1, 2, 3}, {textOfLoop5, 2, 1, 1, 4}, {textOfLoop5, 0, 3, 4, 0},
		{textOfLoop5, 3, 0, 4, 0}, {textOfLoop5, 3, 4, 0, 0},
	}
	for _, c := range associators {
		if got, code := impl.AssociatorOf(squareOf(t, c.text), c.x, c.y, c.z); got != c.a || code != impl.ErrNone {
			t.Errorf("%s: AssociatorOf(%d, %d, %d) = %d, %d", c.text, c.x, c.y, c.z, got, code)
		}
	}
}

// Elements of a nucleus have associators 0 at their place, and those of the commutant commutators 0.
func TestElementsOfNucleiHaveNoDifferences(t *testing.T) {
	eachLoop(t, func(q impl.Square) {
		places := map[string]func(a byte, x byte, y byte) (byte, int64){
			"LeftNucleus":   func(a byte, x byte, y byte) (byte, int64) { return impl.AssociatorOf(q, a, x, y) },
			"MiddleNucleus": func(a byte, x byte, y byte) (byte, int64) { return impl.AssociatorOf(q, x, a, y) },
			"RightNucleus":  func(a byte, x byte, y byte) (byte, int64) { return impl.AssociatorOf(q, x, y, a) },
			"CommutantOf":   func(a byte, x byte, _ byte) (byte, int64) { return impl.CommutatorOf(q, a, x) },
		}
		for name, differ := range places {
			have := elementsThat(q, func(a byte) bool {
				return always(q, func(x byte, y byte) bool {
					d, code := differ(a, x, y)
					return d == 0 && code == impl.ErrNone
				})
			})
			if list := listIn(t, name, q); !slices.Equal(list, have) {
				t.Errorf("%v: %s = %v, but %v have no differences", q, name, list, have)
			}
		}
	})
}

// subloopsByTrial returns all sets of elements of a loop that are subloops, in the order of AllSubloops.
func subloopsByTrial(q impl.Square) []uint {
	left, right := quotientsIn(q)
	var list []uint
	for set := uint(1); set < 1<<q.Order; set += 2 {
		closed := always(q, func(x byte, y byte) bool {
			has := func(z byte) bool { return set>>z&1 == 1 }
			return !has(x) || !has(y) || has(q.Table[x][y]) && has(left(x, y)) && has(right(x, y))
		})
		if closed {
			list = append(list, set)
		}
	}
	slices.SortFunc(list, func(a uint, b uint) int {
		first, second := numbersIn(a), numbersIn(b)
		return cmp.Or(cmp.Compare(len(first), len(second)), slices.Compare(first, second))
	})
	return list
}

// listsIn returns the lists of some sets.
func listsIn(sets []uint) [][]int64 {
	var lists [][]int64
	for _, set := range sets {
		lists = append(lists, numbersIn(set))
	}
	return lists
}

// generatedByTrial returns what all of some subloops that have a set have in common.
func generatedByTrial(subloops []uint, set uint) uint {
	common := subloops[len(subloops)-1]
	for _, subloop := range subloops {
		if subloop&set == set {
			common &= subloop
		}
	}
	return common
}

// checkClosed checks which sets of elements of a loop are told to be closed, and what is told to be the least
// closed set with each set, if some sets are the closed ones.
func checkClosed(t *testing.T, q impl.Square, closed []uint, isClosed func(q impl.Square, list []int64) (bool, int64), closure func(q impl.Square, list []int64) ([]int64, int64)) {
	t.Helper()
	for set := range uint(1) << q.Order {
		list := numbersIn(set)
		if yes, code := isClosed(q, list); yes != slices.Contains(closed, set) || code != impl.ErrNone {
			t.Errorf("%v: %v is closed: %v, %d", q, list, yes, code)
		}
		if made, code := closure(q, list); !slices.Equal(made, numbersIn(generatedByTrial(closed, set))) || code != impl.ErrNone {
			t.Errorf("%v: the closure of %v is %v, %d", q, list, made, code)
		}
	}
}

// checkSubloops checks what is told of all subloops of a loop, and of all its sets of elements.
func checkSubloops(t *testing.T, q impl.Square) {
	t.Helper()
	subloops := subloopsByTrial(q)
	if lists, code := impl.AllSubloops(q); !sameLists(lists, listsIn(subloops)) || code != impl.ErrNone {
		t.Errorf("%v: AllSubloops = %v, %d", q, lists, code)
	}
	checkClosed(t, q, subloops, impl.IsSubloop, impl.SubloopOf)
}

func TestSubloopsByTrial(t *testing.T) {
	eachLoop(t, func(q impl.Square) { checkSubloops(t, q) })
}

func TestSubloopsOfExamples(t *testing.T) {
	counts := map[string]int{
		textOfOne: 1, "01/10": 2, textOfTurns3: 6, textOfTurns4: 10, textOfQuarters: 6, textOfLoop5: 6, textOfCentre2: 3,
	}
	for text, want := range counts {
		if lists, code := impl.AllSubloops(squareOf(t, text)); len(lists) != want || code != impl.ErrNone {
			t.Errorf("%s: AllSubloops = %v, %d", text, lists, code)
		}
	}
	// A cyclic group has one subgroup for each divisor of its order.
	for n, want := range []int{1: 1, 2: 2, 3: 2, 4: 3, 5: 2, 6: 4, 7: 2, 8: 4, 9: 3, 10: 4} {
		if n > 0 {
			if lists, code := impl.AllSubloops(cyclicOf(t, int64(n))); len(lists) != want || code != impl.ErrNone {
				t.Errorf("the subloops of the cyclic square of order %d are %v, %d", n, lists, code)
			}
		}
	}
	for k, want := range []int{1, 2, 5, 16} {
		if lists, code := impl.AllSubloops(elementaryOf(t, int64(k))); len(lists) != want || code != impl.ErrNone {
			t.Errorf("the subloops of the elementary square %d are %v, %d", k, lists, code)
		}
	}
	// Those of the plane of nine points are {0}, one for each point, one for each line, and all.
	lists, code := impl.AllSubloops(steinerOf10())
	if len(lists) != 1+9+12+1 || !slices.Equal(lists[1], []int64{0, 1}) || !slices.Equal(lists[10], []int64{0, 1, 2, 3}) || len(lists[22]) != 10 || code != impl.ErrNone {
		t.Errorf("the subloops of the loop of the plane are %v, %d", lists, code)
	}
	lists, code = impl.AllSubloops(squareOf(t, textOfTurns4))
	want := [][]int64{{0}, {0, 2}, {0, 4}, {0, 5}, {0, 6}, {0, 7}, {0, 1, 2, 3}, {0, 2, 4, 6}, {0, 2, 5, 7}, {0, 1, 2, 3, 4, 5, 6, 7}}
	if !sameLists(lists, want) || code != impl.ErrNone {
		t.Errorf("the subloops of the turns and flips are %v, %d", lists, code)
	}
}

func TestGeneratedSubloopsOfExamples(t *testing.T) {
	cases := []struct {
		text       string
		list, want []int64
	}{
		{textOfOne, nil, []int64{0}},
		{textOfOne, []int64{}, []int64{0}},
		{textOfOne, []int64{0}, []int64{0}},
		{textOfTurns3, nil, []int64{0}},
		{textOfTurns3, []int64{2}, []int64{0, 1, 2}},
		{textOfTurns3, []int64{4}, []int64{0, 4}},
		{textOfTurns3, []int64{3, 4}, []int64{0, 1, 2, 3, 4, 5}},
		{textOfTurns3, []int64{0, 1, 2, 3, 4, 5}, []int64{0, 1, 2, 3, 4, 5}},
		{textOfTurns4, []int64{4, 6}, []int64{0, 2, 4, 6}},
		{textOfLoop5, []int64{1}, []int64{0, 1}},
		{textOfLoop5, []int64{2}, []int64{0, 2}},
		{textOfLoop5, []int64{1, 2}, []int64{0, 1, 2, 3, 4}},
	}
	for _, c := range cases {
		q := squareOf(t, c.text)
		if made, code := impl.SubloopOf(q, c.list); !slices.Equal(made, c.want) || code != impl.ErrNone {
			t.Errorf("%s: SubloopOf(%v) = %v, %d", c.text, c.list, made, code)
		}
		if yes, code := impl.IsSubloop(q, c.list); yes != slices.Equal(c.list, c.want) || code != impl.ErrNone {
			t.Errorf("%s: IsSubloop(%v) = %v, %d", c.text, c.list, yes, code)
		}
	}
	made, code := impl.SubloopOf(cyclicOf(t, 10), []int64{4, 6})
	if !slices.Equal(made, []int64{0, 2, 4, 6, 8}) || code != impl.ErrNone {
		t.Errorf("SubloopOf = %v, %d", made, code)
	}
	made, code = impl.SubloopOf(steinerOf10(), []int64{1, 9})
	if !slices.Equal(made, []int64{0, 1, 5, 9}) || code != impl.ErrNone {
		t.Errorf("SubloopOf = %v, %d", made, code)
	}
}

// Promise 5: nuclei and centres are subloops, and generated subloops are subloops with the elements.
func TestNucleiAndCentresAreSubloops(t *testing.T) {
	check := func(q impl.Square) {
		for _, name := range []string{"LeftNucleus", "MiddleNucleus", "RightNucleus", "CentreOf", "FrattiniOf"} {
			list := listIn(t, name, q)
			if yes, code := impl.IsSubloop(q, list); !yes || code != impl.ErrNone {
				t.Errorf("%v: %s is %v, but IsSubloop = %v, %d", q, name, list, yes, code)
			}
		}
		series, code := impl.UpperSeries(q)
		for _, list := range series {
			if yes, code := impl.IsSubloop(q, list); !yes || code != impl.ErrNone {
				t.Errorf("%v: %v is in the upper central series, but IsSubloop = %v, %d", q, list, yes, code)
			}
		}
		if centre := listIn(t, "CentreOf", q); code != impl.ErrNone || !slices.Equal(series[0], centre) {
			t.Errorf("%v: the upper central series is %v, %d, and the centre %v", q, series, code, centre)
		}
	}
	eachLoop(t, check)
	allLoops(6, check)
}

// Promise 5: generated subloops are subloops with the elements, and the least ones.
func TestGeneratedSubloopsAreSubloops(t *testing.T) {
	eachLoop(t, func(q impl.Square) {
		all, _ := impl.AllSubloops(q)
		for set := range uint(1) << q.Order {
			list := numbersIn(set)
			made, code := impl.SubloopOf(q, list)
			if yes, other := impl.IsSubloop(q, made); !yes || code != impl.ErrNone || other != impl.ErrNone {
				t.Errorf("%v: SubloopOf(%v) = %v, %d, but IsSubloop = %v, %d", q, list, made, code, yes, other)
			}
			has := func(subloop []int64, list []int64) bool {
				return !slices.ContainsFunc(list, func(x int64) bool { return !slices.Contains(subloop, x) })
			}
			if !has(made, list) || !slices.ContainsFunc(all, func(subloop []int64) bool { return slices.Equal(subloop, made) }) {
				t.Errorf("%v: SubloopOf(%v) = %v", q, list, made)
			}
			for _, subloop := range all {
				if has(subloop, list) && !has(subloop, made) {
					t.Errorf("%v: SubloopOf(%v) = %v is not within %v", q, list, made, subloop)
				}
			}
		}
	})
}

// Promise 13: the centre of a loop is what all inner maps keep.
func TestCentresAreKeptByInnerMaps(t *testing.T) {
	check := func(q impl.Square) {
		kept, code := impl.KeptByInner(q)
		if centre := listIn(t, "CentreOf", q); !slices.Equal(centre, kept) || code != impl.ErrNone {
			t.Errorf("%v: the centre is %v, but the inner maps keep %v, %d", q, centre, kept, code)
		}
	}
	eachLoop(t, check)
	allLoops(6, check)
}

// cosetsByTrial returns the left cosets of a set in the order of their least elements, and whether any two
// of them are equal or have no element in common.
func cosetsByTrial(q impl.Square, set uint) ([]uint, bool) {
	var cosets []uint
	for x := range q.Order {
		coset := uint(0)
		for _, a := range numbersIn(set) {
			coset |= 1 << q.Table[x][a]
		}
		for _, other := range cosets {
			if other != coset && other&coset != 0 {
				return nil, false
			}
		}
		if !slices.Contains(cosets, coset) {
			cosets = append(cosets, coset)
		}
	}
	slices.SortFunc(cosets, func(a uint, b uint) int { return slices.Compare(numbersIn(a)[:1], numbersIn(b)[:1]) })
	return cosets, true
}

// checkCosets checks what is told of the cosets of all sets of elements of a loop, and returns how many
// subloops have none.
func checkCosets(t *testing.T, q impl.Square) int {
	t.Helper()
	subloops := subloopsByTrial(q)
	without := 0
	for set := range uint(1) << q.Order {
		want, code := [][]int64(nil), int64(impl.ErrState)
		if slices.Contains(subloops, set) {
			cosets, yes := cosetsByTrial(q, set)
			want, code = listsIn(cosets), impl.ErrNone
			if !yes {
				code = impl.ErrNotFound
				without++
			}
		}
		if lists, got := impl.CosetsOf(q, numbersIn(set)); !sameLists(lists, want) || got != code {
			t.Errorf("%v: CosetsOf(%v) = %v, %d", q, numbersIn(set), lists, got)
		}
	}
	return without
}

func TestCosetsByTrial(t *testing.T) {
	without := 0
	eachLoop(t, func(q impl.Square) {
		some := checkCosets(t, q)
		if some > 0 && impl.IsGroup(q) {
			t.Errorf("%d subloops of the group %v have no cosets", some, q)
		}
		without += some
	})
	if without < 100 {
		t.Errorf("%d subloops without cosets are too few", without)
	}
}

func TestCosetsOfExamples(t *testing.T) {
	cases := []struct {
		text   string
		list   []int64
		cosets [][]int64
		code   int64
	}{
		{textOfOne, []int64{0}, [][]int64{{0}}, impl.ErrNone},
		{textOfOne, nil, nil, impl.ErrState},
		{textOfTurns3, []int64{0}, [][]int64{{0}, {1}, {2}, {3}, {4}, {5}}, impl.ErrNone},
		{textOfTurns3, []int64{0, 3}, [][]int64{{0, 3}, {1, 4}, {2, 5}}, impl.ErrNone},
		{textOfTurns3, []int64{0, 4}, [][]int64{{0, 4}, {1, 5}, {2, 3}}, impl.ErrNone},
		{textOfTurns3, []int64{0, 1, 2}, [][]int64{{0, 1, 2}, {3, 4, 5}}, impl.ErrNone},
		{textOfTurns3, []int64{0, 1, 2, 3, 4, 5}, [][]int64{{0, 1, 2, 3, 4, 5}}, impl.ErrNone},
		{textOfTurns3, []int64{0, 2}, nil, impl.ErrState},
		{textOfTurns3, []int64{3, 4, 5}, nil, impl.ErrState},
		{textOfTurns3, nil, nil, impl.ErrState},
		{textOfTurns3, []int64{}, nil, impl.ErrState},
		{textOfLoop5, []int64{0}, [][]int64{{0}, {1}, {2}, {3}, {4}}, impl.ErrNone},
		{textOfLoop5, []int64{0, 1}, nil, impl.ErrNotFound},
		{textOfLoop5, []int64{0, 4}, nil, impl.ErrNotFound},
		{textOfLoop5, []int64{1}, nil, impl.ErrState},
		{textOfCentre2, []int64{0, 1}, [][]int64{{0, 1}, {2, 3}, {4, 5}}, impl.ErrNone},
	}
	for _, c := range cases {
		if lists, code := impl.CosetsOf(squareOf(t, c.text), c.list); !sameLists(lists, c.cosets) || code != c.code {
			t.Errorf("%s: CosetsOf(%v) = %v, %d", c.text, c.list, lists, code)
		}
	}
	// The cosets are the left ones: those on the other side are {0, 3}, {1, 5} and {2, 4}.
	lists, code := impl.CosetsOf(oppositeIn(t, squareOf(t, textOfTurns3)), []int64{0, 3})
	if !sameLists(lists, [][]int64{{0, 3}, {1, 5}, {2, 4}}) || code != impl.ErrNone {
		t.Errorf("CosetsOf = %v, %d", lists, code)
	}
	lists, code = impl.CosetsOf(cyclicOf(t, 10), []int64{0, 5})
	if !sameLists(lists, [][]int64{{0, 5}, {1, 6}, {2, 7}, {3, 8}, {4, 9}}) || code != impl.ErrNone {
		t.Errorf("CosetsOf = %v, %d", lists, code)
	}
	lists, code = impl.CosetsOf(steinerOf10(), []int64{0, 1, 2, 3})
	if len(lists) != 0 || code != impl.ErrNotFound {
		t.Errorf("CosetsOf = %v, %d", lists, code)
	}
}

// checkPowers checks the powers and the order of each element of a loop.
func checkPowers(t *testing.T, q impl.Square) {
	t.Helper()
	for x := range byte(q.Order) {
		order := int64(0)
		power := byte(0)
		for k := range int64(35) {
			if got, code := impl.PowerOf(q, x, k); got != power || code != impl.ErrNone {
				t.Errorf("%v: PowerOf(%d, %d) = %d, %d", q, x, k, got, code)
			}
			if k > 0 && power == 0 && order == 0 {
				order = k
			}
			power = q.Table[x][power]
		}
		if got, code := impl.OrderOf(q, x); got != order || code != impl.ErrNone {
			t.Errorf("%v: OrderOf(%d) = %d, %d", q, x, got, code)
		}
		for k := int64(1000000); k > 999980; k-- {
			near, a := impl.PowerOf(q, x, k%order)
			far, b := impl.PowerOf(q, x, k)
			if near != far || a != impl.ErrNone || b != impl.ErrNone {
				t.Errorf("%v: PowerOf(%d, %d) = %d, %d, but with %d less %d, %d", q, x, k, far, b, k-k%order, near, a)
			}
		}
	}
}

func TestPowersByTrial(t *testing.T) {
	eachLoop(t, func(q impl.Square) { checkPowers(t, q) })
}

// The powers with many factors are those of so many products, one after the other.
func TestPowersWithManyFactors(t *testing.T) {
	for _, q := range []impl.Square{squareOf(t, textOfLoop7), squareOf(t, textOfLoop6), squareOf(t, textOfLoop5), cyclicOf(t, 10), steinerOf10(), cyclicOf(t, 1)} {
		for x := range byte(q.Order) {
			power := byte(0)
			for range 1000000 {
				power = q.Table[x][power]
			}
			if got, code := impl.PowerOf(q, x, 1000000); got != power || code != impl.ErrNone {
				t.Errorf("%v: PowerOf(%d, 1000000) = %d, %d", q, x, got, code)
			}
		}
	}
}

func TestPowersOfExamples(t *testing.T) {
	cases := []struct {
		text  string
		x     byte
		k     int64
		power byte
		order int64
	}{
		{textOfOne, 0, 0, 0, 1}, {textOfOne, 0, 1000000, 0, 1},
		{textOfTurns3, 0, 7, 0, 1}, {textOfTurns3, 1, 0, 0, 3}, {textOfTurns3, 1, 1, 1, 3}, {textOfTurns3, 1, 2, 2, 3}, {textOfTurns3, 2, 1000000, 2, 3},
		{textOfTurns3, 3, 999999, 3, 2}, {textOfTurns4, 1, 1000000, 0, 4}, {textOfTurns4, 3, 999999, 1, 4},
		{textOfLoop7, 1, 3, 1, 2}, {textOfLoop7, 3, 2, 6, 7}, {textOfLoop7, 3, 4, 5, 7}, {textOfLoop7, 3, 1000000, 3, 7}, {textOfLoop7, 6, 2, 5, 4}, {textOfLoop7, 6, 3, 3, 4},
		{textOfLoop7, 6, 4, 0, 4}, {textOfLoop7, 6, 1000000, 0, 4},
	}
	for _, c := range cases {
		q := squareOf(t, c.text)
		if power, code := impl.PowerOf(q, c.x, c.k); power != c.power || code != impl.ErrNone {
			t.Errorf("%s: PowerOf(%d, %d) = %d, %d", c.text, c.x, c.k, power, code)
		}
		if order, code := impl.OrderOf(q, c.x); order != c.order || code != impl.ErrNone {
			t.Errorf("%s: OrderOf(%d) = %d, %d", c.text, c.x, order, code)
		}
	}
	for x := range byte(10) {
		if order, code := impl.OrderOf(cyclicOf(t, 10), x); order != []int64{1, 10, 5, 10, 5, 2, 5, 10, 5, 10}[x] || code != impl.ErrNone {
			t.Errorf("OrderOf(%d) = %d, %d", x, order, code)
		}
	}
}

// seriesByTrial returns the upper central series by the definition.
func seriesByTrial(q impl.Square) [][]int64 {
	left, _ := quotientsIn(q)
	m := q.Table
	commutator := func(x byte, y byte) byte { return left(m[y][x], m[x][y]) }
	associator := func(x byte, y byte, z byte) byte { return left(m[x][m[y][z]], m[m[x][y]][z]) }
	after := func(set []int64) []int64 {
		has := func(x byte) bool { return slices.Contains(set, int64(x)) }
		return elementsThat(q, func(a byte) bool {
			return always(q, func(x byte, y byte) bool {
				return has(commutator(a, x)) && has(associator(a, x, y)) && has(associator(x, a, y)) && has(associator(x, y, a))
			})
		})
	}
	series := [][]int64{after([]int64{0})}
	for {
		last := series[len(series)-1]
		next := after(last)
		if slices.Equal(next, last) {
			return series
		}
		series = append(series, next)
	}
}

// checkSeries checks the upper central series and the class of a loop, and returns the class, -1 if there is none.
func checkSeries(t *testing.T, q impl.Square) int64 {
	t.Helper()
	want := seriesByTrial(q)
	series, code := impl.UpperSeries(q)
	if !sameLists(series, want) || code != impl.ErrNone {
		t.Errorf("%v: UpperSeries = %v, %d", q, series, code)
	}
	class, found := int64(len(want)), int64(impl.ErrNone)
	switch {
	case q.Order == 1:
		class = 0
	case int64(len(want[class-1])) < q.Order:
		class, found = 0, impl.ErrNotFound
	}
	if got, code := impl.ClassOf(q); got != class || code != found {
		t.Errorf("%v: ClassOf = %d, %d", q, got, code)
	}
	if found != impl.ErrNone {
		return -1
	}
	return class
}

func TestSeriesByTrial(t *testing.T) {
	met := map[int64]int{}
	eachLoop(t, func(q impl.Square) { met[checkSeries(t, q)]++ })
	for class, least := range map[int64]int{-1: 200, 0: 1, 1: 10, 2: 20} {
		if met[class] < least {
			t.Errorf("%d loops of class %d are too few", met[class], class)
		}
	}
}

func TestSeriesOfExamples(t *testing.T) {
	all6, all8 := []int64{0, 1, 2, 3, 4, 5}, []int64{0, 1, 2, 3, 4, 5, 6, 7}
	cases := []struct {
		q      impl.Square
		series [][]int64
		class  int64
		code   int64
	}{
		{squareOf(t, textOfOne), [][]int64{{0}}, 0, impl.ErrNone},
		{squareOf(t, "01/10"), [][]int64{{0, 1}}, 1, impl.ErrNone},
		{cyclicOf(t, 10), [][]int64{{0, 1, 2, 3, 4, 5, 6, 7, 8, 9}}, 1, impl.ErrNone},
		{squareOf(t, textOfTurns3), [][]int64{{0}}, 0, impl.ErrNotFound},
		{squareOf(t, textOfLoop5), [][]int64{{0}}, 0, impl.ErrNotFound},
		{squareOf(t, textOfTurns4), [][]int64{{0, 2}, all8}, 2, impl.ErrNone},
		{squareOf(t, textOfQuarters), [][]int64{{0, 1}, all8}, 2, impl.ErrNone},
		{squareOf(t, textOfCentre2), [][]int64{{0, 1}, all6}, 2, impl.ErrNone},
		{steinerOf10(), [][]int64{{0}}, 0, impl.ErrNotFound},
		{groupOfTurns(5), [][]int64{{0}}, 0, impl.ErrNotFound},
		// The centre is greater than {0}, but the next set is the same one.
		{extensionOf(squareOf(t, textOfLoop5), 2, func(a int64, b int64) int64 { return 0 }), [][]int64{{0, 1}}, 0, impl.ErrNotFound},
	}
	for _, c := range cases {
		if series, code := impl.UpperSeries(c.q); !sameLists(series, c.series) || code != impl.ErrNone {
			t.Errorf("%v: UpperSeries = %v, %d", c.q, series, code)
		}
		if class, code := impl.ClassOf(c.q); class != c.class || code != c.code {
			t.Errorf("%v: ClassOf = %d, %d", c.q, class, code)
		}
	}
}

// frattiniByTrial returns what the greatest subloops but the loop have in common, or else the loop.
func frattiniByTrial(q impl.Square) []int64 {
	all := subloopsByTrial(q)
	common := all[len(all)-1]
	others := all[:len(all)-1]
	for _, subloop := range others {
		greatest := true
		for _, other := range others {
			greatest = greatest && (other == subloop || other&subloop != subloop)
		}
		if greatest {
			common &= subloop
		}
	}
	return numbersIn(common)
}

func TestFrattiniByTrial(t *testing.T) {
	met := map[int]int{}
	eachLoop(t, func(q impl.Square) {
		want := frattiniByTrial(q)
		if list, code := impl.FrattiniOf(q); !slices.Equal(list, want) || code != impl.ErrNone {
			t.Errorf("%v: FrattiniOf = %v, %d", q, list, code)
		}
		// Only the loop of order 1 has no subloop but itself.
		if q.Order > 1 && int64(len(want)) == q.Order {
			t.Errorf("%v: %v are in all greatest subloops", q, want)
		}
		met[len(want)]++
	})
	for size, least := range map[int]int{1: 100, 2: 20, 3: 2, 4: 1} {
		if met[size] < least {
			t.Errorf("%d Frattini subloops with %d elements are too few", met[size], size)
		}
	}
}

func TestFrattiniOfExamples(t *testing.T) {
	cases := map[string][]int64{
		textOfOne: {0}, "01/10": {0}, textOfTurns3: {0}, textOfTurns4: {0, 2}, textOfQuarters: {0, 1}, textOfLoop5: {0},
		textOfCentre2: {0, 1},
	}
	for text, want := range cases {
		if list := listIn(t, "FrattiniOf", squareOf(t, text)); !slices.Equal(list, want) {
			t.Errorf("%s: FrattiniOf = %v", text, list)
		}
	}
	orders := [][]int64{1: {0}, 2: {0}, 3: {0}, 4: {0, 2}, 5: {0}, 6: {0}, 7: {0}, 8: {0, 2, 4, 6}, 9: {0, 3, 6}, 10: {0}}
	for n := int64(1); n <= impl.MaxOrder; n++ {
		if list := listIn(t, "FrattiniOf", cyclicOf(t, n)); !slices.Equal(list, orders[n]) {
			t.Errorf("FrattiniOf of the cyclic square of order %d is %v", n, list)
		}
	}
	if list := listIn(t, "FrattiniOf", elementaryOf(t, 3)); !slices.Equal(list, []int64{0}) {
		t.Errorf("FrattiniOf of the elementary square is %v", list)
	}
	if list := listIn(t, "FrattiniOf", steinerOf10()); !slices.Equal(list, []int64{0}) {
		t.Errorf("FrattiniOf of the loop of the plane is %v", list)
	}
}

// ledList returns where p leads the elements of a list, in ascending order.
func ledList(p impl.Places, list []int64) []int64 {
	var led []int64
	for _, x := range list {
		led = append(led, int64(p[x]))
	}
	slices.Sort(led)
	return led
}

// checkAlike checks that what is told of q is told of r, to which an isomorphism p leads it.
func checkAlike(t *testing.T, q impl.Square, r impl.Square, p impl.Places) {
	t.Helper()
	for name := range wholeLists() {
		if list, led := listIn(t, name, r), ledList(p, listIn(t, name, q)); !slices.Equal(list, led) {
			t.Errorf("%v: %s is led to %v, but is %v in %v", q, name, led, list, r)
		}
	}
	series, _ := impl.UpperSeries(q)
	others, _ := impl.UpperSeries(r)
	for k := range series {
		if len(series) != len(others) || !slices.Equal(others[k], ledList(p, series[k])) {
			t.Fatalf("%v: the series %v is led to %v", q, series, others)
		}
	}
	subloops, _ := impl.AllSubloops(q)
	led, _ := impl.AllSubloops(r)
	for _, subloop := range subloops {
		there := ledList(p, subloop)
		if len(led) != len(subloops) || !slices.ContainsFunc(led, func(other []int64) bool { return slices.Equal(other, there) }) {
			t.Errorf("%v: the subloops are led to %v", q, led)
		}
		cosets, a := impl.CosetsOf(q, subloop)
		others, b := impl.CosetsOf(r, there)
		if len(cosets) != len(others) || a != b {
			t.Errorf("%v: the cosets of %v are %v, %d, but led on %v, %d", q, subloop, cosets, a, others, b)
		}
	}
	for x := range byte(q.Order) {
		order, _ := impl.OrderOf(q, x)
		other, _ := impl.OrderOf(r, p[x])
		power, _ := impl.PowerOf(q, x, 3)
		third, _ := impl.PowerOf(r, p[x], 3)
		if order != other || p[power] != third {
			t.Errorf("%v: %d has the order %d and the third power %d, but led on %d and %d", q, x, order, power, other, third)
		}
	}
}

// What is told of a loop holds in all loops that are alike.
func TestNucleiOfIsomorphicLoops(t *testing.T) {
	for _, q := range loopsForNuclei(t) {
		for _, p := range somePlaces(q.Order) {
			p[slices.Index(p[:q.Order], 0)], p[0] = p[0], 0
			checkAlike(t, q, isotopeOf(t, q, thrice(p)), p)
		}
	}
}

// checkNoList checks that the functions that return lists, or the class, of a loop refuse q.
func checkNoList(t *testing.T, reason string, q impl.Square) {
	t.Helper()
	for name, function := range wholeLists() {
		if list, code := function(q); len(list) != 0 || code != impl.ErrInvalid {
			t.Errorf("%s: %s(%v) = %v, %d", reason, name, q, list, code)
		}
	}
	if lists, code := impl.AllSubloops(q); len(lists) != 0 || code != impl.ErrInvalid {
		t.Errorf("%s: AllSubloops(%v) = %v, %d", reason, q, lists, code)
	}
	if lists, code := impl.UpperSeries(q); len(lists) != 0 || code != impl.ErrInvalid {
		t.Errorf("%s: UpperSeries(%v) = %v, %d", reason, q, lists, code)
	}
	if class, code := impl.ClassOf(q); class != 0 || code != impl.ErrInvalid {
		t.Errorf("%s: ClassOf(%v) = %d, %d", reason, q, class, code)
	}
}

// checkElementCodes checks that the functions of elements, x one of them and y the other ones, return a code
// and zero values.
func checkElementCodes(t *testing.T, reason string, q impl.Square, x byte, y byte, want int64) {
	t.Helper()
	for _, pair := range [][2]byte{{x, y}, {y, x}} {
		if c, code := impl.CommutatorOf(q, pair[0], pair[1]); c != 0 || code != want {
			t.Errorf("%s: CommutatorOf(%v, %v) = %d, %d", reason, q, pair, c, code)
		}
	}
	for _, three := range [][3]byte{{x, y, y}, {y, x, y}, {y, y, x}, {x, x, x}} {
		if a, code := impl.AssociatorOf(q, three[0], three[1], three[2]); a != 0 || code != want {
			t.Errorf("%s: AssociatorOf(%v, %v) = %d, %d", reason, q, three, a, code)
		}
	}
	for _, k := range append(badFactors(), 0, 1, 1000000) {
		if power, code := impl.PowerOf(q, x, k); power != 0 || code != want {
			t.Errorf("%s: PowerOf(%v, %d, %d) = %d, %d", reason, q, x, k, power, code)
		}
	}
	if order, code := impl.OrderOf(q, x); order != 0 || code != want {
		t.Errorf("%s: OrderOf(%v, %d) = %d, %d", reason, q, x, order, code)
	}
}

// checkSetCodes checks that the functions of a list of elements return a code and zero values.
func checkSetCodes(t *testing.T, reason string, q impl.Square, list []int64, want int64) {
	t.Helper()
	if made, code := impl.SubloopOf(q, list); len(made) != 0 || code != want {
		t.Errorf("%s: SubloopOf(%v, %v) = %v, %d", reason, q, list, made, code)
	}
	if yes, code := impl.IsSubloop(q, list); yes || code != want {
		t.Errorf("%s: IsSubloop(%v, %v) = %v, %d", reason, q, list, yes, code)
	}
	if lists, code := impl.CosetsOf(q, list); len(lists) != 0 || code != want {
		t.Errorf("%s: CosetsOf(%v, %v) = %v, %d", reason, q, list, lists, code)
	}
}

// badFactors are numbers of factors that no power has.
func badFactors() []int64 {
	return []int64{-1, -2, 1000001, 1000002, 1 << 32, math.MaxInt64, math.MinInt64}
}

// badSets are lists that are no strictly ascending lists of elements of a loop of order n.
func badSets(n int64) [][]int64 {
	sets := [][]int64{{0, 0}, {n - 1, n - 1}, {0, n}, {n}, slices.Repeat([]int64{0}, 1000)}
	for _, x := range noNumbers() {
		sets = append(sets, []int64{x}, []int64{x, 0}, []int64{0, x}, []int64{x, x})
	}
	long := numbersIn(1<<n - 1)
	sets = append(sets, append(slices.Clone(long), n), append(slices.Clone(long), n-1), append(slices.Clone(long), 0), append([]int64{-1}, long...))
	if n > 1 {
		sets = append(sets, []int64{1, 0}, []int64{n - 1, 0}, []int64{0, 1, 0}, []int64{0, 1, 1}, []int64{0, 0, 1}, []int64{0, n - 1, n})
		slices.Reverse(long)
		sets = append(sets, long)
	}
	return sets
}

// eachNoLoop calls each with what is no square, and with squares that are no loops, and tells why.
func eachNoLoop(t *testing.T, each func(reason string, q impl.Square)) {
	t.Helper()
	for reason, q := range noSquares(t) {
		each(reason, q)
	}
	for _, q := range append(manySquares(t), allSquaresOfOrderThree()...) {
		if !impl.IsLoop(q) {
			each("no loop", q)
		}
	}
	nearly := squareOf(t, textOfTurns3)
	nearly.Table[1], nearly.Table[2] = nearly.Table[2], nearly.Table[1]
	each("0 is neutral on one side alone", nearly)
	each("0 is neutral on the other side alone", oppositeIn(t, nearly))
}

// That something is no loop goes before that something is not in its range.
func TestNucleiErrorsOfLoops(t *testing.T) {
	eachNoLoop(t, func(reason string, q impl.Square) {
		checkNoList(t, reason, q)
		for _, x := range []byte{0, 1, 2, 9, 10, 255} {
			checkElementCodes(t, reason, q, x, 0, impl.ErrInvalid)
		}
		for _, list := range append(badSets(3), nil, []int64{}, []int64{0}, []int64{0, 1}) {
			checkSetCodes(t, reason, q, list, impl.ErrInvalid)
		}
	})
}

func TestNucleiErrorsOfElements(t *testing.T) {
	for _, q := range loopsForNuclei(t) {
		n := byte(q.Order)
		for _, x := range []byte{n, n + 1, 10, 127, 128, 255} {
			for _, y := range []byte{0, n - 1, x} {
				checkElementCodes(t, "no element", q, x, y, impl.ErrRange)
			}
		}
		for _, k := range badFactors() {
			for _, x := range []byte{0, n - 1, n} {
				if power, code := impl.PowerOf(q, x, k); power != 0 || code != impl.ErrRange {
					t.Errorf("%v: PowerOf(%d, %d) = %d, %d", q, x, k, power, code)
				}
			}
		}
		for _, list := range badSets(q.Order) {
			checkSetCodes(t, "no set", q, list, impl.ErrRange)
		}
	}
}

// No function changes a list, nor what stands behind its end.
func TestNucleiKeepTheirLists(t *testing.T) {
	for _, q := range loopsForNuclei(t) {
		for set := range uint(1) << q.Order {
			list := numbersIn(set)
			room := append(slices.Clone(list), 77, 78, 79, 80, 81, 82, 83, 84, 85, 86)
			kept := slices.Clone(room)
			impl.SubloopOf(q, room[:len(list)])
			impl.IsSubloop(q, room[:len(list)])
			impl.CosetsOf(q, room[:len(list)])
			if !slices.Equal(room, kept) {
				t.Fatalf("%v: the list %v has become %v", q, kept, room)
			}
		}
	}
}

// spoilNumbers fills a list, and the memory behind its end.
func spoilNumbers(list []int64) {
	for k := range list[:cap(list)] {
		list[:cap(list)][k] = 77
	}
}

// checkApart checks that no two of the lists that a function returns share memory, not even behind their ends,
// and that a second call is not changed by the first one.
func checkApart(t *testing.T, name string, call func() [][]int64) {
	t.Helper()
	lists, want := call(), call()
	if len(lists) == 0 {
		t.Fatalf("%s: there are no lists", name)
	}
	for k := range lists {
		if !sameLists(lists[k:], want[k:]) {
			t.Fatalf("%s: changing lists before %d makes %v", name, k, lists)
		}
		spoilNumbers(lists[k])
	}
	if again := call(); !sameLists(again, want) {
		t.Errorf("%s: a later call returns %v", name, again)
	}
}

func TestNucleiShareNoMemory(t *testing.T) {
	turns, whole := squareOf(t, textOfTurns4), []int64{0, 1, 2, 3, 4, 5, 6, 7}
	first := func(lists [][]int64, _ int64) [][]int64 { return lists }
	alone := func(list []int64, _ int64) [][]int64 { return [][]int64{list} }
	calls := map[string]func() [][]int64{
		"AllSubloops": func() [][]int64 { return first(impl.AllSubloops(turns)) },
		"UpperSeries": func() [][]int64 { return first(impl.UpperSeries(turns)) },
		"CosetsOf":    func() [][]int64 { return first(impl.CosetsOf(turns, []int64{0, 4})) },
		"SubloopOf":   func() [][]int64 { return alone(impl.SubloopOf(turns, whole)) },
	}
	for name, function := range maps.All(wholeLists()) {
		calls[name] = func() [][]int64 { return alone(function(turns)) }
	}
	for name, call := range calls {
		checkApart(t, name, call)
	}
	// A list that is already the subloop, or the only coset, is returned as another one.
	made, _ := impl.SubloopOf(turns, whole)
	cosets, _ := impl.CosetsOf(turns, whole)
	spoilNumbers(made)
	spoilNumbers(cosets[0])
	if !slices.Equal(whole, []int64{0, 1, 2, 3, 4, 5, 6, 7}) {
		t.Errorf("changing results has made %v of the list", whole)
	}
}
