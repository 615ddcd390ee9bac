package tests

import (
	"math"
	"math/bits"
	"slices"
	"testing"

	"loop.example/g01195/impl"
)

const textOfAutomorphic6 = "012345/103452/250134/324510/435201/541023" // no group, but its inner maps are automorphisms

// cycleOf returns the permutation of n numbers that leads each of some numbers to the next one, and the
// last one to the first one.
func cycleOf(n int64, numbers ...byte) impl.Places {
	p := unchanged(n)
	for k, x := range numbers {
		p[x] = numbers[(k+1)%len(numbers)]
	}
	return p
}

// inTurn returns the permutation of n numbers that leads as each of the list does, one after the other.
func inTurn(n int64, list ...impl.Places) impl.Places {
	then := unchanged(n)
	for x := range n {
		for _, p := range list {
			then[x] = p[then[x]]
		}
	}
	return then
}

// leadingBack returns the permutation of n numbers that leads back what p has led.
func leadingBack(n int64, p impl.Places) impl.Places {
	var back impl.Places
	for x := range n {
		back[p[x]] = byte(x)
	}
	return back
}

// placesBy returns the permutation of n numbers that leads x to to(x).
func placesBy(n int64, to func(x byte) byte) impl.Places {
	var p impl.Places
	for x := range byte(n) {
		p[x] = to(x)
	}
	return p
}

// membersByTrial returns all permutations of the group of a list.
func membersByTrial(list []impl.Places, n int64) map[impl.Places]bool {
	members := map[impl.Places]bool{unchanged(n): true}
	for pending := []impl.Places{unchanged(n)}; len(pending) > 0; pending = pending[1:] {
		for _, p := range list {
			if then := inTurn(n, pending[0], p); !members[then] {
				members[then] = true
				pending = append(pending, then)
			}
		}
	}
	return members
}

// maskOf returns the set to which p leads a set of numbers.
func maskOf(p impl.Places, set uint) uint {
	led := uint(0)
	for x := range impl.MaxOrder {
		led |= set >> x & 1 << p[x]
	}
	return led
}

// isBlockByTrial tells whether all sets to which the group of a list leads a set are the same set or have
// no number in common with it.
func isBlockByTrial(list []impl.Places, set uint) bool {
	met := map[uint]bool{set: true}
	for pending := []uint{set}; len(pending) > 0; pending = pending[1:] {
		for _, p := range list {
			led := maskOf(p, pending[0])
			if led != set && led&set != 0 {
				return false
			}
			if !met[led] {
				met[led] = true
				pending = append(pending, led)
			}
		}
	}
	return true
}

// blocksByTrial returns all blocks of the group of a list.
func blocksByTrial(list []impl.Places, n int64) []uint {
	var blocks []uint
	for set := range uint(1) << n {
		if isBlockByTrial(list, set) {
			blocks = append(blocks, set)
		}
	}
	return blocks
}

// leastWith returns the numbers of the least one of some blocks that have x and y.
func leastWith(blocks []uint, x int64, y int64) []int64 {
	least := uint(1)<<impl.MaxOrder - 1
	for _, set := range blocks {
		if set>>x&1 == 1 && set>>y&1 == 1 && bits.OnesCount(set) < bits.OnesCount(least) {
			least = set
		}
	}
	return numbersIn(least)
}

// orbitsByTrial returns the orbits of a group with some permutations.
func orbitsByTrial(members map[impl.Places]bool, n int64) [][]int64 {
	var orbits [][]int64
	var told [impl.MaxOrder]bool
	for x := range n {
		var orbit []int64
		for to := range n {
			for p := range members {
				if !told[to] && int64(p[x]) == to {
					orbit = append(orbit, to)
					told[to] = true
				}
			}
		}
		if len(orbit) > 0 {
			orbits = append(orbits, orbit)
		}
	}
	return orbits
}

// sameLists tells whether both have equal lists in the same order.
func sameLists(first [][]int64, second [][]int64) bool {
	return slices.EqualFunc(first, second, slices.Equal[[]int64])
}

// orderIn returns the order of the group of a list.
func orderIn(t *testing.T, list []impl.Places, n int64) int64 {
	t.Helper()
	order, code := impl.GroupOrder(list, n)
	if code != impl.ErrNone {
		t.Fatalf("GroupOrder(%v, %d): code %d", list, n, code)
	}
	return order
}

// checkMember checks whether the group of a list is told to have p, and that its order is kept exactly by
// the permutations that it has.
func checkMember(t *testing.T, list []impl.Places, n int64, p impl.Places, want bool) {
	t.Helper()
	if yes, code := impl.InGroup(list, n, p); yes != want || code != impl.ErrNone {
		t.Errorf("InGroup(%v, %d, %v) = %v, %d", list, n, p, yes, code)
	}
	if len(list) == impl.MaxGenerators {
		return
	}
	order, wider := orderIn(t, list, n), orderIn(t, append(slices.Clone(list), p), n)
	if want != (wider == order) || wider%order != 0 {
		t.Errorf("the group of %v for %d has the order %d, and with %v the order %d", list, n, order, p, wider)
	}
}

// checkBlocks checks what is told of the blocks of the group of a list with a number of orbits.
func checkBlocks(t *testing.T, list []impl.Places, n int64, orbits int) {
	t.Helper()
	blocks := blocksByTrial(list, n)
	for x := range n {
		for y := range n {
			var want []int64
			code := int64(impl.ErrState)
			if orbits == 1 {
				want, code = leastWith(blocks, x, y), impl.ErrNone
			}
			if block, got := impl.LeastBlock(list, n, x, y); !slices.Equal(block, want) || got != code {
				t.Errorf("LeastBlock(%v, %d, %d, %d) = %v, %d", list, n, x, y, block, got)
			}
		}
	}
	// The blocks that a primitive group has in any case are the empty one, those of one number, and all numbers.
	want := orbits == 1 && (n == 1 || int64(len(blocks)) == n+2)
	if yes, code := impl.IsPrimitive(list, n); yes != want || code != impl.ErrNone {
		t.Errorf("IsPrimitive(%v, %d) = %v, %d", list, n, yes, code)
	}
}

// checkOrbits checks what is told of the order and the orbits of a group with some permutations.
func checkOrbits(t *testing.T, list []impl.Places, n int64, members map[impl.Places]bool) {
	t.Helper()
	if order := orderIn(t, list, n); order != int64(len(members)) {
		t.Errorf("GroupOrder(%v, %d) = %d of %d", list, n, order, len(members))
	}
	orbits, code := impl.OrbitsOf(list, n)
	if !sameLists(orbits, orbitsByTrial(members, n)) || code != impl.ErrNone {
		t.Errorf("OrbitsOf(%v, %d) = %v, %d", list, n, orbits, code)
	}
	for _, orbit := range orbits {
		keep := 0
		for p := range members {
			keep += countOf(int64(p[orbit[0]]) == orbit[0])
		}
		if keep*len(orbit) != len(members) {
			t.Errorf("%d permutations of %v keep the first number of %v", keep, list, orbit)
		}
	}
}

// checkGroup checks by trial all that is told of the group of a list of permutations of n numbers.
func checkGroup(t *testing.T, list []impl.Places, n int64) {
	t.Helper()
	members := membersByTrial(list, n)
	checkOrbits(t, list, n, members)
	checkBlocks(t, list, n, len(orbitsByTrial(members, n)))
	orderings(int(n), func(numbers []byte) {
		p := placesOf(numbers)
		checkMember(t, list, n, p, members[p])
	})
}

func TestMaxGenerators(t *testing.T) {
	if impl.MaxGenerators != 40 {
		t.Errorf("MaxGenerators = %d", impl.MaxGenerators)
	}
}

func TestGroupsOfExamples(t *testing.T) {
	swap, turn := cycleOf(3, 0, 1), cycleOf(3, 0, 1, 2)
	cases := []struct {
		list   []impl.Places
		n      int64
		order  int64
		orbits [][]int64
	}{
		{[]impl.Places{swap}, 3, 2, [][]int64{{0, 1}, {2}}},
		{[]impl.Places{turn}, 3, 3, [][]int64{{0, 1, 2}}},
		{[]impl.Places{swap, turn}, 3, 6, [][]int64{{0, 1, 2}}},
		{[]impl.Places{turn, swap, turn, swap}, 3, 6, [][]int64{{0, 1, 2}}},
		{nil, 1, 1, [][]int64{{0}}},
		{[]impl.Places{}, 1, 1, [][]int64{{0}}},
		{[]impl.Places{{}, {}}, 1, 1, [][]int64{{0}}},
		{nil, 3, 1, [][]int64{{0}, {1}, {2}}},
		{[]impl.Places{unchanged(3)}, 3, 1, [][]int64{{0}, {1}, {2}}},
		{nil, 10, 1, [][]int64{{0}, {1}, {2}, {3}, {4}, {5}, {6}, {7}, {8}, {9}}},
		{[]impl.Places{cycleOf(10, 7, 2)}, 10, 2, [][]int64{{0}, {1}, {2, 7}, {3}, {4}, {5}, {6}, {8}, {9}}},
		{[]impl.Places{cycleOf(10, 9, 3, 0), cycleOf(10, 8, 3)}, 10, 24, [][]int64{{0, 3, 8, 9}, {1}, {2}, {4}, {5}, {6}, {7}}},
		{[]impl.Places{cycleOf(10, 6, 9), cycleOf(10, 8, 5, 2)}, 10, 6, [][]int64{{0}, {1}, {2, 5, 8}, {3}, {4}, {6, 9}, {7}}},
		{[]impl.Places{inTurn(10, cycleOf(10, 0, 1), cycleOf(10, 2, 3, 4), cycleOf(10, 5, 6, 7, 8, 9))}, 10, 30, [][]int64{{0, 1}, {2, 3, 4}, {5, 6, 7, 8, 9}}},
	}
	for _, c := range cases {
		if order, code := impl.GroupOrder(c.list, c.n); order != c.order || code != impl.ErrNone {
			t.Errorf("GroupOrder(%v, %d) = %d, %d", c.list, c.n, order, code)
		}
		if orbits, code := impl.OrbitsOf(c.list, c.n); !sameLists(orbits, c.orbits) || code != impl.ErrNone {
			t.Errorf("OrbitsOf(%v, %d) = %v, %d", c.list, c.n, orbits, code)
		}
	}
}

func TestBlocksOfExamples(t *testing.T) {
	ten := []impl.Places{cycleOf(10, 0, 1, 2, 3, 4, 5, 6, 7, 8, 9)}
	cases := []struct {
		list  []impl.Places
		n     int64
		x, y  int64
		block []int64
	}{
		{nil, 1, 0, 0, []int64{0}},
		{[]impl.Places{{1, 0}}, 2, 0, 1, []int64{0, 1}},
		{[]impl.Places{{1, 0}}, 2, 1, 1, []int64{1}},
		{[]impl.Places{{1, 2, 3, 0}}, 4, 0, 2, []int64{0, 2}},
		{[]impl.Places{{1, 2, 3, 0}}, 4, 3, 1, []int64{1, 3}},
		{[]impl.Places{{1, 2, 3, 0}}, 4, 0, 1, []int64{0, 1, 2, 3}},
		{[]impl.Places{{1, 2, 3, 0}, {1, 0, 2, 3}}, 4, 0, 2, []int64{0, 1, 2, 3}},
		{ten, 10, 9, 4, []int64{4, 9}},
		{ten, 10, 9, 5, []int64{1, 3, 5, 7, 9}},
		{ten, 10, 8, 8, []int64{8}},
		{ten, 10, 0, 9, []int64{0, 1, 2, 3, 4, 5, 6, 7, 8, 9}},
	}
	for _, c := range cases {
		if block, code := impl.LeastBlock(c.list, c.n, c.x, c.y); !slices.Equal(block, c.block) || code != impl.ErrNone {
			t.Errorf("LeastBlock(%v, %d, %d, %d) = %v, %d", c.list, c.n, c.x, c.y, block, code)
		}
	}
}

// All groups of at most two permutations of up to four numbers are as trial tells.
func TestGroupsOfAllPairs(t *testing.T) {
	for n := 1; n <= 4; n++ {
		checkGroup(t, nil, int64(n))
		orderings(n, func(first []byte) {
			checkGroup(t, []impl.Places{placesOf(first)}, int64(n))
			orderings(n, func(second []byte) {
				checkGroup(t, []impl.Places{placesOf(first), placesOf(second)}, int64(n))
			})
		})
	}
}

// Groups of more permutations of up to six numbers are as trial tells.
func TestGroupsOfSomeLists(t *testing.T) {
	for n := int64(1); n <= 6; n++ {
		some := somePlaces(n)
		checkGroup(t, some, n)
		for k, p := range some {
			checkGroup(t, []impl.Places{p}, n)
			checkGroup(t, slices.Delete(slices.Clone(some), k, k+1), n)
			checkGroup(t, []impl.Places{inTurn(n, p, p), inTurn(n, some[2], p, some[2])}, n)
		}
	}
	five := []impl.Places{cycleOf(5, 0, 1, 2), cycleOf(5, 1, 2, 3), cycleOf(5, 2, 3, 4)}
	checkGroup(t, five, 5)
	checkGroup(t, []impl.Places{cycleOf(6, 0, 3), cycleOf(6, 5, 2), cycleOf(6, 4, 1), cycleOf(6, 0, 2)}, 6)
	checkGroup(t, []impl.Places{inTurn(6, cycleOf(6, 0, 1, 2), cycleOf(6, 3, 4, 5)), inTurn(6, cycleOf(6, 0, 3), cycleOf(6, 1, 4), cycleOf(6, 2, 5))}, 6)
}

// knownGroup is a list of permutations of n numbers, with the order of its group and whether it is primitive.
type knownGroup struct {
	reason    string
	n         int64
	list      []impl.Places
	order     int64
	primitive bool
}

// onSets returns how p leads some sets of numbers; sets that together have all numbers of all stand for
// each other.
func onSets(sets []uint, p impl.Places, all uint) impl.Places {
	var led impl.Places
	for k, set := range sets {
		to := slices.Index(sets, maskOf(p, set))
		if to < 0 {
			to = slices.Index(sets, all&^maskOf(p, set))
		}
		led[k] = byte(to)
	}
	return led
}

// setsOf returns all sets of count of n numbers, or of those with 0 alone.
func setsOf(n int, count int, withZero bool) []uint {
	var sets []uint
	for set := range uint(1) << n {
		if bits.OnesCount(set) == count && (!withZero || set&1 == 1) {
			sets = append(sets, set)
		}
	}
	return sets
}

// setGroups returns known groups on ten sets: the pairs of five numbers, and the halves of six.
func setGroups() []knownGroup {
	pairs, halves := setsOf(5, 2, false), setsOf(6, 3, true)
	pair := func(p impl.Places) impl.Places { return onSets(pairs, p, 0) }
	half := func(p impl.Places) impl.Places { return onSets(halves, p, 63) }
	swap5, turn5, three5 := cycleOf(5, 0, 1), cycleOf(5, 0, 1, 2, 3, 4), cycleOf(5, 0, 1, 2)
	swap6, turn6, three6, five6 := cycleOf(6, 0, 1), cycleOf(6, 0, 1, 2, 3, 4, 5), cycleOf(6, 0, 1, 2), cycleOf(6, 1, 2, 3, 4, 5)
	return []knownGroup{
		{"all on the pairs of five", 10, []impl.Places{pair(swap5), pair(turn5)}, 120, true},
		{"the even ones on the pairs of five", 10, []impl.Places{pair(three5), pair(turn5)}, 60, true},
		{"a turn on the pairs of five", 10, []impl.Places{pair(turn5)}, 5, false},
		{"all on the halves of six", 10, []impl.Places{half(swap6), half(turn6)}, 720, true},
		{"the even ones on the halves of six", 10, []impl.Places{half(three6), half(five6)}, 360, true},
	}
}

// lineGroups returns known groups of affine and projective maps.
func lineGroups() []knownGroup {
	plus := func(n int64, k int64) impl.Places {
		return placesBy(n, func(x byte) byte { return byte((int64(x) + k) % n) })
	}
	times := func(n int64, k int64) impl.Places {
		return placesBy(n, func(x byte) byte { return byte(int64(x) * k % n) })
	}
	// Of the line with 7 as its point behind the last one: x + 1, 2 x, 3 x, and -1 / x.
	line1, line2, line3 := plus(7, 1), times(7, 2), times(7, 3)
	line1[7], line2[7], line3[7] = 7, 7, 7
	turned := impl.Places{7, 6, 3, 2, 5, 4, 1, 0}
	cube := []impl.Places{
		placesBy(8, func(x byte) byte { return x ^ 1 }),
		placesBy(8, func(x byte) byte { return x<<1&7 | x>>2 }),
		placesBy(8, func(x byte) byte { return x ^ x&1<<1 }),
	}
	plane := []impl.Places{
		placesBy(9, func(x byte) byte { return x/3*3 + (x+1)%3 }),
		placesBy(9, func(x byte) byte { return x%3*3 + (3-x/3)%3 }),
		placesBy(9, func(x byte) byte { return x/3*3 + (x/3+x)%3 }),
	}
	return []knownGroup{
		{"affine maps of 5", 5, []impl.Places{plus(5, 1), times(5, 2)}, 20, true},
		{"a half of the affine maps of 5", 5, []impl.Places{plus(5, 1), times(5, 4)}, 10, true},
		{"affine maps of 7", 7, []impl.Places{plus(7, 1), times(7, 3)}, 42, true},
		{"affine maps of 9", 9, []impl.Places{plus(9, 1), times(9, 2)}, 54, false},
		{"affine maps of 10", 10, []impl.Places{plus(10, 1), times(10, 3)}, 40, false},
		{"steps of 2 and of 5 by 10", 10, []impl.Places{plus(10, 2), plus(10, 5)}, 10, false},
		{"steps of 2 by 10", 10, []impl.Places{plus(10, 2)}, 5, false},
		{"a half of the maps of the line", 8, []impl.Places{line1, line2, turned}, 168, true},
		{"maps of the line", 8, []impl.Places{line1, line3, turned}, 336, true},
		{"affine maps of the cube", 8, cube, 1344, true},
		{"linear maps of the cube", 8, cube[1:], 168, false},
		{"maps of the plane of nine", 9, plane, 216, true},
		{"linear maps of the plane of nine", 9, plane[1:], 24, false},
		{"more maps of the plane of nine", 9, append(slices.Clone(plane), placesBy(9, func(x byte) byte { return x%3*3 + x/3 })), 432, true},
	}
}

// knownGroups returns groups of known orders, those of ten numbers and MaxGenerators permutations among them.
func knownGroups() []knownGroup {
	turn, swap := cycleOf(10, 0, 1, 2, 3, 4, 5, 6, 7, 8, 9), cycleOf(10, 0, 1)
	var threes, exchanges, neighbours []impl.Places
	for x := byte(0); x < 10; x++ {
		for y := range x {
			exchanges = append(exchanges, cycleOf(10, x, y))
		}
		if x > 0 {
			neighbours = append(neighbours, cycleOf(10, x-1, x))
		}
		if x > 1 {
			threes = append(threes, cycleOf(10, 0, 1, x))
		}
	}
	five, late := cycleOf(10, 0, 1, 2, 3, 4), cycleOf(10, 5, 6, 7, 8, 9)
	over := placesBy(10, func(x byte) byte { return (x + 5) % 10 })
	same := slices.Repeat([]impl.Places{unchanged(10)}, impl.MaxGenerators)
	last := slices.Clone(same)
	last[39] = over
	first := slices.Clone(same)
	first[0] = turn
	list := []knownGroup{
		{"nothing, of 1", 1, nil, 1, true},
		{"nothing, of 2", 2, nil, 1, false},
		{"an exchange of 2", 2, []impl.Places{{1, 0}}, 2, true},
		{"nothing, of 10", 10, nil, 1, false},
		{"nothing 40 times", 10, same, 1, false},
		{"40 permutations, all but the last one alike", 10, last, 2, false},
		{"40 permutations, all but the first one alike", 10, first, 10, false},
		{"the last 40 exchanges", 10, exchanges[5:], 3628800, true},
		{"the first 36 exchanges", 10, exchanges[:36], 362880, false},
		{"all", 10, []impl.Places{turn, swap}, 3628800, true},
		{"all, by neighbours", 10, neighbours, 3628800, true},
		{"all that keep the first number", 10, neighbours[1:], 362880, false},
		{"all that keep the last number", 10, neighbours[:8], 362880, false},
		{"all even ones", 10, threes, 1814400, true},
		{"all even ones that keep a number", 10, threes[:7], 181440, false},
		{"a turn", 10, []impl.Places{turn}, 10, false},
		{"a turn and a flip", 10, []impl.Places{turn, placesBy(10, func(x byte) byte { return 9 - x })}, 20, false},
		{"a turn of seven", 7, []impl.Places{cycleOf(7, 0, 1, 2, 3, 4, 5, 6)}, 7, true},
		{"two fives apart", 10, []impl.Places{five, swap, late, cycleOf(10, 5, 6)}, 14400, false},
		{"two fives", 10, []impl.Places{five, swap, over}, 28800, false},
		{"five twos", 10, []impl.Places{cycleOf(10, 0, 5), inTurn(10, five, late), inTurn(10, swap, cycleOf(10, 5, 6))}, 3840, false},
	}
	return slices.Concat(list, setGroups(), lineGroups())
}

func TestKnownGroups(t *testing.T) {
	for _, g := range knownGroups() {
		if order, code := impl.GroupOrder(g.list, g.n); order != g.order || code != impl.ErrNone {
			t.Errorf("%s: GroupOrder = %d, %d", g.reason, order, code)
		}
		if yes, code := impl.IsPrimitive(g.list, g.n); yes != g.primitive || code != impl.ErrNone {
			t.Errorf("%s: IsPrimitive = %v, %d", g.reason, yes, code)
		}
		orbits, code := impl.OrbitsOf(g.list, g.n)
		if code != impl.ErrNone {
			t.Errorf("%s: OrbitsOf: code %d", g.reason, code)
		}
		checkBlocks(t, g.list, g.n, len(orbits))
		if g.order <= 5040 {
			checkOrbits(t, g.list, g.n, membersByTrial(g.list, g.n))
		}
	}
}

// Promise 4: the order of a group is kept by its permutations, and by no other ones.
func TestOrdersAreKeptByPermutations(t *testing.T) {
	for _, g := range knownGroups() {
		some := append(slices.Clone(g.list), unchanged(g.n))
		for k, p := range some {
			checkMember(t, g.list, g.n, p, true)
			checkMember(t, g.list, g.n, leadingBack(g.n, p), true)
			checkMember(t, g.list, g.n, inTurn(g.n, p, some[0], leadingBack(g.n, some[len(some)/2])), true)
			checkMember(t, some[:k], g.n, inTurn(g.n, some[:k]...), true)
		}
		if g.order > 1440 {
			continue
		}
		members := membersByTrial(g.list, g.n)
		for p := range members {
			checkMember(t, g.list, g.n, p, true)
			other := inTurn(g.n, p, somePlaces(g.n)[3])
			checkMember(t, g.list, g.n, other, members[other])
		}
	}
}

// Groups of great orders have exactly the permutations that their descriptions tell.
func TestMembersOfGreatGroups(t *testing.T) {
	has := map[string]func(p impl.Places) bool{
		"all":                            func(impl.Places) bool { return true },
		"all, by neighbours":             func(impl.Places) bool { return true },
		"the last 40 exchanges":          func(impl.Places) bool { return true },
		"the first 36 exchanges":         func(p impl.Places) bool { return p[9] == 9 },
		"all that keep the first number": func(p impl.Places) bool { return p[0] == 0 },
		"all that keep the last number":  func(p impl.Places) bool { return p[9] == 9 },
		"all even ones":                  isEven,
		"all even ones that keep a number": func(p impl.Places) bool {
			return p[9] == 9 && isEven(p)
		},
		"two fives apart": func(p impl.Places) bool { return maskOf(p, 31) == 31 },
		"two fives":       func(p impl.Places) bool { return maskOf(p, 31) == 31 || maskOf(p, 31) == 31<<5 },
		"five twos": func(p impl.Places) bool {
			for x := range 5 {
				if p[x]%5 != p[x+5]%5 {
					return false
				}
			}
			return true
		},
	}
	found := 0
	for _, g := range knownGroups() {
		test := has[g.reason]
		if test == nil {
			continue
		}
		found++
		for _, p := range scatteredPlaces() {
			checkMember(t, g.list, g.n, p, test(p))
		}
	}
	if found != len(has) {
		t.Errorf("%d of %d groups are known", found, len(has))
	}
}

// isEven tells whether a permutation of ten numbers is made by an even number of exchanges.
func isEven(p impl.Places) bool {
	sign, _ := impl.SignOfPlaces(p, 10)
	return sign == 1
}

// scatteredPlaces returns permutations of ten numbers that have little in common, and some that keep numbers
// or sets of numbers.
func scatteredPlaces() []impl.Places {
	some := somePlaces(10)
	list := []impl.Places{
		cycleOf(10, 8, 9), cycleOf(10, 0, 9), cycleOf(10, 7, 8, 9), cycleOf(10, 2, 3), cycleOf(10, 2, 3, 4), cycleOf(10, 4, 9),
		inTurn(10, cycleOf(10, 0, 3), cycleOf(10, 5, 8)), inTurn(10, cycleOf(10, 0, 3), cycleOf(10, 5, 7)),
		placesBy(10, func(x byte) byte { return (x + 5) % 10 }),
	}
	p := some[0]
	for k := range 40 {
		p = inTurn(10, p, some[1+k%3], some[1+k/3%3])
		list = append(list, p)
	}
	for k := range 20 {
		fixed := p
		fixed[slices.Index(p[:], 9)], fixed[9] = p[9], 9
		list = append(list, fixed, leadingBack(10, fixed))
		p = inTurn(10, p, some[1+k%3], fixed)
	}
	return list
}

// groupResults are the codes of all functions of a list of permutations, in their order.
type groupResults [5]int64

// checkGroupCodes checks that the functions of a list return some codes, and zero values beside errors.
func checkGroupCodes(t *testing.T, reason string, list []impl.Places, n int64, p impl.Places, x int64, y int64, want groupResults) {
	t.Helper()
	order, a := impl.GroupOrder(list, n)
	in, b := impl.InGroup(list, n, p)
	orbits, c := impl.OrbitsOf(list, n)
	block, d := impl.LeastBlock(list, n, x, y)
	primitive, e := impl.IsPrimitive(list, n)
	if codes := (groupResults{a, b, c, d, e}); codes != want {
		t.Errorf("%s: the codes for %d permutations of %d numbers, %v, %d and %d are %v", reason, len(list), n, p, x, y, codes)
	}
	if a != impl.ErrNone && order != 0 || b != impl.ErrNone && in || c != impl.ErrNone && len(orbits) != 0 || d != impl.ErrNone && len(block) != 0 || e != impl.ErrNone && primitive {
		t.Errorf("%s: beside the errors are %d, %v, %v, %v, %v", reason, order, in, orbits, block, primitive)
	}
}

// allWith returns the results with the same code for all functions.
func allWith(code int64) groupResults {
	return groupResults{code, code, code, code, code}
}

// noNumbers are numbers that are in 0..n - 1 for no n.
func noNumbers() []int64 {
	return []int64{-1, -2, -256, 10, 11, 255, 256, 257, 1 << 32, math.MaxInt64, math.MinInt64}
}

func TestGroupsErrorsOfNumbers(t *testing.T) {
	all := unchanged(10)
	lists := [][]impl.Places{nil, {{}}, {all}, {{9: 200}}, slices.Repeat([]impl.Places{all}, 40), slices.Repeat([]impl.Places{{}}, 41), slices.Repeat([]impl.Places{all}, 1000)}
	for _, n := range badOrders() {
		for _, list := range lists {
			for _, p := range []impl.Places{{}, all, {1, 0}, {3: 77}} {
				checkGroupCodes(t, "a bad order", list, n, p, 0, 0, allWith(impl.ErrRange))
				checkGroupCodes(t, "a bad order", list, n, p, -1, n, allWith(impl.ErrRange))
			}
		}
	}
	good := groupResults{}
	for n := int64(1); n <= impl.MaxOrder; n++ {
		turn := []impl.Places{somePlaces(n)[1]}
		noBlock, noState := good, good
		noBlock[3] = impl.ErrRange
		for _, k := range append(noNumbers(), n) {
			for _, x := range []int64{0, n - 1, k} {
				checkGroupCodes(t, "a bad number", turn, n, unchanged(n), x, k, noBlock)
				checkGroupCodes(t, "a bad number", turn, n, unchanged(n), k, x, noBlock)
				// That a number is not in its range goes before that there are more orbits.
				checkGroupCodes(t, "a bad number, and more orbits", nil, n, unchanged(n), k, x, noBlock)
			}
		}
		checkGroupCodes(t, "good numbers", turn, n, unchanged(n), 0, n-1, good)
		if n > 1 {
			noState[3] = impl.ErrState
			checkGroupCodes(t, "more orbits", nil, n, unchanged(n), n-1, 0, noState)
			checkGroupCodes(t, "more orbits, and equal numbers", nil, n, unchanged(n), 0, 0, noState)
			checkGroupCodes(t, "the last number is an orbit", []impl.Places{placesBy(n, func(x byte) byte {
				if int64(x) == n-1 {
					return x
				}
				return byte((int64(x) + 1) % (n - 1))
			})}, n, unchanged(n), 0, 0, noState)
		}
	}
}

func TestGroupsErrorsOfPermutations(t *testing.T) {
	for reason, c := range badPlaces() {
		if c.Count < 1 || c.Count > impl.MaxOrder {
			checkGroupCodes(t, reason, []impl.Places{c.Places}, c.Count, c.Places, 0, 0, allWith(impl.ErrRange))
			continue
		}
		good := somePlaces(c.Count)[1]
		for _, length := range []int{1, 2, 3, 39, 40, 41, 42, 500} {
			for _, place := range []int{0, length / 2, length - 1} {
				list := slices.Repeat([]impl.Places{good}, length)
				list[place] = c.Places
				checkGroupCodes(t, reason, list, c.Count, good, 0, 0, allWith(impl.ErrInvalid))
				checkGroupCodes(t, reason, list, c.Count, c.Places, -1, c.Count, allWith(impl.ErrInvalid))
			}
			list := slices.Repeat([]impl.Places{good}, length)
			want := groupResults{}
			if length > impl.MaxGenerators {
				want = allWith(impl.ErrRange)
			}
			checkGroupCodes(t, "a list", list, c.Count, good, 0, 0, want)
			want[1] = impl.ErrInvalid
			checkGroupCodes(t, reason, list, c.Count, c.Places, 0, 0, want)
		}
		want := groupResults{1: impl.ErrInvalid, 3: impl.ErrState}
		if c.Count == 1 {
			want[3] = impl.ErrNone
		}
		checkGroupCodes(t, reason, nil, c.Count, c.Places, 0, 0, want)
	}
	for _, length := range []int{41, 42, 100, 256 + 40, 5000} {
		for _, n := range []int64{1, 2, 3, 10} {
			list := slices.Repeat([]impl.Places{unchanged(n)}, length)
			checkGroupCodes(t, "too many", list, n, unchanged(n), 0, 0, allWith(impl.ErrRange))
			checkGroupCodes(t, "too many", list, n, unchanged(n), 0, n-1, allWith(impl.ErrRange))
			checkGroupCodes(t, "too many", list, n, unchanged(n), n, 0, allWith(impl.ErrRange))
		}
	}
}

// No function changes a list, nor what stands behind its end.
func TestGroupsKeepTheirLists(t *testing.T) {
	for _, g := range knownGroups() {
		room := make([]impl.Places, 60)
		for k := range room {
			room[k] = impl.Places{byte(k), 99}
		}
		copy(room, g.list)
		kept := slices.Clone(room)
		list := room[:len(g.list)]
		impl.GroupOrder(list, g.n)
		impl.InGroup(list, g.n, somePlaces(g.n)[2])
		impl.OrbitsOf(list, g.n)
		impl.LeastBlock(list, g.n, 0, g.n-1)
		impl.IsPrimitive(list, g.n)
		if !slices.Equal(room, kept) {
			t.Errorf("%s: the list has become %v", g.reason, room)
		}
	}
}

// No two orbits share memory, not even behind their ends, and a second call is not changed by the first one.
func TestOrbitsShareNoMemory(t *testing.T) {
	list := []impl.Places{cycleOf(10, 9, 3, 0), cycleOf(10, 8, 3), cycleOf(10, 5, 1)}
	want := [][]int64{{0, 3, 8, 9}, {1, 5}, {2}, {4}, {6}, {7}}
	orbits, _ := impl.OrbitsOf(list, 10)
	for k := range orbits {
		if !sameLists(orbits[k:], want[k:]) {
			t.Fatalf("changing orbits before %d makes %v", k, orbits)
		}
		all := orbits[k][:cap(orbits[k])]
		for i := range all {
			all[i] = 77
		}
	}
	if again, _ := impl.OrbitsOf(list, 10); !sameLists(again, want) {
		t.Errorf("a second call returns %v", again)
	}
}

// loopsForGroups returns loops of all orders, groups and others.
func loopsForGroups(t *testing.T) []impl.Square {
	t.Helper()
	list := []impl.Square{steinerOf10(), squareOf(t, textOfLoop7), squareOf(t, textOfAutomorphic6)}
	for _, q := range append(manySquares(t), subtractOf(10), linearOf(10, 3, 7, 5)) {
		if impl.IsLoop(q) {
			list = append(list, q)
		}
		loop, code := impl.LoopAt(q, byte(q.Order-1), byte(q.Order/2))
		if code != impl.ErrNone {
			t.Fatalf("LoopAt(%v): code %d", q, code)
		}
		list = append(list, loop)
	}
	return list
}

// smallLoops calls each with all loops of orders up to 5, and with some of order 6.
func smallLoops(each func(q impl.Square)) {
	for n := 1; n <= 5; n++ {
		allLoops(n, each)
	}
	count := 0
	allLoops(6, func(q impl.Square) {
		if count++; count%29 == 0 {
			each(q)
		}
	})
}

// rowsAndColumns returns the row maps and the column maps of q by the definition.
func rowsAndColumns(q impl.Square) ([]impl.Places, []impl.Places) {
	var rows, columns []impl.Places
	for x := range byte(q.Order) {
		rows = append(rows, placesBy(q.Order, func(y byte) byte { return q.Table[x][y] }))
		columns = append(columns, placesBy(q.Order, func(y byte) byte { return q.Table[y][x] }))
	}
	return rows, columns
}

func TestRowMapsAndColumnMaps(t *testing.T) {
	for _, q := range append(manySquares(t), append(allSquaresOfOrderThree(), loopsForGroups(t)...)...) {
		rows, columns := rowsAndColumns(q)
		list, code := impl.RowMaps(q)
		if !slices.Equal(list, rows) || code != impl.ErrNone {
			t.Errorf("%v: RowMaps = %v, %d", q, list, code)
		}
		for x, p := range list {
			if one, _ := impl.RowMap(q, byte(x)); one != p || !impl.IsPermutation(p, q.Order) {
				t.Errorf("%v: the row map of %d is %v, but %v in the list", q, x, one, p)
			}
		}
		list, code = impl.ColumnMaps(q)
		if !slices.Equal(list, columns) || code != impl.ErrNone {
			t.Errorf("%v: ColumnMaps = %v, %d", q, list, code)
		}
		for y, p := range list {
			if one, _ := impl.ColumnMap(q, byte(y)); one != p || !impl.IsPermutation(p, q.Order) {
				t.Errorf("%v: the column map of %d is %v, but %v in the list", q, y, one, p)
			}
		}
	}
}

func TestRowMapsOfExamples(t *testing.T) {
	rows, a := impl.RowMaps(squareOf(t, textOfSubtract))
	columns, b := impl.ColumnMaps(squareOf(t, textOfSubtract))
	if !slices.Equal(rows, []impl.Places{{0, 2, 1}, {1, 0, 2}, {2, 1, 0}}) || a != impl.ErrNone {
		t.Errorf("RowMaps = %v, %d", rows, a)
	}
	if !slices.Equal(columns, []impl.Places{{0, 1, 2}, {2, 0, 1}, {1, 2, 0}}) || b != impl.ErrNone {
		t.Errorf("ColumnMaps = %v, %d", columns, b)
	}
	one, c := impl.RowMaps(cyclicOf(t, 1))
	other, d := impl.ColumnMaps(cyclicOf(t, 1))
	if len(one) != 1 || one[0] != (impl.Places{}) || c != impl.ErrNone || len(other) != 1 || other[0] != (impl.Places{}) || d != impl.ErrNone {
		t.Errorf("the maps of order 1 are %v, %d and %v, %d", one, c, other, d)
	}
}

// The multiplication group is that of row maps and column maps, and has one orbit; so have both of their groups.
func TestMultiplicationOrder(t *testing.T) {
	for _, q := range append(manySquares(t), append(allSquaresOfOrderThree(), loopsForGroups(t)...)...) {
		rows, columns := rowsAndColumns(q)
		both := append(slices.Clone(rows), columns...)
		order, code := impl.MultiplicationOrder(q)
		if order != orderIn(t, both, q.Order) || code != impl.ErrNone {
			t.Errorf("%v: MultiplicationOrder = %d, %d", q, order, code)
		}
		if q.Order <= 6 && order != int64(len(membersByTrial(both, q.Order))) {
			t.Errorf("%v: MultiplicationOrder = %d", q, order)
		}
		for _, maps := range [][]impl.Places{rows, columns, both} {
			if orbits, _ := impl.OrbitsOf(maps, q.Order); len(orbits) != 1 {
				t.Errorf("%v: the orbits of maps are %v", q, orbits)
			}
		}
		if mirrored, _ := impl.MultiplicationOrder(oppositeIn(t, q)); mirrored != order {
			t.Errorf("%v: MultiplicationOrder = %d, but of the opposite one %d", q, order, mirrored)
		}
	}
}

func TestMultiplicationOrderOfExamples(t *testing.T) {
	cases := map[string]int64{
		textOfOne: 1, "01/10": 2, textOfSubtract: 6, textOfLoop5: 120, textOfLoop6: 72, textOfTurns3: 36,
		textOfShifted: 4, textOfLoop7: 5040, textOfAutomorphic6: 36,
	}
	for text, want := range cases {
		if order, code := impl.MultiplicationOrder(squareOf(t, text)); order != want || code != impl.ErrNone {
			t.Errorf("%s: MultiplicationOrder = %d, %d", text, order, code)
		}
	}
	for n := int64(1); n <= impl.MaxOrder; n++ {
		order, a := impl.MultiplicationOrder(cyclicOf(t, n))
		inner, b := impl.InnerOrder(cyclicOf(t, n))
		if order != n || a != impl.ErrNone || inner != 1 || b != impl.ErrNone {
			t.Errorf("the orders of the cyclic square of order %d are %d, %d and %d, %d", n, order, a, inner, b)
		}
	}
	order, a := impl.MultiplicationOrder(steinerOf10())
	inner, b := impl.InnerOrder(steinerOf10())
	if order != 3628800 || a != impl.ErrNone || inner != 362880 || b != impl.ErrNone {
		t.Errorf("the orders of the loop of the plane of nine points are %d, %d and %d, %d", order, a, inner, b)
	}
}

// quotientsIn returns the left and the right quotient of q, by trial.
func quotientsIn(q impl.Square) (left func(x byte, z byte) byte, right func(z byte, y byte) byte) {
	by := func(holds func(v byte) bool) byte {
		for v := range byte(q.Order) {
			if holds(v) {
				return v
			}
		}
		return 255
	}
	left = func(x byte, z byte) byte { return by(func(v byte) bool { return q.Table[x][v] == z }) }
	right = func(z byte, y byte) byte { return by(func(v byte) bool { return q.Table[v][y] == z }) }
	return left, right
}

// checkInnerMaps checks the single inner maps of a loop by the definition, and returns all of them.
func checkInnerMaps(t *testing.T, q impl.Square) []impl.Places {
	t.Helper()
	var list []impl.Places
	left, right := quotientsIn(q)
	product := func(x byte, y byte) byte { return q.Table[x][y] }
	for x := range byte(q.Order) {
		turn := placesBy(q.Order, func(z byte) byte { return right(product(x, z), x) })
		if p, code := impl.TurnMap(q, x); p != turn || code != impl.ErrNone {
			t.Errorf("%v: TurnMap(%d) = %v, %d", q, x, p, code)
		}
		list = append(list, turn)
		for y := range byte(q.Order) {
			l := placesBy(q.Order, func(z byte) byte { return left(product(y, x), product(y, product(x, z))) })
			if p, code := impl.LeftInner(q, x, y); p != l || code != impl.ErrNone {
				t.Errorf("%v: LeftInner(%d, %d) = %v, %d", q, x, y, p, code)
			}
			r := placesBy(q.Order, func(z byte) byte { return right(product(product(z, x), y), product(x, y)) })
			if p, code := impl.RightInner(q, x, y); p != r || code != impl.ErrNone {
				t.Errorf("%v: RightInner(%d, %d) = %v, %d", q, x, y, p, code)
			}
			list = append(list, l, r)
		}
	}
	return list
}

// centreByTrial returns the elements of a loop that commute with all others, and associate in all places.
func centreByTrial(q impl.Square) []int64 {
	var centre []int64
	m := q.Table
	for a := range q.Order {
		central := true
		for x := range q.Order {
			central = central && m[a][x] == m[x][a]
			for y := range q.Order {
				central = central && m[m[a][x]][y] == m[a][m[x][y]] && m[m[x][a]][y] == m[x][m[a][y]] && m[m[x][y]][a] == m[x][m[y][a]]
			}
		}
		if central {
			centre = append(centre, a)
		}
	}
	return centre
}

// checkInner checks by trial what is told of the inner maps of a loop.
func checkInner(t *testing.T, q impl.Square) {
	t.Helper()
	singles := checkInnerMaps(t, q)
	rows, columns := rowsAndColumns(q)
	inner := map[impl.Places]bool{}
	automorphic := true
	var kept []int64
	for p := range membersByTrial(append(rows, columns...), q.Order) {
		if p[0] == 0 {
			inner[p] = true
			automorphic = automorphic && leads(q, thrice(p), q)
		}
	}
	for x := range q.Order {
		stays := true
		for p := range inner {
			stays = stays && int64(p[x]) == x
		}
		if stays {
			kept = append(kept, x)
		}
	}
	if made := membersByTrial(singles, q.Order); len(made) != len(inner) || !inner[singles[len(singles)-1]] {
		t.Errorf("%v: there are %d inner maps, and the single ones make %d", q, len(inner), len(made))
	}
	if order, code := impl.InnerOrder(q); order != int64(len(inner)) || code != impl.ErrNone {
		t.Errorf("%v: InnerOrder = %d, %d", q, order, code)
	}
	if list, code := impl.KeptByInner(q); !slices.Equal(list, kept) || code != impl.ErrNone {
		t.Errorf("%v: KeptByInner = %v, %d", q, list, code)
	}
	if yes, code := impl.IsAutomorphicLoop(q); yes != automorphic || code != impl.ErrNone {
		t.Errorf("%v: IsAutomorphicLoop = %v, %d", q, yes, code)
	}
}

func TestInnerMapsByTrial(t *testing.T) {
	smallLoops(func(q impl.Square) { checkInner(t, q) })
	for _, q := range loopsForGroups(t) {
		if order, _ := impl.MultiplicationOrder(q); order <= 5040 {
			checkInner(t, q)
		} else {
			checkInnerMaps(t, q)
		}
	}
}

// Promise 4: the multiplication group of a loop has its order times the number of inner maps.
func TestMultiplicationOrderByInnerMaps(t *testing.T) {
	check := func(q impl.Square) {
		order, a := impl.MultiplicationOrder(q)
		inner, b := impl.InnerOrder(q)
		if order != q.Order*inner || inner < 1 || a != impl.ErrNone || b != impl.ErrNone {
			t.Errorf("%v: MultiplicationOrder = %d, %d, and InnerOrder = %d, %d", q, order, a, inner, b)
		}
		kept, code := impl.KeptByInner(q)
		if !slices.Equal(kept, centreByTrial(q)) || code != impl.ErrNone {
			t.Errorf("%v: KeptByInner = %v, %d", q, kept, code)
		}
		if impl.IsGroup(q) && inner != q.Order/int64(len(kept)) {
			t.Errorf("the group %v has %d inner maps, and %v in its centre", q, inner, kept)
		}
		if yes, code := impl.IsAutomorphicLoop(q); impl.IsGroup(q) && !yes || code != impl.ErrNone {
			t.Errorf("%v: IsAutomorphicLoop = %v, %d", q, yes, code)
		}
	}
	smallLoops(check)
	for _, q := range loopsForGroups(t) {
		check(q)
	}
}

func TestInnerMapsOfExamples(t *testing.T) {
	cases := []struct {
		text      string
		inner     int64
		kept      []int64
		automorph bool
	}{
		{textOfOne, 1, []int64{0}, true},
		{"01/10", 1, []int64{0, 1}, true},
		{textOfTurns3, 6, []int64{0}, true},
		{textOfLoop5, 24, []int64{0}, false},
		{textOfLoop6, 12, []int64{0}, false},
		{textOfLoop7, 720, []int64{0}, false},
		{textOfAutomorphic6, 6, []int64{0}, true},
		{"012345/103254/234501/325410/450132/541023", 4, []int64{0, 1}, false}, // no group, but 1 is central
		{"012345/120453/203514/345201/451032/534120", 4, []int64{0, 5}, false},
	}
	for _, c := range cases {
		q := squareOf(t, c.text)
		if order, code := impl.InnerOrder(q); order != c.inner || code != impl.ErrNone {
			t.Errorf("%s: InnerOrder = %d, %d", c.text, order, code)
		}
		if kept, code := impl.KeptByInner(q); !slices.Equal(kept, c.kept) || code != impl.ErrNone {
			t.Errorf("%s: KeptByInner = %v, %d", c.text, kept, code)
		}
		if yes, code := impl.IsAutomorphicLoop(q); yes != c.automorph || code != impl.ErrNone {
			t.Errorf("%s: IsAutomorphicLoop = %v, %d", c.text, yes, code)
		}
	}
	q := squareOf(t, textOfTurns3)
	turn, a := impl.TurnMap(q, 3)
	left, b := impl.LeftInner(squareOf(t, textOfLoop5), 1, 2)
	right, c := impl.RightInner(squareOf(t, textOfLoop5), 1, 2)
	if turn != (impl.Places{0, 2, 1, 3, 5, 4}) || a != impl.ErrNone {
		t.Errorf("TurnMap = %v, %d", turn, a)
	}
	if left != (impl.Places{0, 3, 2, 1, 4}) || b != impl.ErrNone || right != (impl.Places{0, 4, 2, 3, 1}) || c != impl.ErrNone {
		t.Errorf("LeftInner = %v, %d, and RightInner = %v, %d", left, b, right, c)
	}
}

// Of the loops of order 6, 20 are automorphic but no groups; all automorphic ones of smaller orders are groups.
func TestAutomorphicLoopsOfSmallOrders(t *testing.T) {
	for n, want := range map[int]int{1: 0, 2: 0, 3: 0, 4: 0, 5: 0, 6: 20} {
		found := 0
		allLoops(n, func(q impl.Square) {
			yes, code := impl.IsAutomorphicLoop(q)
			if code != impl.ErrNone || impl.IsGroup(q) && !yes {
				t.Errorf("%v: IsAutomorphicLoop = %v, %d", q, yes, code)
			}
			found += countOf(yes && !impl.IsGroup(q))
		})
		if found != want {
			t.Errorf("%d loops of order %d are automorphic but no groups", found, n)
		}
	}
}

// What is told of a loop holds in all loops that are alike.
func TestGroupsOfIsomorphicLoops(t *testing.T) {
	for _, q := range loopsForGroups(t) {
		order, _ := impl.MultiplicationOrder(q)
		inner, _ := impl.InnerOrder(q)
		kept, _ := impl.KeptByInner(q)
		automorphic, _ := impl.IsAutomorphicLoop(q)
		for _, p := range somePlaces(q.Order) {
			p[slices.Index(p[:q.Order], 0)], p[0] = p[0], 0
			r := isotopeOf(t, q, thrice(p))
			var led []int64
			for _, x := range kept {
				led = append(led, int64(p[x]))
			}
			slices.Sort(led)
			otherOrder, a := impl.MultiplicationOrder(r)
			otherInner, b := impl.InnerOrder(r)
			otherKept, c := impl.KeptByInner(r)
			otherAutomorphic, d := impl.IsAutomorphicLoop(r)
			if order != otherOrder || inner != otherInner || !slices.Equal(led, otherKept) || automorphic != otherAutomorphic || max(a, b, c, d) != impl.ErrNone {
				t.Errorf("%v: other results for an isomorphic loop: %d, %d, %v, %v", q, otherOrder, otherInner, otherKept, otherAutomorphic)
			}
		}
	}
}

// checkLoopCodes checks that the functions of a loop and two elements return a code and zero values.
func checkLoopCodes(t *testing.T, reason string, q impl.Square, x byte, y byte, want int64) {
	t.Helper()
	if p, code := impl.TurnMap(q, max(x, y)); p != (impl.Places{}) || code != want {
		t.Errorf("%s: TurnMap(%d) = %v, %d", reason, max(x, y), p, code)
	}
	if p, code := impl.LeftInner(q, x, y); p != (impl.Places{}) || code != want {
		t.Errorf("%s: LeftInner(%d, %d) = %v, %d", reason, x, y, p, code)
	}
	if p, code := impl.RightInner(q, x, y); p != (impl.Places{}) || code != want {
		t.Errorf("%s: RightInner(%d, %d) = %v, %d", reason, x, y, p, code)
	}
}

// checkWholeCodes checks that the functions of a loop alone return a code and zero values.
func checkWholeCodes(t *testing.T, reason string, q impl.Square, want int64) {
	t.Helper()
	if order, code := impl.InnerOrder(q); order != 0 || code != want {
		t.Errorf("%s: InnerOrder = %d, %d", reason, order, code)
	}
	if kept, code := impl.KeptByInner(q); len(kept) != 0 || code != want {
		t.Errorf("%s: KeptByInner = %v, %d", reason, kept, code)
	}
	if yes, code := impl.IsAutomorphicLoop(q); yes || code != want {
		t.Errorf("%s: IsAutomorphicLoop = %v, %d", reason, yes, code)
	}
}

func TestMapsErrors(t *testing.T) {
	for reason, q := range noSquares(t) {
		if list, code := impl.RowMaps(q); len(list) != 0 || code != impl.ErrInvalid {
			t.Errorf("%s: RowMaps = %v, %d", reason, list, code)
		}
		if list, code := impl.ColumnMaps(q); len(list) != 0 || code != impl.ErrInvalid {
			t.Errorf("%s: ColumnMaps = %v, %d", reason, list, code)
		}
		if order, code := impl.MultiplicationOrder(q); order != 0 || code != impl.ErrInvalid {
			t.Errorf("%s: MultiplicationOrder = %d, %d", reason, order, code)
		}
		checkWholeCodes(t, reason, q, impl.ErrInvalid)
		for _, x := range []byte{0, 1, 9, 10, 255} {
			checkLoopCodes(t, reason, q, x, 0, impl.ErrInvalid)
			checkLoopCodes(t, reason, q, 0, x, impl.ErrInvalid)
		}
	}
	for _, q := range append(someSquares(t), loopsForGroups(t)...) {
		n := byte(q.Order)
		for _, x := range []byte{n, n + 1, 10, 127, 128, 255} {
			// That something is no element goes before that there is no loop.
			for _, y := range []byte{0, n - 1, x} {
				checkLoopCodes(t, "no element", q, x, y, impl.ErrRange)
				checkLoopCodes(t, "no element", q, y, x, impl.ErrRange)
			}
		}
		if !impl.IsLoop(q) {
			checkWholeCodes(t, "no loop", q, impl.ErrState)
			checkLoopCodes(t, "no loop", q, 0, 0, impl.ErrState)
			checkLoopCodes(t, "no loop", q, n-1, 0, impl.ErrState)
		}
	}
}
