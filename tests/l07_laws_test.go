package tests

import (
	"math"
	"slices"
	"strings"
	"sync"
	"testing"

	"loop.example/g01195/impl"
)

// The texts of loops in which laws hold that hold in few others.
const (
	textOfLeftBol  = "01234567/10325476/23107645/32016754/45670123/54761032/67452301/76543210" // no group, but it has the left law of Bol
	textOfRightBol = "01234567/10325476/23106745/32017654/45760123/54671032/67452301/76543210" // no group, but it has the right law of Bol
	textOfClosed6  = "012345/143502/251034/324150/405213/530421"                               // no group, but it is conjugacy closed on both sides
	textOfPlane    = "0123456789/1032798465/2301987654/3210879546/4798065132/5987604321/6879540213/7465132098/8654321907/9546213870"
)

// The texts of loops with exponents that are great for their orders.
const (
	textOfCycles9  = "012345678/136487502/254170836/378506421/460238157/547812063/621754380/785063214/803621745"
	textOfCycles10 = "0123456789/1402698375/2941537860/3856942107/4579810623/5760283491/6397105248/7085364912/8214079536/9638721054"
)

// lawTexts are the texts of the laws in the order of their numbers.
func lawTexts() []string {
	return []string{
		"(e/x)*(x*y)=y", "(y*x)*(x\\e)=y", "(x*y)\\e=(x\\e)*(y\\e)", "(x*y)\\e=(y\\e)*(x\\e)", "x*((y*x)\\e)=y\\e",
		"(x*y)*(x\\e)=y", "x*(y*x)=(x*y)*x", "x*(x*y)=(x*x)*y", "(y*x)*x=y*(x*x)", "x*(y*(x*z))=(x*(y*x))*z",
		"((z*x)*y)*x=z*((x*y)*x)", "(x*y)*(z*x)=(x*(y*z))*x", "x*(y*(z*x))=((x*y)*z)*x", "x*(y*(y*z))=((x*y)*y)*z", "x*(y*z)=((x*y)/x)*(x*z)",
		"(x*y)*z=(x*z)*(z\\(y*z))", "x*y=y*x", "(x*y)*z=x*(y*z)", "x*x=e", "x*(y*x)=y",
	}
}

// badLaws are numbers that no law has.
func badLaws() []int64 {
	return []int64{-1, -2, -20, 20, 21, 40, 255, 256, 256 + 5, 1 << 32, 1<<32 + 5, math.MaxInt64, math.MinInt64}
}

// condition is something that holds for three elements or not.
type condition func(x byte, y byte, z byte) bool

// lawsByHand returns the laws of a loop in the order of their numbers, written without their texts.
func lawsByHand(q impl.Square) [impl.MaxLaws]condition {
	var under, over impl.Table
	for x := range byte(q.Order) {
		for y := range byte(q.Order) {
			under[x][q.Table[x][y]], over[q.Table[x][y]][y] = y, x
		}
	}
	m := func(x byte, y byte) byte { return q.Table[x][y] }
	left := func(x byte) byte { return over[0][x] }
	right := func(x byte) byte { return under[x][0] }
	return [impl.MaxLaws]condition{
		func(x byte, y byte, _ byte) bool { return m(left(x), m(x, y)) == y },
		func(x byte, y byte, _ byte) bool { return m(m(y, x), right(x)) == y },
		func(x byte, y byte, _ byte) bool { return right(m(x, y)) == m(right(x), right(y)) },
		func(x byte, y byte, _ byte) bool { return right(m(x, y)) == m(right(y), right(x)) },
		func(x byte, y byte, _ byte) bool { return m(x, right(m(y, x))) == right(y) },
		func(x byte, y byte, _ byte) bool { return m(m(x, y), right(x)) == y },
		func(x byte, y byte, _ byte) bool { return m(x, m(y, x)) == m(m(x, y), x) },
		func(x byte, y byte, _ byte) bool { return m(x, m(x, y)) == m(m(x, x), y) },
		func(x byte, y byte, _ byte) bool { return m(m(y, x), x) == m(y, m(x, x)) },
		func(x byte, y byte, z byte) bool { return m(x, m(y, m(x, z))) == m(m(x, m(y, x)), z) },
		func(x byte, y byte, z byte) bool { return m(m(m(z, x), y), x) == m(z, m(m(x, y), x)) },
		func(x byte, y byte, z byte) bool { return m(m(x, y), m(z, x)) == m(m(x, m(y, z)), x) },
		func(x byte, y byte, z byte) bool { return m(x, m(y, m(z, x))) == m(m(m(x, y), z), x) },
		func(x byte, y byte, z byte) bool { return m(x, m(y, m(y, z))) == m(m(m(x, y), y), z) },
		func(x byte, y byte, z byte) bool { return m(x, m(y, z)) == m(over[m(x, y)][x], m(x, z)) },
		func(x byte, y byte, z byte) bool { return m(m(x, y), z) == m(m(x, z), under[z][m(y, z)]) },
		func(x byte, y byte, _ byte) bool { return m(x, y) == m(y, x) },
		func(x byte, y byte, z byte) bool { return m(m(x, y), z) == m(x, m(y, z)) },
		func(x byte, _ byte, _ byte) bool { return m(x, x) == 0 },
		func(x byte, y byte, _ byte) bool { return m(x, m(y, x)) == y },
	}
}

// firstWithout returns the first list of three elements for which a condition does not hold, or nil.
func firstWithout(q impl.Square, holds condition) []int64 {
	for x := range byte(q.Order) {
		for y := range byte(q.Order) {
			for z := range byte(q.Order) {
				if !holds(x, y, z) {
					return []int64{int64(x), int64(y), int64(z)}
				}
			}
		}
	}
	return nil
}

// heldByHand returns the numbers of the laws that hold in a loop.
func heldByHand(q impl.Square) []int64 {
	var held []int64
	for k, holds := range lawsByHand(q) {
		if firstWithout(q, holds) == nil {
			held = append(held, int64(k))
		}
	}
	return held
}

// codeOf returns ErrNone if something was found, and ErrNotFound otherwise.
func codeOf(found bool) int64 {
	if found {
		return impl.ErrNone
	}
	return impl.ErrNotFound
}

// loopsOfOrder8 calls each with loops of order 8 in which the numbers 0 and 1 are central, one for each of the
// cocycles of both groups of order 4.
func loopsOfOrder8(t *testing.T, each func(q impl.Square)) {
	t.Helper()
	for _, group := range []impl.Square{cyclicOf(t, 4), elementaryOf(t, 2)} {
		for bits := range int64(512) {
			each(extensionOf(group, 2, func(a int64, b int64) int64 { return bits >> (3*a + b - 4) & 1 }))
		}
	}
}

// lawExample is a loop with what is to be told of it, which was not found by the program.
type lawExample struct {
	text string
	// places has for each law the first place where it fails, or - if it holds.
	places      string
	universal   []int64
	power       byte // 0 if there is none
	pair        []int64
	exponent    int64
	commuting   int64
	associating int64
	left, right string // the inverses of all elements
}

// lawExamples returns loops of which some have few laws and some have many.
func lawExamples() []lawExample {
	return []lawExample{
		{
			text:      textOfOne,
			places:    "- - - - - - - - - - - - - - - - - - - -",
			universal: []int64{0, 1, 2, 3, 4, 5, 6, 7, 8, 9, 10, 11, 12, 13, 14, 15, 16, 17, 18, 19},
			power:     0, pair: nil, exponent: 1, commuting: 1, associating: 1, left: "0", right: "0",
		},
		{
			text:      "01/10",
			places:    "- - - - - - - - - - - - - - - - - - - -",
			universal: []int64{0, 1, 2, 3, 4, 5, 6, 7, 8, 9, 10, 11, 12, 13, 14, 15, 16, 17, 18, 19},
			power:     0, pair: nil, exponent: 2, commuting: 4, associating: 8, left: "01", right: "01",
		},
		{
			text:      "012/120/201",
			places:    "- - - - - - - - - - - - - - - - - - 100 100",
			universal: []int64{0, 1, 2, 3, 4, 5, 6, 7, 8, 9, 10, 11, 12, 13, 14, 15, 16, 17},
			power:     0, pair: nil, exponent: 3, commuting: 9, associating: 27, left: "021", right: "021",
		},
		{
			text:   textOfLoop5,
			places: "120 120 - 120 - - - 120 120 102 102 112 112 012 121 112 120 112 - -",
			power:  0, pair: []int64{1, 2}, exponent: 2, commuting: 13, associating: 89, left: "01234", right: "01234",
		},
		{
			text:   "01234/10342/23401/34120/42013",
			places: "120 120 - 230 120 120 210 120 120 102 102 112 112 012 121 112 230 112 200 120",
			power:  2, pair: []int64{0, 2}, exponent: 10, commuting: 19, associating: 74, left: "01423", right: "01342",
		},
		{
			text:   textOfLoop6,
			places: "- 310 130 130 130 310 310 - 310 133 133 133 133 130 - 313 340 133 100 100",
			power:  0, pair: []int64{1, 3}, exponent: 6, commuting: 30, associating: 162, left: "021345", right: "021345",
		},
		{
			text:      textOfTurns3,
			places:    "- - 130 - - 130 - - - - - - - - - - 130 - 100 100",
			universal: []int64{0, 1, 3, 4, 6, 7, 8, 9, 10, 11, 12, 13, 14, 15, 17},
			power:     0, pair: nil, exponent: 6, commuting: 18, associating: 216, left: "021345", right: "021345",
		},
		{
			text:      textOfTurns4,
			places:    "- - 140 - - 140 - - - - - - - - - - 140 - 100 100",
			universal: []int64{0, 1, 3, 4, 6, 7, 8, 9, 10, 11, 12, 13, 14, 15, 17},
			power:     0, pair: nil, exponent: 4, commuting: 40, associating: 512, left: "03214567", right: "03214567",
		},
		{
			text:      textOfQuarters,
			places:    "- - 240 - - 240 - - - - - - - - - - 240 - 200 200",
			universal: []int64{0, 1, 3, 4, 6, 7, 8, 9, 10, 11, 12, 13, 14, 15, 17},
			power:     0, pair: nil, exponent: 4, commuting: 40, associating: 512, left: "01325476", right: "01325476",
		},
		{
			text:   textOfCentre2,
			places: "220 220 220 220 - 220 - 240 240 204 204 222 224 024 242 224 - 224 200 200",
			power:  2, pair: []int64{0, 2}, exponent: 6, commuting: 36, associating: 184, left: "014523", right: "014523",
		},
		{
			text:      textOfLeftBol,
			places:    "- 240 240 260 260 260 240 - 240 - 204 204 204 240 - 224 240 242 200 200",
			universal: []int64{0, 7, 9, 14},
			power:     0, pair: []int64{2, 4}, exponent: 4, commuting: 56, associating: 416, left: "01324567", right: "01324567",
		},
		{
			text:      textOfRightBol,
			places:    "240 - 240 260 240 240 240 240 - 204 - 204 204 024 242 - 240 224 200 200",
			universal: []int64{1, 8, 10, 15},
			power:     0, pair: []int64{2, 4}, exponent: 4, commuting: 56, associating: 416, left: "01324567", right: "01324567",
		},
		{
			text:      textOfClosed6,
			places:    "220 220 120 220 - 120 220 220 220 202 202 202 202 022 - - 120 222 100 100",
			universal: []int64{4, 14, 15},
			power:     2, pair: []int64{0, 2}, exponent: 6, commuting: 18, associating: 189, left: "045213", right: "043512",
		},
		{
			text:   textOfPlane,
			places: "- - - - - - - - - 124 124 124 124 - 124 124 - 124 - -",
			power:  0, pair: nil, exponent: 2, commuting: 100, associating: 568, left: "0123456789", right: "0123456789",
		},
		{
			text:   textOfCycles10,
			places: "110 110 110 110 110 110 110 110 110 101 101 101 101 011 121 112 120 111 100 100",
			power:  1, pair: []int64{0, 1}, exponent: 840, commuting: 32, associating: 370, left: "0715864932", right: "0298635147",
		},
		{
			text:   textOfCycles9,
			places: "110 110 110 110 110 110 110 110 110 101 101 101 101 011 121 112 120 111 100 100",
			power:  1, pair: []int64{0, 1}, exponent: 1260, commuting: 27, associating: 295, left: "084732516", right: "075426831",
		},
		{
			text:   "012345/103254/245103/354021/430512/521430",
			places: "- 120 120 130 120 120 210 210 120 121 102 121 121 021 121 112 120 124 200 120",
			power:  2, pair: []int64{0, 2}, exponent: 6, commuting: 18, associating: 160, left: "014325", right: "014325",
		},
		{
			text:   "012345/103524/254031/340152/435210/521403",
			places: "120 - 120 120 120 120 210 120 210 102 121 112 112 012 123 112 120 112 200 120",
			power:  2, pair: []int64{0, 2}, exponent: 12, commuting: 22, associating: 136, left: "013254", right: "013254",
		},
		{
			text:   "012345/120534/201453/354210/435021/543102",
			places: "330 310 130 130 130 310 310 - 310 133 133 133 133 130 - 313 340 133 100 100",
			power:  3, pair: []int64{0, 3}, exponent: 6, commuting: 30, associating: 162, left: "021453", right: "021534",
		},
		{
			text:   "012345/123054/235410/354201/401523/540132",
			places: "120 110 110 110 110 110 120 120 - 102 111 102 102 012 121 - 130 112 100 100",
			power:  1, pair: []int64{0, 1}, exponent: 12, commuting: 30, associating: 162, left: "045132", right: "035412",
		},
		{
			text:      "012345/103452/245013/354201/421530/530124",
			places:    "120 210 - 120 120 120 210 120 210 102 121 112 112 012 122 112 120 112 200 120",
			universal: []int64{2},
			power:     2, pair: []int64{0, 2}, exponent: 4, commuting: 20, associating: 116, left: "015234", right: "013452",
		},
		{
			text:   "0123456789/1056789423/2897634510/3978542601/4789023156/5214360897/6341205978/7432198065/8560917234/9605871342",
			places: "120 120 120 230 120 210 210 120 120 102 102 112 112 012 121 112 120 112 200 200",
			power:  0, pair: []int64{1, 2}, exponent: 6, commuting: 52, associating: 478, left: "0198465732", right: "0198465732",
		},
	}
}

func TestMaxLaws(t *testing.T) {
	if impl.MaxLaws != 20 {
		t.Errorf("MaxLaws = %d", impl.MaxLaws)
	}
}

func TestLawTexts(t *testing.T) {
	for k, want := range lawTexts() {
		text, code := impl.LawText(int64(k))
		if text != want || code != impl.ErrNone {
			t.Errorf("LawText(%d) = %q, %d", k, text, code)
		}
		i, code := impl.ParseIdentity(text)
		if again, _ := impl.IdentityText(i); again != want || code != impl.ErrNone {
			t.Errorf("%q is the text of %q, %d", text, again, code)
		}
	}
	for _, k := range badLaws() {
		if text, code := impl.LawText(k); text != "" || code != impl.ErrRange {
			t.Errorf("LawText(%d) = %q, %d", k, text, code)
		}
	}
}

// checkLaws checks by hand which laws hold in a loop, and where the other ones fail first.
func checkLaws(t *testing.T, q impl.Square) []int64 {
	t.Helper()
	for k, holds := range lawsByHand(q) {
		first := firstWithout(q, holds)
		if at, code := impl.LawFails(q, int64(k)); !slices.Equal(at, first) || code != codeOf(first != nil) {
			t.Errorf("%v: LawFails(%d) = %v, %d", q, k, at, code)
		}
	}
	held := heldByHand(q)
	if list, code := impl.LawsOf(q); !slices.Equal(list, held) || code != impl.ErrNone {
		t.Errorf("%v: LawsOf = %v, %d", q, list, code)
	}
	return held
}

// Promise 7: laws are those of their texts, and witnesses are the first places where they fail.
func TestLawsByHand(t *testing.T) {
	var held, failing [impl.MaxLaws]int
	check := func(q impl.Square) {
		list := checkLaws(t, q)
		for k := range int64(impl.MaxLaws) {
			held[k] += countOf(slices.Contains(list, k) && !impl.IsGroup(q))
			failing[k] += countOf(!slices.Contains(list, k))
		}
	}
	eachLoop(t, check)
	loopsOfOrder8(t, check)
	allLoops(6, check)
	for k := range impl.MaxLaws {
		// The laws of Moufang, of extra loops and of groups hold in no other loops of such orders.
		if onlyGroups := slices.Contains([]int{11, 12, 17}, k); failing[k] < 20 || (held[k] == 0) != onlyGroups {
			t.Errorf("the law %d holds in %d loops that are no groups, and fails in %d loops", k, held[k], failing[k])
		}
	}
}

func TestLawsAreThoseOfTheirTexts(t *testing.T) {
	eachLoop(t, func(q impl.Square) {
		among, code := impl.LawsAmong(q, lawTexts())
		if list, other := impl.LawsOf(q); !slices.Equal(list, among) || code != impl.ErrNone || other != impl.ErrNone {
			t.Errorf("%v: LawsOf = %v, %d, and LawsAmong = %v, %d", q, list, other, among, code)
		}
		for k := range int64(impl.MaxLaws) {
			text, _ := impl.LawText(k)
			want, code := impl.FailsAt(q, identityOf(t, text))
			if at, other := impl.LawFails(q, k); !slices.Equal(at, want) || other != code {
				t.Errorf("%v: LawFails(%d) = %v, %d, and FailsAt = %v, %d", q, k, at, other, want, code)
			}
		}
	})
}

func TestLawsOfExamples(t *testing.T) {
	if squareOf(t, textOfPlane) != steinerOf10() {
		t.Fatal("the text is not that of the loop of the plane")
	}
	for _, e := range lawExamples() {
		q := squareOf(t, e.text)
		var held []int64
		for k, digits := range strings.Fields(e.places) {
			var want []int64
			if digits == "-" {
				held = append(held, int64(k))
			} else {
				want = []int64{int64(digits[0] - '0'), int64(digits[1] - '0'), int64(digits[2] - '0')}
			}
			if at, code := impl.LawFails(q, int64(k)); !slices.Equal(at, want) || code != codeOf(want != nil) {
				t.Errorf("%s: LawFails(%d) = %v, %d", e.text, k, at, code)
			}
		}
		if list, code := impl.LawsOf(q); !slices.Equal(list, held) || code != impl.ErrNone {
			t.Errorf("%s: LawsOf = %v, %d", e.text, list, code)
		}
		if list, code := impl.UniversalLaws(q); !slices.Equal(list, e.universal) || code != impl.ErrNone {
			t.Errorf("%s: UniversalLaws = %v, %d", e.text, list, code)
		}
	}
}

func TestNumbersOfExamples(t *testing.T) {
	for _, e := range lawExamples() {
		q := squareOf(t, e.text)
		if x, code := impl.PowerWitness(q); x != e.power || code != codeOf(e.power > 0) {
			t.Errorf("%s: PowerWitness = %d, %d", e.text, x, code)
		}
		if list, code := impl.PairWitness(q); !slices.Equal(list, e.pair) || code != codeOf(e.pair != nil) {
			t.Errorf("%s: PairWitness = %v, %d", e.text, list, code)
		}
		if n, code := impl.ExponentOf(q); n != e.exponent || code != impl.ErrNone {
			t.Errorf("%s: ExponentOf = %d, %d", e.text, n, code)
		}
		if n, code := impl.CommutingCount(q); n != e.commuting || code != impl.ErrNone {
			t.Errorf("%s: CommutingCount = %d, %d", e.text, n, code)
		}
		if n, code := impl.AssociatingCount(q); n != e.associating || code != impl.ErrNone {
			t.Errorf("%s: AssociatingCount = %d, %d", e.text, n, code)
		}
		for x := range byte(q.Order) {
			if y, code := impl.LeftInverse(q, x); y != e.left[x]-'0' || code != impl.ErrNone {
				t.Errorf("%s: LeftInverse(%d) = %d, %d", e.text, x, y, code)
			}
			if y, code := impl.RightInverse(q, x); y != e.right[x]-'0' || code != impl.ErrNone {
				t.Errorf("%s: RightInverse(%d) = %d, %d", e.text, x, y, code)
			}
		}
	}
}

// The laws that hold in a commutative group are all but, in most of them, those that say that x * x is 0.
func TestLawsOfCommutativeGroups(t *testing.T) {
	all := numbersTo(impl.MaxLaws)
	check := func(q impl.Square, exponent int64) {
		want := all[:impl.MaxLaws-2]
		if exponent <= 2 {
			want = all
		}
		for name, function := range lawLists() {
			if list, code := function(q); !slices.Equal(list, want) || code != impl.ErrNone {
				t.Errorf("%v: %s = %v, %d", q, name, list, code)
			}
		}
		n := q.Order
		number, a := impl.ExponentOf(q)
		pairs, b := impl.CommutingCount(q)
		triples, c := impl.AssociatingCount(q)
		if number != exponent || pairs != n*n || triples != n*n*n || max(a, b, c) != impl.ErrNone {
			t.Errorf("%v: ExponentOf = %d, CommutingCount = %d, and AssociatingCount = %d", q, number, pairs, triples)
		}
	}
	for n := int64(1); n <= impl.MaxOrder; n++ {
		check(cyclicOf(t, n), n)
	}
	for k := int64(1); k <= 3; k++ {
		check(elementaryOf(t, k), 2)
	}
	check(productOf(t, cyclicOf(t, 2), cyclicOf(t, 4)), 4)
	check(productOf(t, cyclicOf(t, 3), cyclicOf(t, 3)), 3)
}

// numbersTo returns the numbers 0 to n - 1.
func numbersTo(n int64) []int64 {
	var list []int64
	for k := range n {
		list = append(list, k)
	}
	return list
}

// lawLists are the functions that return the numbers of laws of a loop.
func lawLists() map[string]func(q impl.Square) ([]int64, int64) {
	return map[string]func(q impl.Square) ([]int64, int64){"LawsOf": impl.LawsOf, "UniversalLaws": impl.UniversalLaws}
}

// checkInverses checks both inverses of all elements of a loop, and returns how many elements have two.
func checkInverses(t *testing.T, q impl.Square) int {
	t.Helper()
	different := 0
	for x := range byte(q.Order) {
		left, a := impl.LeftInverse(q, x)
		right, b := impl.RightInverse(q, x)
		if q.Table[left][x] != 0 || q.Table[x][right] != 0 || a != impl.ErrNone || b != impl.ErrNone {
			t.Errorf("%v: LeftInverse(%d) = %d, %d, and RightInverse = %d, %d", q, x, left, a, right, b)
		}
		if back, code := impl.LeftInverse(q, right); back != x || code != impl.ErrNone {
			t.Errorf("%v: LeftInverse(%d) = %d, %d", q, right, back, code)
		}
		different += countOf(left != right)
	}
	return different
}

func TestInversesUndo(t *testing.T) {
	different := 0
	check := func(q impl.Square) { different += checkInverses(t, q) }
	eachLoop(t, check)
	allLoops(6, check)
	if different < 1000 {
		t.Errorf("%d elements with two inverses are too few", different)
	}
}

// witnessesByTrial returns the first element, and the first two, whose generated subloops are no groups, or nil.
func witnessesByTrial(q impl.Square) (power []int64, pair []int64) {
	subloops := subloopsByTrial(q)
	var groups []uint
	for _, set := range subloops {
		if impl.IsGroup(partOf(q, numbersIn(set))) {
			groups = append(groups, set)
		}
	}
	for x := range q.Order {
		if power == nil && !slices.Contains(groups, generatedByTrial(subloops, 1<<x)) {
			power = []int64{x}
		}
		for y := range q.Order {
			if pair == nil && !slices.Contains(groups, generatedByTrial(subloops, 1<<x|1<<y)) {
				pair = []int64{x, y}
			}
		}
	}
	return power, pair
}

// checkWitnesses checks by trial which elements of a loop generate no groups, and returns what kind of loop it is.
func checkWitnesses(t *testing.T, q impl.Square) string {
	t.Helper()
	power, pair := witnessesByTrial(q)
	x, code := impl.PowerWitness(q)
	if want := append(power, 0)[0]; int64(x) != want || code != codeOf(power != nil) {
		t.Errorf("%v: PowerWitness = %d, %d, and not %v", q, x, code, power)
	}
	if list, code := impl.PairWitness(q); !slices.Equal(list, pair) || code != codeOf(pair != nil) {
		t.Errorf("%v: PairWitness = %v, %d, and not %v", q, list, code, pair)
	}
	switch {
	case power != nil && !slices.Equal(pair, []int64{0, power[0]}):
		t.Errorf("%v: the witnesses are %v and %v", q, power, pair)
	case power != nil && power[0] > 1:
		return "a later element"
	case power != nil:
		return "the first element"
	case pair != nil && pair[0] > 1:
		return "later elements"
	case pair != nil:
		return "two elements"
	case !impl.IsGroup(q):
		return "diassociative"
	}
	return "a group"
}

func TestWitnessesByTrial(t *testing.T) {
	met := map[string]int{}
	check := func(q impl.Square) { met[checkWitnesses(t, q)]++ }
	eachLoop(t, check)
	loopsOfOrder8(t, check)
	for _, kind := range []string{"the first element", "a later element", "two elements", "later elements", "diassociative", "a group"} {
		if met[kind] == 0 {
			t.Errorf("no loop has as witnesses: %s", kind)
		}
	}
}

// checkNumbers checks the exponent and the counts of a loop by trial.
func checkNumbers(t *testing.T, q impl.Square) {
	t.Helper()
	exponent := int64(1)
	for len(elementsThat(q, func(x byte) bool {
		power := byte(0)
		for range exponent {
			power = q.Table[x][power]
		}
		return power != 0
	})) > 0 {
		exponent++
	}
	if n, code := impl.ExponentOf(q); n != exponent || code != impl.ErrNone {
		t.Errorf("%v: ExponentOf = %d, %d", q, n, code)
	}
	pairs, triples := int64(0), int64(0)
	for _, at := range placesIn(q) {
		x, y, z := at[0], at[1], at[2]
		pairs += int64(countOf(z == 0 && q.Table[x][y] == q.Table[y][x]))
		triples += int64(countOf(q.Table[q.Table[x][y]][z] == q.Table[x][q.Table[y][z]]))
	}
	if n, code := impl.CommutingCount(q); n != pairs || code != impl.ErrNone {
		t.Errorf("%v: CommutingCount = %d, %d", q, n, code)
	}
	if n, code := impl.AssociatingCount(q); n != triples || code != impl.ErrNone {
		t.Errorf("%v: AssociatingCount = %d, %d", q, n, code)
	}
}

func TestNumbersByTrial(t *testing.T) {
	eachLoop(t, func(q impl.Square) { checkNumbers(t, q) })
	allLoops(6, func(q impl.Square) { checkNumbers(t, q) })
}

// That the powers with so many factors are 0 is what PowerOf tells, too.
func TestExponentsAndPowers(t *testing.T) {
	for _, q := range append(loopsForNuclei(t), squareOf(t, textOfCycles9), squareOf(t, textOfCycles10)) {
		exponent, code := impl.ExponentOf(q)
		if code != impl.ErrNone || exponent < 1 {
			t.Fatalf("%v: ExponentOf = %d, %d", q, exponent, code)
		}
		for k := int64(1); k <= exponent; k++ {
			zeros := elementsThat(q, func(x byte) bool {
				power, code := impl.PowerOf(q, x, k)
				return power == 0 && code == impl.ErrNone
			})
			if all := int64(len(zeros)) == q.Order; all != (k == exponent) {
				t.Errorf("%v: the powers of %v with %d factors are 0, but ExponentOf = %d", q, zeros, k, exponent)
			}
		}
	}
}

// isotopeByHand returns the isotope of a loop for a and b by the definition.
func isotopeByHand(q impl.Square, a byte, b byte) impl.Square {
	left, right := quotientsIn(q)
	neutral := q.Table[a][b]
	exchange := func(x byte) byte {
		switch x {
		case 0:
			return neutral
		case neutral:
			return 0
		}
		return x
	}
	isotope := impl.Square{Order: q.Order}
	for x := range byte(q.Order) {
		for y := range byte(q.Order) {
			isotope.Table[exchange(x)][exchange(y)] = exchange(q.Table[right(x, b)][left(a, y)])
		}
	}
	return isotope
}

// checkIsotopes checks all isotopes of a loop: they are its loops at elements.
func checkIsotopes(t *testing.T, q impl.Square) {
	t.Helper()
	for a := range byte(q.Order) {
		for b := range byte(q.Order) {
			isotope, code := impl.IsotopeFor(q, a, b)
			if isotope != isotopeByHand(q, a, b) || code != impl.ErrNone {
				t.Errorf("%v: IsotopeFor(%d, %d) = %v, %d", q, a, b, isotope, code)
			}
			if loop, other := impl.LoopAt(q, a, b); isotope != loop || other != impl.ErrNone {
				t.Errorf("%v: IsotopeFor(%d, %d) = %v, and LoopAt = %v, %d", q, a, b, isotope, loop, other)
			}
			if !impl.IsLoop(isotope) || impl.IsGroup(isotope) != impl.IsGroup(q) || a == 0 && b == 0 && isotope != q {
				t.Errorf("%v: IsotopeFor(%d, %d) = %v", q, a, b, isotope)
			}
		}
	}
}

func TestIsotopesByHand(t *testing.T) {
	eachLoop(t, func(q impl.Square) { checkIsotopes(t, q) })
	for _, e := range lawExamples() {
		checkIsotopes(t, squareOf(t, e.text))
	}
}

func TestIsotopesOfExamples(t *testing.T) {
	cases := []struct {
		text    string
		a, b    byte
		isotope string
	}{
		{textOfOne, 0, 0, "0"},
		{"01/10", 1, 0, "01/10"},
		{"01/10", 1, 1, "01/10"},
		{"012/120/201", 1, 0, "012/120/201"},
		{textOfLoop5, 0, 0, textOfLoop5},
		{textOfTurns3, 0, 0, textOfTurns3},
		{textOfLoop5, 1, 1, "01234/10423/23140/34012/42301"},
		// In these 0 is exchanged with 1, 4 and 5.
		{textOfLoop5, 0, 1, "01234/10342/23410/34021/42103"},
		{textOfLoop5, 1, 3, "01234/12340/20413/34021/43102"},
		{textOfTurns3, 1, 4, "012345/104523/230154/325401/451032/543210"},
	}
	for _, c := range cases {
		if q, code := impl.IsotopeFor(squareOf(t, c.text), c.a, c.b); q != squareOf(t, c.isotope) || code != impl.ErrNone {
			text, _ := impl.SquareText(q)
			t.Errorf("%s: IsotopeFor(%d, %d) = %s, %d", c.text, c.a, c.b, text, code)
		}
	}
}

// isotopesByHand returns all isotopes of a loop, each one once.
func isotopesByHand(q impl.Square) []impl.Square {
	var isotopes []impl.Square
	for a := range byte(q.Order) {
		for b := range byte(q.Order) {
			if isotope := isotopeByHand(q, a, b); !slices.Contains(isotopes, isotope) {
				isotopes = append(isotopes, isotope)
			}
		}
	}
	return isotopes
}

// universalByHand returns the numbers of the laws that hold in all isotopes of a loop.
func universalByHand(q impl.Square) []int64 {
	universal := numbersTo(impl.MaxLaws)
	for _, isotope := range isotopesByHand(q) {
		laws := lawsByHand(isotope)
		universal = slices.DeleteFunc(universal, func(k int64) bool { return firstWithout(isotope, laws[k]) != nil })
	}
	return universal
}

// checkUniversal checks by hand which laws are universal in a loop.
func checkUniversal(t *testing.T, q impl.Square) []int64 {
	t.Helper()
	universal := universalByHand(q)
	if list, code := impl.UniversalLaws(q); !slices.Equal(list, universal) || code != impl.ErrNone {
		t.Errorf("%v: UniversalLaws = %v, %d", q, list, code)
	}
	for k := range int64(impl.MaxLaws) {
		if yes, code := impl.IsUniversal(q, k); yes != slices.Contains(universal, k) || code != impl.ErrNone {
			t.Errorf("%v: IsUniversal(%d) = %v, %d", q, k, yes, code)
		}
	}
	return universal
}

// eachForUniversal calls each with loops in which some laws are universal, and others hold but are not.
func eachForUniversal(t *testing.T, each func(q impl.Square)) {
	t.Helper()
	eachLoop(t, each)
	for _, e := range lawExamples() {
		each(squareOf(t, e.text))
	}
	count := 0
	loopsOfOrder8(t, func(q impl.Square) {
		if count++; count%23 == 0 || slices.ContainsFunc(heldByHand(q), func(k int64) bool { return k == 9 || k == 10 }) {
			each(q)
		}
	})
}

func TestUniversalByHand(t *testing.T) {
	var universal, alone [impl.MaxLaws]int
	eachForUniversal(t, func(q impl.Square) {
		list := checkUniversal(t, q)
		for _, k := range heldByHand(q) {
			isUniversal := slices.Contains(list, k)
			universal[k] += countOf(isUniversal)
			alone[k] += countOf(!isUniversal)
		}
	})
	for k := range impl.MaxLaws {
		// The laws of Bol, of Moufang, of extra loops and of groups are universal where they hold.
		if always := slices.Contains([]int{9, 10, 11, 12, 17}, k); universal[k] < 5 || (alone[k] == 0) != always {
			t.Errorf("the law %d is universal in %d loops, and holds in %d others", k, universal[k], alone[k])
		}
	}
}

// A law may fail in few isotopes alone: all of them have to be checked.
func TestLawsThatFailInFewIsotopes(t *testing.T) {
	met := map[string]int{}
	eachForUniversal(t, func(q impl.Square) {
		for _, k := range heldByHand(q) {
			if yes, _ := impl.IsUniversal(q, k); yes {
				continue
			}
			failing := map[string]bool{}
			for a := range byte(q.Order) {
				for b := range byte(q.Order) {
					isotope := isotopeByHand(q, a, b)
					fails := firstWithout(isotope, lawsByHand(isotope)[k]) != nil
					failing["a is 0"] = failing["a is 0"] || fails && a == 0
					failing["b is 0"] = failing["b is 0"] || fails && b == 0
					failing["a is b"] = failing["a is b"] || fails && a == b
					failing["a * b is 0"] = failing["a * b is 0"] || fails && q.Table[a][b] == 0
				}
			}
			for kind, fails := range failing {
				met[kind] += countOf(!fails)
			}
			met["a or b is 0"] += countOf(!failing["a is 0"] && !failing["b is 0"])
		}
	})
	for _, kind := range []string{"a is 0", "b is 0", "a or b is 0", "a is b", "a * b is 0"} {
		if met[kind] == 0 {
			t.Errorf("no law holds in all isotopes in which %s, and not in others", kind)
		}
	}
}

// has returns whether all laws with some numbers are in a list.
func has(list []int64, numbers ...int64) bool {
	return !slices.ContainsFunc(numbers, func(k int64) bool { return !slices.Contains(list, k) })
}

// lawsIn returns what one of the functions of lawLists returns.
func lawsIn(t *testing.T, name string, q impl.Square) []int64 {
	t.Helper()
	list, code := lawLists()[name](q)
	if code != impl.ErrNone {
		t.Fatalf("%s(%v): code %d", name, q, code)
	}
	return list
}

// checkLawsOfLaws checks which laws follow from others in a loop, and what follows from them for two elements.
func checkLawsOfLaws(t *testing.T, q impl.Square) {
	t.Helper()
	held := lawsIn(t, "LawsOf", q)
	_, power := impl.PowerWitness(q)
	_, pair := impl.PairWitness(q)
	follow := map[string]bool{
		"Moufang loops are diassociative":                  !has(held, 11) || pair == impl.ErrNotFound,
		"Moufang loops have both Bol laws":                 has(held, 11) == has(held, 9, 10),
		"Moufang loops have both inverse laws":             !has(held, 11) || has(held, 0, 1, 3, 4),
		"Moufang loops are flexible and alternative":       !has(held, 11) || has(held, 6, 7, 8),
		"Moufang loops are power-associative":              !has(held, 11) || power == impl.ErrNotFound,
		"extra loops are Moufang":                          !has(held, 12) || has(held, 11),
		"left Bol loops have the left inverse property":    !has(held, 9) || has(held, 0, 7),
		"right Bol loops have the right inverse property":  !has(held, 10) || has(held, 1, 8),
		"C loops have both inverse laws":                   !has(held, 13) || has(held, 0, 1, 7, 8),
		"groups have all laws that follow":                 !has(held, 17) || has(held, 0, 1, 3, 4, 6, 7, 8, 9, 10, 11, 12, 13, 14, 15),
		"groups are told by their law":                     has(held, 17) == impl.IsGroup(q),
		"diassociative loops are power-associative":        pair != impl.ErrNotFound || power == impl.ErrNotFound,
		"diassociative loops are flexible and alternative": pair != impl.ErrNotFound || has(held, 0, 1, 3, 6, 7, 8),
	}
	for reason, holds := range follow {
		if !holds {
			t.Errorf("%v: not so: %s", q, reason)
		}
	}
}

// Promise 18: Moufang loops are diassociative and have both Bol laws.
func TestMoufangLoops(t *testing.T) {
	check := func(q impl.Square) { checkLawsOfLaws(t, q) }
	eachLoop(t, check)
	allLoops(6, check)
	loopsOfOrder8(t, check)
}

// checkUniversalLaws checks that the laws of Bol, of Moufang and of groups are universal where they hold, and
// that no law is universal that does not hold. It returns whether it is a Bol loop and no group.
func checkUniversalLaws(t *testing.T, q impl.Square) bool {
	t.Helper()
	held := lawsIn(t, "LawsOf", q)
	universal := lawsIn(t, "UniversalLaws", q)
	for k := range int64(impl.MaxLaws) {
		yes, code := impl.IsUniversal(q, k)
		if yes && !has(held, k) || yes != has(universal, k) || code != impl.ErrNone {
			t.Errorf("%v: IsUniversal(%d) = %v, %d", q, k, yes, code)
		}
		if always := slices.Contains([]int64{9, 10, 11, 17}, k); always && has(held, k) && !yes {
			t.Errorf("%v: the law %d holds, but is not universal", q, k)
		}
	}
	// A loop is a Bol loop if the inverse law of the same side is universal.
	if has(held, 9) != has(universal, 0) || has(held, 10) != has(universal, 1) {
		t.Errorf("%v: the laws %v hold, and %v are universal", q, held, universal)
	}
	return has(held, 9) != has(held, 10)
}

// Promise 18: the laws of Bol, of Moufang and of groups are universal.
func TestUniversalLawsWhereTheyHold(t *testing.T) {
	bol := 0
	eachForUniversal(t, func(q impl.Square) { bol += countOf(checkUniversalLaws(t, q)) })
	if bol < 50 {
		t.Errorf("%d Bol loops that are no groups are too few", bol)
	}
}

// The isotopes of the isotopes of a loop are, up to isomorphism, its isotopes: so they have the same universal laws.
func TestUniversalLawsOfIsotopes(t *testing.T) {
	for _, q := range loopsForNuclei(t) {
		want := lawsIn(t, "UniversalLaws", q)
		n := byte(q.Order)
		for _, pair := range [][2]byte{{n - 1, n - 1}, {n / 2, 0}, {0, n - 1}, {n - 1, n / 2}} {
			isotope, code := impl.IsotopeFor(q, pair[0], pair[1])
			if list := lawsIn(t, "UniversalLaws", isotope); !slices.Equal(list, want) || code != impl.ErrNone {
				t.Errorf("%v: UniversalLaws = %v, but %v for the isotope for %v", q, want, list, pair)
			}
		}
	}
}

// mirrored returns the numbers of the laws that hold in the opposite of a loop in which some laws hold.
func mirrored(list []int64) []int64 {
	var numbers []int64
	turned := map[int64]int64{0: 1, 1: 0, 7: 8, 8: 7, 9: 10, 10: 9, 14: 15, 15: 14}
	for _, k := range list {
		if other, turns := turned[k]; turns {
			k = other
		}
		numbers = append(numbers, k)
	}
	slices.Sort(numbers)
	return numbers
}

func TestLawsOfOpposites(t *testing.T) {
	eachForUniversal(t, func(q impl.Square) {
		opposite := oppositeIn(t, q)
		for name := range lawLists() {
			if want, list := mirrored(lawsIn(t, name, q)), lawsIn(t, name, opposite); !slices.Equal(list, want) {
				t.Errorf("%v: %s of the opposite loop = %v, and not %v", q, name, list, want)
			}
		}
		for x := range byte(q.Order) {
			left, a := impl.LeftInverse(q, x)
			right, b := impl.RightInverse(opposite, x)
			if left != right || a != impl.ErrNone || b != impl.ErrNone {
				t.Errorf("%v: LeftInverse(%d) = %d, %d, and RightInverse of the opposite loop = %d, %d", q, x, left, a, right, b)
			}
		}
		pairs, a := impl.CommutingCount(q)
		triples, b := impl.AssociatingCount(q)
		otherPairs, c := impl.CommutingCount(opposite)
		otherTriples, d := impl.AssociatingCount(opposite)
		if pairs != otherPairs || triples != otherTriples || max(a, b, c, d) != impl.ErrNone {
			t.Errorf("%v: the counts are %d and %d, but %d and %d for the opposite loop", q, pairs, triples, otherPairs, otherTriples)
		}
	})
}

// wholeNumbers are the functions that return a number of a loop.
func wholeNumbers() map[string]func(q impl.Square) (int64, int64) {
	return map[string]func(q impl.Square) (int64, int64){
		"ExponentOf":       impl.ExponentOf,
		"CommutingCount":   impl.CommutingCount,
		"AssociatingCount": impl.AssociatingCount,
	}
}

// checkLawsAlike checks that what is told of q is told of r, to which an isomorphism p leads it.
func checkLawsAlike(t *testing.T, q impl.Square, r impl.Square, p impl.Places) {
	t.Helper()
	for name := range lawLists() {
		if list, other := lawsIn(t, name, q), lawsIn(t, name, r); !slices.Equal(list, other) {
			t.Errorf("%v: %s = %v, but led on %v", q, name, list, other)
		}
	}
	for name, function := range wholeNumbers() {
		n, a := function(q)
		other, b := function(r)
		if n != other || a != impl.ErrNone || b != impl.ErrNone {
			t.Errorf("%v: %s = %d, %d, but led on %d, %d", q, name, n, a, other, b)
		}
	}
	_, a := impl.PowerWitness(q)
	_, b := impl.PowerWitness(r)
	_, c := impl.PairWitness(q)
	_, d := impl.PairWitness(r)
	if a != b || c != d {
		t.Errorf("%v: the witnesses have the codes %d and %d, but led on %d and %d", q, a, c, b, d)
	}
	for x := range byte(q.Order) {
		left, _ := impl.LeftInverse(q, x)
		right, _ := impl.RightInverse(q, x)
		otherLeft, a := impl.LeftInverse(r, p[x])
		otherRight, b := impl.RightInverse(r, p[x])
		if p[left] != otherLeft || p[right] != otherRight || a != impl.ErrNone || b != impl.ErrNone {
			t.Errorf("%v: the inverses of %d are %d and %d, but led on %d and %d", q, x, left, right, otherLeft, otherRight)
		}
	}
}

// What is told of a loop holds in all loops that are alike.
func TestLawsOfIsomorphicLoops(t *testing.T) {
	for _, q := range loopsForNuclei(t) {
		for _, p := range somePlaces(q.Order) {
			p[slices.Index(p[:q.Order], 0)], p[0] = p[0], 0
			checkLawsAlike(t, q, isotopeOf(t, q, thrice(p)), p)
		}
	}
}

// checkNoLaws checks that the functions of a loop alone refuse q.
func checkNoLaws(t *testing.T, reason string, q impl.Square) {
	t.Helper()
	for name, function := range lawLists() {
		if list, code := function(q); len(list) != 0 || code != impl.ErrInvalid {
			t.Errorf("%s: %s(%v) = %v, %d", reason, name, q, list, code)
		}
	}
	for name, function := range wholeNumbers() {
		if n, code := function(q); n != 0 || code != impl.ErrInvalid {
			t.Errorf("%s: %s(%v) = %d, %d", reason, name, q, n, code)
		}
	}
	if x, code := impl.PowerWitness(q); x != 0 || code != impl.ErrInvalid {
		t.Errorf("%s: PowerWitness(%v) = %d, %d", reason, q, x, code)
	}
	if list, code := impl.PairWitness(q); len(list) != 0 || code != impl.ErrInvalid {
		t.Errorf("%s: PairWitness(%v) = %v, %d", reason, q, list, code)
	}
}

// checkLawCodes checks that the functions of the number of a law return a code and zero values.
func checkLawCodes(t *testing.T, reason string, q impl.Square, k int64, want int64) {
	t.Helper()
	if at, code := impl.LawFails(q, k); len(at) != 0 || code != want {
		t.Errorf("%s: LawFails(%v, %d) = %v, %d", reason, q, k, at, code)
	}
	if yes, code := impl.IsUniversal(q, k); yes || code != want {
		t.Errorf("%s: IsUniversal(%v, %d) = %v, %d", reason, q, k, yes, code)
	}
}

// checkInverseCodes checks that the functions of elements, x one of them and y another one, return a code and
// zero values.
func checkInverseCodes(t *testing.T, reason string, q impl.Square, x byte, y byte, want int64) {
	t.Helper()
	if z, code := impl.LeftInverse(q, x); z != 0 || code != want {
		t.Errorf("%s: LeftInverse(%v, %d) = %d, %d", reason, q, x, z, code)
	}
	if z, code := impl.RightInverse(q, x); z != 0 || code != want {
		t.Errorf("%s: RightInverse(%v, %d) = %d, %d", reason, q, x, z, code)
	}
	for _, pair := range [][2]byte{{x, y}, {y, x}} {
		if isotope, code := impl.IsotopeFor(q, pair[0], pair[1]); isotope != (impl.Square{}) || code != want {
			t.Errorf("%s: IsotopeFor(%v, %v) = %v, %d", reason, q, pair, isotope, code)
		}
	}
}

// That something is no loop goes before that something is not in its range.
func TestLawsErrorsOfLoops(t *testing.T) {
	eachNoLoop(t, func(reason string, q impl.Square) {
		checkNoLaws(t, reason, q)
		for _, k := range append(badLaws(), 0, 5, 16, 17, 18, 19) {
			checkLawCodes(t, reason, q, k, impl.ErrInvalid)
		}
		for _, x := range []byte{0, 1, 2, 9, 10, 255} {
			checkInverseCodes(t, reason, q, x, 0, impl.ErrInvalid)
		}
	})
}

func TestLawsErrorsOfNumbers(t *testing.T) {
	for _, q := range loopsForNuclei(t) {
		n := byte(q.Order)
		for _, x := range []byte{n, n + 1, 10, 127, 128, 255} {
			for _, y := range []byte{0, n - 1, x} {
				checkInverseCodes(t, "no element", q, x, y, impl.ErrRange)
			}
		}
		for _, k := range badLaws() {
			checkLawCodes(t, "no law", q, k, impl.ErrRange)
		}
	}
}

func TestLawsShareNoMemory(t *testing.T) {
	alone := func(list []int64, _ int64) [][]int64 { return [][]int64{list} }
	q, turns := squareOf(t, textOfLoop5), squareOf(t, textOfTurns4)
	calls := map[string]func() [][]int64{
		"LawFails":      func() [][]int64 { return alone(impl.LawFails(q, 17)) },
		"PairWitness":   func() [][]int64 { return alone(impl.PairWitness(q)) },
		"LawsOf":        func() [][]int64 { return alone(impl.LawsOf(turns)) },
		"UniversalLaws": func() [][]int64 { return alone(impl.UniversalLaws(turns)) },
	}
	for name, call := range calls {
		checkApart(t, name, call)
	}
}

// Isotopes are checked at the same time, and so may calls be: the results are the same each time.
func TestLawsOfManyCalls(t *testing.T) {
	for _, text := range []string{textOfLeftBol, textOfClosed6, textOfCentre2, textOfPlane} {
		q := squareOf(t, text)
		want := universalByHand(q)
		var calls sync.WaitGroup
		for range 20 {
			calls.Go(func() {
				if list, code := impl.UniversalLaws(q); !slices.Equal(list, want) || code != impl.ErrNone {
					t.Errorf("%s: UniversalLaws = %v, %d", text, list, code)
				}
			})
		}
		calls.Wait()
	}
}
