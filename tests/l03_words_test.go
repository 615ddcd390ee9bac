package tests

import (
	"math"
	"slices"
	"strings"
	"testing"

	"loop.example/g01195/impl"
)

const textOfNearly = "0231/3102/1023/2310" // no loop: x * x is x for all elements but the last one

// longestTerm is the length of the longest terms: the length of a term is odd, as each operation needs
// one value more than there are operations, and so there is none of MaxTerm bytes.
const longestTerm = impl.MaxTerm - 1

// identityOf returns the identity with a text.
func identityOf(t *testing.T, text string) impl.Identity {
	t.Helper()
	i, code := impl.ParseIdentity(text)
	if code != impl.ErrNone {
		t.Fatalf("ParseIdentity(%q): code %d", text, code)
	}
	return i
}

// identityBy returns the identity with two terms.
func identityBy(left string, right string) impl.Identity {
	return impl.Identity{Left: []byte(left), Right: []byte(right)}
}

// sameIdentity tells whether both have the same terms.
func sameIdentity(i impl.Identity, j impl.Identity) bool {
	return string(i.Left) == string(j.Left) && string(i.Right) == string(j.Right)
}

// isNoIdentity tells whether an identity is the zero value.
func isNoIdentity(i impl.Identity) bool { return len(i.Left) == 0 && len(i.Right) == 0 }

// termsWith returns all terms with a number of operations.
func termsWith(operations int) []string {
	if operations == 0 {
		return []string{"x", "y", "z", "e"}
	}
	var list []string
	for before := range operations {
		for _, first := range termsWith(before) {
			for _, second := range termsWith(operations - 1 - before) {
				for _, sign := range []string{"*", "\\", "/"} {
					list = append(list, first+second+sign)
				}
			}
		}
	}
	return list
}

// shortTerms returns all terms with at most two operations.
func shortTerms() []string {
	return slices.Concat(termsWith(0), termsWith(1), termsWith(2))
}

// longTerms returns terms of longestTerm bytes of several shapes.
func longTerms() []string {
	count := longestTerm / 2
	return []string{
		"x" + strings.Repeat("y*", count),                              // the first parts are long
		strings.Repeat("z", count) + "x" + strings.Repeat("\\", count), // the second parts are long
		"e" + strings.Repeat("x/", count-2) + "y\\z*",                  // all letters
		strings.Repeat("xy/", 10) + strings.Repeat("\\", 9),            // parts of three bytes
		"xy*zx\\*" + strings.Repeat("yz/ex**\\", 4),                    // both parts have operations
		strings.Repeat("x", 10) + strings.Repeat("*", 9) + strings.Repeat("x", 10) + strings.Repeat("/", 10),
	}
}

// noTerms returns lists of bytes that are no terms, each for a reason of its own.
func noTerms() map[string]string {
	count := longestTerm / 2
	return map[string]string{
		"empty":                          "",
		"an operation alone":             "*",
		"two values":                     "xy",
		"the values e and e":             "ee",
		"one value for an operation":     "x*",
		"an operation first":             "*xy",
		"an operation between":           "x*y",
		"one operation too many":         "xy**",
		"one operation too many, early":  "xy**z",
		"right in number, wrong in turn": "xy***zxy",
		"three values, one operation":    "xyz\\",
		"a letter that is no variable":   "w",
		"an upper letter":                "X",
		"a blank":                        "x y*",
		"a blank behind":                 "x ",
		"a text":                         "(x*y)",
		"a byte 0":                       "\x00",
		"a byte 255":                     "xy\xff",
		"another operation":              "xy+",
		"an identity":                    "x=x",
		"of MaxTerm bytes, a value more": "x" + strings.Repeat("y*", count) + "z",
		"of MaxTerm bytes, one less":     "x" + strings.Repeat("y*", count) + "*",
		"of MaxTerm values":              strings.Repeat("x", impl.MaxTerm),
		"one operation too many bytes":   "x" + strings.Repeat("y*", count+1),
		"too many bytes, deep":           strings.Repeat("z", count+2) + strings.Repeat("/", count+1),
		"far too many bytes":             "x" + strings.Repeat("y*", 100000),
		"far too many values":            strings.Repeat("x", 100000),
	}
}

// partsOf returns the two parts of a term with an operation, found from its end.
func partsOf(term string) (string, string) {
	need, start := 1, len(term)-1
	for need > 0 {
		start--
		if strings.IndexByte("*\\/", term[start]) >= 0 {
			need++
		} else {
			need--
		}
	}
	return term[:start], term[start : len(term)-1]
}

// isTermByParts tells by trial of all parts whether a list is a term, but for its length.
func isTermByParts(list string) bool {
	if len(list) == 1 {
		return strings.Contains("xyze", list)
	}
	if len(list) == 0 || !strings.Contains("*\\/", list[len(list)-1:]) {
		return false
	}
	for end := 1; end < len(list)-1; end++ {
		if isTermByParts(list[:end]) && isTermByParts(list[end:len(list)-1]) {
			return true
		}
	}
	return false
}

// textByParts returns the text of a term.
func textByParts(term string) string {
	if len(term) == 1 {
		return term
	}
	first, second := partsOf(term)
	texts := []string{textByParts(first), textByParts(second)}
	for k, part := range []string{first, second} {
		if len(part) > 1 {
			texts[k] = "(" + texts[k] + ")"
		}
	}
	return texts[0] + term[len(term)-1:] + texts[1]
}

// mirrorByParts returns the mirror image of a term.
func mirrorByParts(term string) string {
	if len(term) == 1 {
		return term
	}
	first, second := partsOf(term)
	signs := map[string]string{"*": "*", "\\": "/", "/": "\\"}
	return mirrorByParts(second) + mirrorByParts(first) + signs[term[len(term)-1:]]
}

// valueByParts returns the value of a term at x, y and z, with quotients by trial.
func valueByParts(q impl.Square, term string, at [3]byte) byte {
	switch term {
	case "x", "y", "z":
		return at[term[0]-'x']
	case "e":
		return 0
	}
	first, second := partsOf(term)
	a, b := valueByParts(q, first, at), valueByParts(q, second, at)
	for c := range byte(q.Order) {
		switch {
		case strings.HasSuffix(term, "*") && q.Table[a][b] == c,
			strings.HasSuffix(term, "\\") && q.Table[a][c] == b,
			strings.HasSuffix(term, "/") && q.Table[c][b] == a:
			return c
		}
	}
	return 255
}

// placesIn returns all lists of three elements of q, in order.
func placesIn(q impl.Square) [][3]byte {
	var list [][3]byte
	for x := range byte(q.Order) {
		for y := range byte(q.Order) {
			for z := range byte(q.Order) {
				list = append(list, [3]byte{x, y, z})
			}
		}
	}
	return list
}

// linearOf returns the square of order n with the remainder of a x + b y + c by n as product of x and y.
func linearOf(n int64, a int64, b int64, c int64) impl.Square {
	q := impl.Square{Order: n}
	for x := range n {
		for y := range n {
			q.Table[x][y] = byte((a*x + b*y + c) % n)
		}
	}
	return q
}

// manySquares returns the squares of someSquares and others with more or less symmetry.
func manySquares(t *testing.T) []impl.Square {
	t.Helper()
	return append(someSquares(t), squareOf(t, textOfLoop7), squareOf(t, textOfSquare5), steinerOf10(),
		linearOf(5, 2, 4, 3), linearOf(7, 5, 3, 0), linearOf(7, 6, 6, 0), linearOf(10, 3, 7, 5))
}

// allSquaresOfOrderThree returns the twelve squares of order 3.
func allSquaresOfOrderThree() []impl.Square {
	var list []impl.Square
	rows := []impl.Places{}
	orderings(3, func(numbers []byte) { rows = append(rows, placesOf(numbers)) })
	for _, first := range rows {
		for _, second := range rows {
			for _, third := range rows {
				if q := (impl.Square{Order: 3, Table: impl.Table{first, second, third}}); impl.IsSquare(q) {
					list = append(list, q)
				}
			}
		}
	}
	return list
}

// someIdentities returns the texts of identities of which some hold everywhere, some in some of the
// squares, and some nearly nowhere.
func someIdentities() []string {
	return []string{
		"x=x", "x=y", "e=e", "e=x", "x=e", "z=z", "y=z", "x=z", "e=z", "e*e=e", "z*z=e", "y*y=e",
		"x*y=y*x", "z*y=y*z", "(x*y)*z=x*(y*z)", "(z*y)*x=z*(y*x)", "x*x=e", "x*x=x", "x*x=y*y", "y*y=z*z", "z*z=z",
		"x*(x\\y)=y", "(y/x)*x=y", "x\\(x*z)=z", "(x*y)/y=x", "x/(y\\x)=y", "(x/y)\\x=y", "x\\x=y\\y", "x/x=y\\y", "x/x=e",
		"e*x=x", "x*e=x", "e\\z=z", "z/e=z", "(e/x)*(x*y)=y", "(y*x)*(x\\e)=y", "x*(y*x)=y", "x*(y*x)=(x*y)*x",
		"x\\y=y\\x", "x\\y=y/x", "x*y=x/y", "x*y=x\\y", "x*(y*(x*z))=((x*y)*x)*z", "(x*y)*(z*x)=(x*(y*z))*x",
		"(x*y)*(z*e)=(x*z)*(y*e)", "x*(y*z)=(x*y)*(x*z)", "(y*z)*(z\\y)=z/(y*z)",
	}
}

func TestMaxTerm(t *testing.T) {
	if impl.MaxTerm != 40 {
		t.Errorf("MaxTerm = %d", impl.MaxTerm)
	}
}

// lists calls each with all lists of some letters of a length.
func lists(letters string, length int, each func(list string)) {
	list := make([]byte, length)
	var fill func(place int)
	fill = func(place int) {
		if place == length {
			each(string(list))
			return
		}
		for _, letter := range []byte(letters) {
			list[place] = letter
			fill(place + 1)
		}
	}
	fill(0)
}

func TestIsTermOfAllShortLists(t *testing.T) {
	for length, want := range []int{0, 4, 0, 48, 0, 1152} {
		count := 0
		lists("xyze*\\/", length, func(list string) {
			count += countOf(impl.IsTerm([]byte(list)))
			if impl.IsTerm([]byte(list)) != isTermByParts(list) {
				t.Errorf("IsTerm(%q) = %v", list, impl.IsTerm([]byte(list)))
			}
		})
		if count != want {
			t.Errorf("of the lists of %d bytes %d are terms", length, count)
		}
	}
}

func TestIsTermOfOtherBytes(t *testing.T) {
	for letter := range 256 {
		b := byte(letter)
		isValue, isSign := strings.IndexByte("xyze", b) >= 0, strings.IndexByte("*\\/", b) >= 0
		if impl.IsTerm([]byte{b}) != isValue || impl.IsTerm([]byte{'x', b, '*'}) != isValue || impl.IsTerm([]byte{'x', 'x', b}) != isSign {
			t.Errorf("IsTerm with the byte %d is wrong", letter)
		}
	}
}

func TestIsTermOfLimits(t *testing.T) {
	if impl.IsTerm(nil) || impl.IsTerm([]byte{}) {
		t.Errorf("an empty list is a term")
	}
	for _, term := range longTerms() {
		if len(term) != longestTerm || !impl.IsTerm([]byte(term)) {
			t.Errorf("%q of %d bytes is no term", term, len(term))
		}
		for _, letter := range []string{"x", "e", "*", "\\"} {
			if impl.IsTerm([]byte(term+letter)) || impl.IsTerm([]byte(letter+term)) {
				t.Errorf("%q is a term with %q", term, letter)
			}
		}
		if impl.IsTerm([]byte(term + "x*")) {
			t.Errorf("%q of %d bytes is a term", term+"x*", len(term)+2)
		}
	}
	for reason, list := range noTerms() {
		if impl.IsTerm([]byte(list)) {
			t.Errorf("%s: %.100q is a term", reason, list)
		}
	}
}

func TestTermValueOfExamples(t *testing.T) {
	cases := []struct {
		square  string
		term    string
		x, y, z byte
		value   byte
	}{
		{textOfOne, "x", 0, 0, 0, 0},
		{textOfOne, "xy*z\\e/", 0, 0, 0, 0},
		{textOfLoop5, "x", 4, 2, 3, 4},
		{textOfLoop5, "y", 4, 2, 3, 2},
		{textOfLoop5, "z", 4, 2, 3, 3},
		{textOfLoop5, "e", 4, 2, 3, 0},
		{textOfLoop5, "xy*", 3, 2, 0, 4},
		{textOfLoop5, "xy\\", 3, 1, 0, 4}, // 3 * 4 is 1
		{textOfLoop5, "xy/", 3, 1, 0, 4},  // 4 * 1 is 3
		{textOfLoop5, "yx/", 3, 1, 0, 2},  // 2 * 3 is 1
		{textOfLoop5, "xy*z*", 1, 2, 3, 0},
		{textOfLoop5, "xyz**", 1, 2, 3, 0},
		{textOfLoop5, "xy*z*", 1, 1, 2, 2},
		{textOfLoop5, "xyz**", 1, 1, 2, 4},
		{textOfShifted, "e", 1, 2, 3, 0},
		{textOfShifted, "ex*", 3, 0, 0, 0}, // 0 is not neutral, but 3 is
		{textOfShifted, "xe*", 1, 0, 0, 2},
		{textOfShifted, "ee*", 0, 0, 0, 1},
		{textOfSubtract, "xy*", 1, 2, 0, 2},  // 1 - 2
		{textOfSubtract, "xy\\", 1, 2, 0, 2}, // 1 - 2 is 2
		{textOfSubtract, "xy/", 1, 2, 0, 0},  // 0 - 2 is 1
	}
	for _, c := range cases {
		value, code := impl.TermValue(squareOf(t, c.square), []byte(c.term), c.x, c.y, c.z)
		if value != c.value || code != impl.ErrNone {
			t.Errorf("%s: TermValue(%q, %d, %d, %d) = %d, %d", c.square, c.term, c.x, c.y, c.z, value, code)
		}
	}
}

// checkValue checks the value of a term at a place.
func checkValue(t *testing.T, q impl.Square, term string, at [3]byte) {
	t.Helper()
	value, code := impl.TermValue(q, []byte(term), at[0], at[1], at[2])
	if value != valueByParts(q, term, at) || code != impl.ErrNone {
		t.Errorf("%v: TermValue(%q, %v) = %d, %d", q, term, at, value, code)
	}
}

func TestTermValueByParts(t *testing.T) {
	for _, text := range []string{textOfOne, "01/10", textOfSubtract, textOfLoop5} {
		q := squareOf(t, text)
		for _, term := range shortTerms() {
			last := byte(q.Order - 1)
			checkValue(t, q, term, [3]byte{last, 0, last / 2})
			checkValue(t, q, term, [3]byte{last / 2, last, 0})
		}
	}
	for _, q := range manySquares(t) {
		for _, at := range placesIn(q) {
			checkValue(t, q, "xy*zx\\e//", at)
		}
		last := byte(q.Order - 1)
		for _, term := range append(longTerms(), termsWith(1)...) {
			checkValue(t, q, term, [3]byte{last, last / 2, last / 3})
			checkValue(t, q, term, [3]byte{0, last, last / 2})
		}
	}
}

// Terms with one operation have the products and quotients of chapter 1.
func TestTermValueOfOneOperation(t *testing.T) {
	functions := map[string]func(impl.Square, byte, byte) (byte, int64){
		"xy*": impl.ProductIn, "xy\\": impl.LeftQuotient, "xy/": impl.RightQuotient,
	}
	for term, function := range functions {
		for _, q := range manySquares(t) {
			for x := range byte(q.Order) {
				for y := range byte(q.Order) {
					want, _ := function(q, x, y)
					if value, code := impl.TermValue(q, []byte(term), x, y, 0); value != want || code != impl.ErrNone {
						t.Errorf("%v: TermValue(%q, %d, %d) = %d, %d", q, term, x, y, value, code)
					}
				}
			}
		}
	}
}

func TestTermValueErrors(t *testing.T) {
	for reason, q := range noSquares(t) {
		for _, term := range []string{"x", "e", "xy*z*", "", "xy"} {
			for _, x := range []byte{0, 255} {
				if value, code := impl.TermValue(q, []byte(term), x, x, x); value != 0 || code != impl.ErrInvalid {
					t.Errorf("%s: TermValue(%q) of %d = %d, %d", reason, term, x, value, code)
				}
			}
		}
	}
	for reason, list := range noTerms() {
		for _, x := range []byte{0, 4, 5, 255} {
			if value, code := impl.TermValue(squareOf(t, textOfLoop5), []byte(list), x, x, x); value != 0 || code != impl.ErrInvalid {
				t.Errorf("%s: TermValue of %d = %d, %d", reason, x, value, code)
			}
		}
	}
	// An element that is none is refused also in the place of a variable that does not occur.
	for _, q := range someSquares(t) {
		n, last := byte(q.Order), byte(q.Order-1)
		for _, at := range [][3]byte{{n, 0, 0}, {0, n, 0}, {0, 0, n}, {n, n, n}, {last, 255, last}, {last, last, 255}, {10, last, last}} {
			for _, term := range []string{"x", "y", "z", "e", "xy*z*", longTerms()[0]} {
				if value, code := impl.TermValue(q, []byte(term), at[0], at[1], at[2]); value != 0 || code != impl.ErrRange {
					t.Errorf("%v: TermValue(%q, %v) = %d, %d", q, term, at, value, code)
				}
			}
		}
	}
}

func TestTermTextOfExamples(t *testing.T) {
	cases := map[string]string{
		"x": "x", "y": "y", "z": "z", "e": "e",
		"xy*": "x*y", "xy\\": "x\\y", "xy/": "x/y", "ee*": "e*e",
		"xy*z*": "(x*y)*z", "xyz**": "x*(y*z)", "xy*zx\\/": "(x*y)/(z\\x)", "xyzx*/\\": "x\\(y/(z*x))",
		"xy*z\\e/": "((x*y)\\z)/e",
	}
	for term, want := range cases {
		if text, code := impl.TermText([]byte(term)); text != want || code != impl.ErrNone {
			t.Errorf("TermText(%q) = %q, %d", term, text, code)
		}
	}
	long := longTerms()[0]
	want := strings.Repeat("(", 18) + "x*y" + strings.Repeat(")*y", 18)
	if text, code := impl.TermText([]byte(long)); text != want || code != impl.ErrNone {
		t.Errorf("TermText(%q) = %q, %d", long, text, code)
	}
	for reason, list := range noTerms() {
		if text, code := impl.TermText([]byte(list)); text != "" || code != impl.ErrInvalid {
			t.Errorf("%s: TermText = %q, %d", reason, text, code)
		}
	}
}

func TestTermTextByParts(t *testing.T) {
	for _, term := range append(shortTerms(), longTerms()...) {
		if text, code := impl.TermText([]byte(term)); text != textByParts(term) || code != impl.ErrNone {
			t.Errorf("TermText(%q) = %q, %d", term, text, code)
		}
	}
}

func TestIdentityText(t *testing.T) {
	cases := []struct{ left, right, text string }{
		{"xy*", "yx*", "x*y=y*x"},
		{"x", "x", "x=x"},
		{"e", "z", "e=z"},
		{"xy*z*", "xyz**", "(x*y)*z=x*(y*z)"},
		{"x", "xy\\z/", "x=(x\\y)/z"},
	}
	for _, c := range cases {
		if text, code := impl.IdentityText(identityBy(c.left, c.right)); text != c.text || code != impl.ErrNone {
			t.Errorf("IdentityText(%q, %q) = %q, %d", c.left, c.right, text, code)
		}
		if i, code := impl.ParseIdentity(c.text); !sameIdentity(i, identityBy(c.left, c.right)) || code != impl.ErrNone {
			t.Errorf("ParseIdentity(%q) = %q, %q, %d", c.text, i.Left, i.Right, code)
		}
	}
}

// Identities come back from their texts, whichever term stands on which side.
func TestIdentitiesComeBackFromTheirTexts(t *testing.T) {
	long := longTerms()
	others := append([]string{"x", "zy\\", "xy*z*", "exy//"}, long[0], long[1])
	for _, term := range append(shortTerms(), long...) {
		for _, other := range others {
			for _, i := range []impl.Identity{identityBy(term, other), identityBy(other, term)} {
				text, code := impl.IdentityText(i)
				if text != textByParts(string(i.Left))+"="+textByParts(string(i.Right)) || code != impl.ErrNone {
					t.Errorf("IdentityText(%q, %q) = %q, %d", i.Left, i.Right, text, code)
				}
				if back, code := impl.ParseIdentity(text); !sameIdentity(back, i) || code != impl.ErrNone {
					t.Errorf("ParseIdentity(%q) = %q, %q, %d", text, back.Left, back.Right, code)
				}
			}
		}
	}
	for _, term := range termsWith(3) {
		text := textByParts(term) + "=" + "x"
		if i, code := impl.ParseIdentity(text); !sameIdentity(i, identityBy(term, "x")) || code != impl.ErrNone {
			t.Errorf("ParseIdentity(%q) = %q, %q, %d", text, i.Left, i.Right, code)
		}
	}
}

func TestParseIdentityErrors(t *testing.T) {
	sides := []string{
		"", "*", "(", ")", "()", "(x)", "((x))", "(x*y)", "((x*y))", "x*", "*x", "x**y", "xy", "xy*", "x*y*z", "x*y/z", "(x*y)*z*x",
		"x*(y)", "(x)*y", "x*((y*z))", "((x*y))*z", "(x*y*z)*x", "x*(y*z", "x*y*z)", "x*(y*z))", "((x*y)*z", "(x*y)(y*z)", "(x*y)z",
		"x(y*z)", "(*)", "x*()", "()*x", ")x*y(", "x*)y*z(", "(x*)y", "x(*y)", "(x*y)*", "*(x*y)", "a", "X", "1", "0", "x+y", "x*w",
		" x", "x ", "x *y", "x\n", "x\x00", "\xff", "x×y", "x*y\\", "/x", "x//y", "x*\\y", "[x*y]*z", "(x*y]*z", "x\u0000",
		"((((((((((((((((((((", "))))))))))))))))))))", "xxxxxxxxxxxxxxxxxxxx", "********************",
		"x" + strings.Repeat("*y", 19), strings.Repeat("(", 19) + "x" + strings.Repeat("*y)", 19),
		strings.Repeat("(", 19) + "x*y" + strings.Repeat(")*y", 19), // a term of 41 bytes
		strings.Repeat("z/(", 19) + "z/x" + strings.Repeat(")", 19),
		strings.Repeat("(", 100000) + "x" + strings.Repeat(")", 100000), strings.Repeat("(", 1000000), strings.Repeat(")", 100000),
		strings.Repeat("x", 100000), strings.Repeat("*", 100000), strings.Repeat("x*(", 100000) + "x*x" + strings.Repeat(")", 100000),
	}
	for _, side := range sides {
		for _, text := range []string{side, side + "=x", "x=" + side, side + "=" + side, "(x*y)*z=" + side, side + "=z\\(x/y)"} {
			if i, code := impl.ParseIdentity(text); !isNoIdentity(i) || code != impl.ErrSyntax {
				t.Errorf("ParseIdentity(%.200q) = %q, %q, %d", text, i.Left, i.Right, code)
			}
		}
	}
	for _, text := range []string{"=", "==", "x==x", "x=x=x", "x=y=", "=x=y", "x=x=", "x*y", "x", "x,x", "x:=x", "x = x", "(x=x)", "(x*y=y*x)", "x*(y=y)*x", "x=x\n", "\nx=x"} {
		if i, code := impl.ParseIdentity(text); !isNoIdentity(i) || code != impl.ErrSyntax {
			t.Errorf("ParseIdentity(%q) = %q, %q, %d", text, i.Left, i.Right, code)
		}
	}
}

// checkParsed checks that the result for a text is an error or the identity with just this text, and
// tells whether it is the latter.
func checkParsed(t *testing.T, text string) bool {
	t.Helper()
	i, code := impl.ParseIdentity(text)
	if code == impl.ErrSyntax {
		if !isNoIdentity(i) {
			t.Errorf("ParseIdentity(%q) = %q, %q, %d", text, i.Left, i.Right, code)
		}
		return false
	}
	if code != impl.ErrNone || !isTermByParts(string(i.Left)) || !isTermByParts(string(i.Right)) ||
		textByParts(string(i.Left))+"="+textByParts(string(i.Right)) != text {
		t.Errorf("ParseIdentity(%q) = %q, %q, %d", text, i.Left, i.Right, code)
	}
	return true
}

// Of the texts with few letters just those of identities are taken: x=x; two with one operation;
// x*x=x*x; and four with two operations at one side.
func TestParseIdentityOfAllShortTexts(t *testing.T) {
	for length, want := range []int{0, 0, 0, 1, 0, 2, 0, 1, 0, 4} {
		count := 0
		lists("x*()=", length, func(text string) { count += countOf(checkParsed(t, text)) })
		if count != want {
			t.Errorf("of the texts of %d bytes %d are those of identities", length, count)
		}
	}
}

func TestParseIdentityAfterOneChange(t *testing.T) {
	for _, text := range []string{"x=x", "x*y=y*x", "(x*y)*z=x*(y*z)", "(x\\(y/z))*e=(e*x)\\(y*z)"} {
		for place := range len(text) {
			for other := range 256 {
				checkParsed(t, text[:place]+string([]byte{byte(other)})+text[place+1:])
				checkParsed(t, text[:place]+string([]byte{byte(other)})+text[place:])
			}
			checkParsed(t, text[:place]+text[place+1:])
		}
	}
}

func TestMirrorOfExamples(t *testing.T) {
	cases := map[string]string{
		"x=x": "x=x", "x=e": "x=e", "x*y=z": "y*x=z", "x*y=y*x": "y*x=x*y", "x\\y=z": "y/x=z", "x/y=z": "y\\x=z",
		"x*(x\\y)=y": "(y/x)*x=y", "(x*y)*z=x*(y*z)": "z*(y*x)=(z*y)*x", "(e/x)*(x*y)=y": "(y*x)*(x\\e)=y",
	}
	for text, want := range cases {
		mirror, code := impl.MirrorOf(identityOf(t, text))
		if code != impl.ErrNone || !sameIdentity(mirror, identityOf(t, want)) {
			t.Errorf("MirrorOf(%q) = %q, %q, %d", text, mirror.Left, mirror.Right, code)
		}
	}
}

// Mirror images are those of the definition, and the mirror image of a mirror image is the identity.
func TestMirrorOfByParts(t *testing.T) {
	for _, term := range append(shortTerms(), longTerms()...) {
		for _, i := range []impl.Identity{identityBy(term, "xyz/*"), identityBy("x", term)} {
			mirror, code := impl.MirrorOf(i)
			if code != impl.ErrNone || !sameIdentity(mirror, identityBy(mirrorByParts(string(i.Left)), mirrorByParts(string(i.Right)))) {
				t.Errorf("MirrorOf(%q, %q) = %q, %q, %d", i.Left, i.Right, mirror.Left, mirror.Right, code)
			}
			if back, code := impl.MirrorOf(mirror); !sameIdentity(back, i) || code != impl.ErrNone {
				t.Errorf("MirrorOf(%q, %q) = %q, %q, %d", mirror.Left, mirror.Right, back.Left, back.Right, code)
			}
		}
	}
}

// failsByTrial returns the first place at which an identity does not hold, or nil, and the number of
// places at which it holds.
func failsByTrial(q impl.Square, i impl.Identity) ([]int64, int64) {
	var first []int64
	count := int64(0)
	for _, at := range placesIn(q) {
		if valueByParts(q, string(i.Left), at) == valueByParts(q, string(i.Right), at) {
			count++
		} else if first == nil {
			first = []int64{int64(at[0]), int64(at[1]), int64(at[2])}
		}
	}
	return first, count
}

// checkIdentity checks all that is told of an identity in a square by trial.
func checkIdentity(t *testing.T, q impl.Square, i impl.Identity) {
	t.Helper()
	first, count := failsByTrial(q, i)
	want := int64(impl.ErrNone)
	if first == nil {
		want = impl.ErrNotFound
	}
	if at, code := impl.FailsAt(q, i); !slices.Equal(at, first) || code != want {
		t.Errorf("%v: FailsAt(%q, %q) = %v, %d", q, i.Left, i.Right, at, code)
	}
	if holds, code := impl.HoldsIn(q, i); holds != (first == nil) || code != impl.ErrNone {
		t.Errorf("%v: HoldsIn(%q, %q) = %v, %d", q, i.Left, i.Right, holds, code)
	}
	if number, code := impl.CountHolds(q, i); number != count || code != impl.ErrNone {
		t.Errorf("%v: CountHolds(%q, %q) = %d, %d", q, i.Left, i.Right, number, code)
	}
}

func TestIdentitiesByTrial(t *testing.T) {
	for _, q := range manySquares(t) {
		for _, text := range someIdentities() {
			checkIdentity(t, q, identityOf(t, text))
		}
	}
	for _, term := range longTerms() {
		for _, q := range []impl.Square{cyclicOf(t, 1), squareOf(t, textOfLoop5), linearOf(10, 3, 7, 5)} {
			checkIdentity(t, q, identityBy(term, longTerms()[3]))
			checkIdentity(t, q, identityBy("y", term))
		}
	}
	for _, q := range allSquaresOfOrderThree() {
		for _, term := range slices.Concat(termsWith(0), termsWith(1)) {
			for _, other := range slices.Concat(termsWith(0), termsWith(1)) {
				checkIdentity(t, q, identityBy(term, other))
			}
		}
	}
}

func TestFailsAtOfExamples(t *testing.T) {
	cases := []struct {
		square string
		text   string
		at     []int64 // nil if the identity holds
		count  int64
	}{
		{textOfOne, "x=y", nil, 1},
		{textOfOne, "x*y=z", nil, 1},
		{textOfLoop5, "(x*y)*z=x*(y*z)", []int64{1, 1, 2}, 89},
		{textOfLoop5, "x*x=e", nil, 125},
		{textOfLoop5, "y*y=e", nil, 125},
		{textOfLoop5, "x=e", []int64{1, 0, 0}, 25},
		{textOfLoop5, "y=e", []int64{0, 1, 0}, 25},
		{textOfLoop5, "z=e", []int64{0, 0, 1}, 25},
		{textOfLoop5, "x=z", []int64{0, 0, 1}, 25},
		{textOfShifted, "e*x=x", []int64{0, 0, 0}, 0},
		{textOfShifted, "e*e=e", []int64{0, 0, 0}, 0},
		{"012/120/201", "(x*y)*z=x*(y*z)", nil, 27},
		{"012/120/201", "x*x=x", []int64{1, 0, 0}, 9},
		{"012/120/201", "z*z=z", []int64{0, 0, 1}, 9},
		{"012/120/201", "x*y=z", []int64{0, 0, 1}, 9},
		{textOfTurns3, "x*y=y*x", []int64{1, 3, 0}, 108},
		{textOfTurns3, "y*z=z*y", []int64{0, 1, 3}, 108},
		{textOfSubtract, "(x*y)*z=x*(y*z)", []int64{0, 0, 1}, 9},
		{textOfNearly, "x*x=x", []int64{3, 0, 0}, 48}, // the last element alone is no square root of itself
		{textOfNearly, "y*y=y", []int64{0, 3, 0}, 48},
		{textOfNearly, "z*z=z", []int64{0, 0, 3}, 48},
	}
	for _, c := range cases {
		q, i := squareOf(t, c.square), identityOf(t, c.text)
		want := int64(impl.ErrNone)
		if c.at == nil {
			want = impl.ErrNotFound
		}
		if at, code := impl.FailsAt(q, i); !slices.Equal(at, c.at) || code != want {
			t.Errorf("%s: FailsAt(%q) = %v, %d", c.square, c.text, at, code)
		}
		if count, code := impl.CountHolds(q, i); count != c.count || code != impl.ErrNone {
			t.Errorf("%s: CountHolds(%q) = %d, %d", c.square, c.text, count, code)
		}
	}
}

func TestIdentitiesErrors(t *testing.T) {
	good := identityOf(t, "x*y=y*x")
	for reason, bad := range noSquares(t) {
		for _, i := range []impl.Identity{good, identityBy("x", "x"), {}, identityBy("x", "xy")} {
			checkIdentityCodes(t, reason, bad, i)
		}
	}
	for reason, list := range noTerms() {
		for _, q := range []impl.Square{cyclicOf(t, 1), squareOf(t, textOfLoop5), cyclicOf(t, 10)} {
			for _, i := range []impl.Identity{identityBy(list, list), identityBy(list, "x"), identityBy("x", list), identityBy("xy*z*", list)} {
				checkIdentityCodes(t, reason, q, i)
				if text, code := impl.IdentityText(i); text != "" || code != impl.ErrInvalid {
					t.Errorf("%s: IdentityText = %q, %d", reason, text, code)
				}
				if mirror, code := impl.MirrorOf(i); !isNoIdentity(mirror) || code != impl.ErrInvalid {
					t.Errorf("%s: MirrorOf = %q, %q, %d", reason, mirror.Left, mirror.Right, code)
				}
			}
		}
	}
}

// checkIdentityCodes checks the results for a square and an identity of which one is none.
func checkIdentityCodes(t *testing.T, reason string, q impl.Square, i impl.Identity) {
	t.Helper()
	if at, code := impl.FailsAt(q, i); len(at) != 0 || code != impl.ErrInvalid {
		t.Errorf("%s: FailsAt = %v, %d", reason, at, code)
	}
	if holds, code := impl.HoldsIn(q, i); holds || code != impl.ErrInvalid {
		t.Errorf("%s: HoldsIn = %v, %d", reason, holds, code)
	}
	if count, code := impl.CountHolds(q, i); count != 0 || code != impl.ErrInvalid {
		t.Errorf("%s: CountHolds = %d, %d", reason, count, code)
	}
}

// oppositeIn returns the opposite of q.
func oppositeIn(t *testing.T, q impl.Square) impl.Square {
	t.Helper()
	opposite, code := impl.OppositeOf(q)
	if code != impl.ErrNone {
		t.Fatalf("OppositeOf(%v): code %d", q, code)
	}
	return opposite
}

// checkMirror checks that an identity tells of q what its mirror image tells of the opposite one.
func checkMirror(t *testing.T, q impl.Square, i impl.Identity) {
	t.Helper()
	opposite := oppositeIn(t, q)
	mirror, code := impl.MirrorOf(i)
	if code != impl.ErrNone {
		t.Fatalf("MirrorOf(%q, %q): code %d", i.Left, i.Right, code)
	}
	holds, _ := impl.HoldsIn(q, i)
	if there, code := impl.HoldsIn(opposite, mirror); there != holds || code != impl.ErrNone {
		t.Errorf("%v: HoldsIn(%q, %q) = %v, and of the mirror image %v, %d", q, i.Left, i.Right, holds, there, code)
	}
	at, _ := impl.FailsAt(q, i)
	if there, _ := impl.FailsAt(opposite, mirror); !slices.Equal(at, there) {
		t.Errorf("%v: FailsAt(%q, %q) = %v, and of the mirror image %v", q, i.Left, i.Right, at, there)
	}
	count, _ := impl.CountHolds(q, i)
	if there, code := impl.CountHolds(opposite, mirror); count != there || code != impl.ErrNone {
		t.Errorf("%v: CountHolds(%q, %q) = %d, and of the mirror image %d, %d", q, i.Left, i.Right, count, there, code)
	}
}

// Promise 3, and 17: an identity holds in a square exactly if its mirror image does in the opposite one.
func TestMirrorImagesInOpposites(t *testing.T) {
	for _, q := range manySquares(t) {
		for _, text := range someIdentities() {
			checkMirror(t, q, identityOf(t, text))
		}
		checkMirror(t, q, identityBy(longTerms()[2], longTerms()[4]))
	}
	terms := slices.Concat(termsWith(0), termsWith(1))
	for _, q := range append(allSquaresOfOrderThree(), squareOf(t, textOfSquare5)) {
		for k, term := range shortTerms() {
			checkMirror(t, q, identityBy(term, terms[k%len(terms)]))
		}
	}
}

// The mirror image of a term has the same value in the opposite square, place by place.
func TestMirrorTermsInOpposites(t *testing.T) {
	for _, q := range manySquares(t) {
		opposite := oppositeIn(t, q)
		for _, term := range []string{"xy*", "xy\\", "xy/", "xy*zx\\e//", longTerms()[2]} {
			mirror, _ := impl.MirrorOf(identityBy(term, "x"))
			for _, at := range placesIn(q) {
				value, _ := impl.TermValue(q, []byte(term), at[0], at[1], at[2])
				there, code := impl.TermValue(opposite, mirror.Left, at[0], at[1], at[2])
				if value != there || code != impl.ErrNone {
					t.Fatalf("%v: TermValue(%q, %v) = %d, and of the mirror image %d, %d", q, term, at, value, there, code)
				}
			}
		}
	}
}

func TestLawsAmongOfExamples(t *testing.T) {
	texts := []string{"x*x=e", "x*y=y*x", "(x*y)*z=x*(y*z)", "x*x=x", "x=x", "x*y=y*x"}
	cases := map[string][]int64{
		textOfOne: {0, 1, 2, 3, 4, 5}, "01/10": {0, 1, 2, 4, 5}, "012/120/201": {1, 2, 4, 5},
		textOfSubtract: {0, 4}, textOfLoop5: {0, 4}, textOfTurns3: {2, 4}, textOfShifted: {1, 2, 4, 5},
	}
	for square, want := range cases {
		if list, code := impl.LawsAmong(squareOf(t, square), texts); !slices.Equal(list, want) || code != impl.ErrNone {
			t.Errorf("%s: LawsAmong = %v, %d", square, list, code)
		}
	}
	for _, none := range [][]string{nil, {}, {"x=y"}, {"x=e", "(x*y)*z=x*(y*z)"}} {
		if list, code := impl.LawsAmong(squareOf(t, textOfLoop5), none); len(list) != 0 || code != impl.ErrNone {
			t.Errorf("LawsAmong(%q) = %v, %d", none, list, code)
		}
	}
}

// The laws among 30 texts, and among fewer, are those that hold.
func TestLawsAmongManyTexts(t *testing.T) {
	all := someIdentities()
	for _, q := range manySquares(t) {
		for _, texts := range [][]string{all[:30], all[len(all)-30:], all[:1], all[7:11]} {
			var want []int64
			for k, text := range texts {
				if holds, _ := impl.HoldsIn(q, identityOf(t, text)); holds {
					want = append(want, int64(k))
				}
			}
			if list, code := impl.LawsAmong(q, texts); !slices.Equal(list, want) || code != impl.ErrNone {
				t.Errorf("%v: LawsAmong(%q) = %v, %d", q, texts, list, code)
			}
		}
	}
	want := make([]int64, 30)
	for k := range want {
		want[k] = int64(k)
	}
	if list, code := impl.LawsAmong(cyclicOf(t, 10), slices.Repeat([]string{"x*(y*z)=(x*y)*z"}, 30)); !slices.Equal(list, want) || code != impl.ErrNone {
		t.Errorf("LawsAmong 30 equal texts = %v, %d", list, code)
	}
}

func TestLawsAmongErrors(t *testing.T) {
	many := slices.Repeat([]string{"x=x"}, 31)
	last := slices.Clone(many[:30])
	last[29] = "x"
	first := slices.Clone(many[:30])
	first[0] = ""
	cases := []struct {
		reason string
		texts  []string
		code   int64
	}{
		{"31 texts", many, impl.ErrRange},
		{"31 texts, the last one of no identity", append(slices.Clone(many[:30]), "x"), impl.ErrRange},
		{"31 texts, the first one of no identity", append([]string{"x*"}, many[:30]...), impl.ErrRange},
		{"31 texts of no identities", make([]string, 31), impl.ErrRange},
		{"100000 texts", make([]string, 100000), impl.ErrRange},
		{"the last of 30 texts of no identity", last, impl.ErrSyntax},
		{"the first of 30 texts of no identity", first, impl.ErrSyntax},
		{"one empty text", []string{""}, impl.ErrSyntax},
		{"a term", []string{"x=x", "x*y", "x=x"}, impl.ErrSyntax},
		{"a blank", []string{"x=x", "x=y", "x = x"}, impl.ErrSyntax},
		{"a term of 41 bytes", []string{"x=" + strings.Repeat("(", 19) + "x*y" + strings.Repeat(")*y", 19)}, impl.ErrSyntax},
	}
	for _, c := range cases {
		for _, q := range []impl.Square{cyclicOf(t, 1), squareOf(t, textOfLoop5), cyclicOf(t, 10)} {
			if list, code := impl.LawsAmong(q, c.texts); len(list) != 0 || code != c.code {
				t.Errorf("%s: LawsAmong = %v, %d", c.reason, list, code)
			}
		}
		for reason, q := range noSquares(t) {
			if list, code := impl.LawsAmong(q, c.texts); len(list) != 0 || code != impl.ErrInvalid {
				t.Errorf("%s and %s: LawsAmong = %v, %d", reason, c.reason, list, code)
			}
		}
	}
	for reason, q := range noSquares(t) {
		for _, texts := range [][]string{nil, {"x=x"}, {"x*y=y*x", "e=e"}} {
			if list, code := impl.LawsAmong(q, texts); len(list) != 0 || code != impl.ErrInvalid {
				t.Errorf("%s: LawsAmong(%q) = %v, %d", reason, texts, list, code)
			}
		}
	}
}

// parastropheIn returns a parastrophe of q.
func parastropheIn(t *testing.T, q impl.Square, k int64) impl.Square {
	t.Helper()
	r, code := impl.ParastropheOf(q, k)
	if code != impl.ErrNone {
		t.Fatalf("ParastropheOf(%v, %d): code %d", q, k, code)
	}
	return r
}

// Each parastrophe is a square with the products that the definition tells.
func TestParastropheOf(t *testing.T) {
	products := []func(q impl.Square, x byte, y byte) (byte, int64){
		impl.ProductIn,
		func(q impl.Square, x byte, y byte) (byte, int64) { return impl.ProductIn(q, y, x) },
		impl.LeftQuotient,
		impl.RightQuotient,
		func(q impl.Square, x byte, y byte) (byte, int64) { return impl.LeftQuotient(q, y, x) },
		func(q impl.Square, x byte, y byte) (byte, int64) { return impl.RightQuotient(q, y, x) },
	}
	for _, q := range append(manySquares(t), allSquaresOfOrderThree()...) {
		for k, product := range products {
			r := parastropheIn(t, q, int64(k))
			if !impl.IsSquare(r) || r.Order != q.Order {
				t.Errorf("%v: its parastrophe %d is %v", q, k, r)
			}
			for x := range byte(q.Order) {
				for y := range byte(q.Order) {
					if want, _ := product(q, x, y); r.Table[x][y] != want {
						t.Errorf("%v: its parastrophe %d has %d at %d, %d", q, k, r.Table[x][y], x, y)
					}
				}
			}
		}
	}
}

func TestParastropheOfExamples(t *testing.T) {
	cases := map[string][]string{
		textOfOne:     {textOfOne, textOfOne, textOfOne, textOfOne, textOfOne, textOfOne},
		"012/120/201": {"012/120/201", "012/120/201", "012/201/120", "021/102/210", "021/102/210", "012/201/120"},
		textOfNearly: {"0231/3102/1023/2310", "0312/2103/3021/1230", "0312/2130/1023/3201",
			"0213/2130/3021/1302", "0213/3102/1320/2031", "0231/2103/1320/3012"},
	}
	for text, list := range cases {
		for k, want := range list {
			if r, code := impl.ParastropheOf(squareOf(t, text), int64(k)); r != squareOf(t, want) || code != impl.ErrNone {
				t.Errorf("%s: ParastropheOf(%d) = %v, %d", text, k, r, code)
			}
		}
	}
}

func TestParastropheErrors(t *testing.T) {
	outside := []int64{-1, 6, 7, 256, -256, 1 << 32, math.MaxInt64, math.MinInt64}
	for reason, q := range noSquares(t) {
		for _, k := range append([]int64{0, 1, 2, 3, 4, 5}, outside...) {
			if r, code := impl.ParastropheOf(q, k); r != (impl.Square{}) || code != impl.ErrInvalid {
				t.Errorf("%s: ParastropheOf(%d) = %v, %d", reason, k, r, code)
			}
		}
		if list, code := impl.SymmetriesOf(q); len(list) != 0 || code != impl.ErrInvalid {
			t.Errorf("%s: SymmetriesOf = %v, %d", reason, list, code)
		}
	}
	for _, q := range someSquares(t) {
		for _, k := range outside {
			if r, code := impl.ParastropheOf(q, k); r != (impl.Square{}) || code != impl.ErrRange {
				t.Errorf("%v: ParastropheOf(%d) = %v, %d", q, k, r, code)
			}
		}
	}
}

// Promise 17: the parastrophes of the opposite square are those of the square, with the opposite ones
// exchanged, and so are the symmetries.
func TestParastrophesOfOpposites(t *testing.T) {
	numbers := []int64{1, 0, 5, 4, 3, 2}
	for _, q := range append(manySquares(t), allSquaresOfOrderThree()...) {
		opposite := oppositeIn(t, q)
		if parastropheIn(t, q, 0) != q || parastropheIn(t, q, 1) != opposite {
			t.Errorf("%v: its parastrophes 0 and 1 are not itself and the opposite one", q)
		}
		for k, other := range numbers {
			if parastropheIn(t, opposite, int64(k)) != parastropheIn(t, q, other) {
				t.Errorf("%v: the parastrophe %d of the opposite one is not its parastrophe %d", q, k, other)
			}
		}
		for _, pair := range [][2]int64{{0, 1}, {2, 4}, {3, 5}} {
			if oppositeIn(t, parastropheIn(t, q, pair[0])) != parastropheIn(t, q, pair[1]) {
				t.Errorf("%v: its parastrophes %v are not opposite", q, pair)
			}
		}
		list, _ := impl.SymmetriesOf(q)
		there, code := impl.SymmetriesOf(opposite)
		if len(list) != len(there) || code != impl.ErrNone {
			t.Errorf("%v: its symmetries are %v, and those of the opposite one %v, %d", q, list, there, code)
		}
	}
}

// The quotients of a parastrophe are products or quotients of the square, so that each parastrophe of a
// parastrophe is a parastrophe, and taking those of a number twice or three times leads back.
func TestParastrophesOfParastrophes(t *testing.T) {
	times := []int{1, 2, 2, 2, 3, 3}
	for _, q := range append(manySquares(t), allSquaresOfOrderThree()...) {
		var list []impl.Square
		for k := range int64(6) {
			list = append(list, parastropheIn(t, q, k))
		}
		for k, count := range times {
			r := q
			for range count {
				if r = parastropheIn(t, r, int64(k)); !slices.Contains(list, r) {
					t.Errorf("%v: %v is none of its parastrophes", q, r)
				}
			}
			if r != q {
				t.Errorf("%v: its parastrophe %d, taken %d times, is %v", q, k, count, r)
			}
		}
	}
}

func TestSymmetriesOf(t *testing.T) {
	allOfThem := []int64{0, 1, 2, 3, 4, 5}
	cases := []struct {
		square impl.Square
		want   []int64
	}{
		{cyclicOf(t, 1), allOfThem},
		{elementaryOf(t, 1), allOfThem},
		{elementaryOf(t, 3), allOfThem},
		{steinerOf10(), allOfThem},
		{linearOf(7, 6, 6, 0), allOfThem},
		{linearOf(10, 9, 9, 5), allOfThem},
		{cyclicOf(t, 3), []int64{0, 1}},
		{cyclicOf(t, 10), []int64{0, 1}},
		{subtractOf(5), []int64{0, 2}},
		{linearOf(5, 4, 1, 0), []int64{0, 3}},
		{linearOf(7, 5, 3, 0), []int64{0, 4, 5}}, // x * (y * x) is y, but x * y is not y * x
		{squareOf(t, textOfTurns3), []int64{0}},
		{squareOf(t, textOfLoop7), []int64{0}},
	}
	for _, c := range cases {
		if list, code := impl.SymmetriesOf(c.square); !slices.Equal(list, c.want) || code != impl.ErrNone {
			t.Errorf("%v: SymmetriesOf = %v, %d", c.square, list, code)
		}
	}
	for _, q := range append(manySquares(t), allSquaresOfOrderThree()...) {
		var want []int64
		for k := range int64(6) {
			if parastropheIn(t, q, k) == q {
				want = append(want, k)
			}
		}
		if list, code := impl.SymmetriesOf(q); !slices.Equal(list, want) || code != impl.ErrNone {
			t.Errorf("%v: SymmetriesOf = %v, %d", q, list, code)
		}
	}
}

// A number is a symmetry exactly if the identity of its product and the one of the square holds.
func TestSymmetriesByIdentities(t *testing.T) {
	texts := []string{"x*y=x*y", "x*y=y*x", "x*y=x\\y", "x*y=x/y", "x*y=y\\x", "x*y=y/x"}
	for _, q := range append(manySquares(t), allSquaresOfOrderThree()...) {
		laws, _ := impl.LawsAmong(q, texts)
		if list, code := impl.SymmetriesOf(q); !slices.Equal(list, laws) || code != impl.ErrNone {
			t.Errorf("%v: SymmetriesOf = %v, %d, but of their identities hold %v", q, list, code, laws)
		}
	}
}

func TestIsIdempotentAndIsUnipotent(t *testing.T) {
	cases := []struct {
		square     impl.Square
		idempotent bool
		unipotent  bool
	}{
		{cyclicOf(t, 1), true, true},
		{cyclicOf(t, 2), false, true},
		{cyclicOf(t, 3), false, false},
		{cyclicOf(t, 10), false, false},
		{elementaryOf(t, 3), false, true},
		{steinerOf10(), false, true},
		{subtractOf(10), false, true},
		{linearOf(10, 1, 9, 7), false, true}, // x * x is 7
		{linearOf(3, 2, 2, 0), true, false},
		{linearOf(7, 5, 3, 0), true, false},
		{linearOf(9, 2, 8, 0), true, false},
		{linearOf(9, 2, 8, 1), false, false},
		{squareOf(t, textOfNearly), false, false}, // only the last element is different
		{squareOf(t, "0321/1032/3210/2103"), false, false},
		{squareOf(t, textOfLoop5), false, true},
		{squareOf(t, textOfShifted), false, false},
	}
	for _, c := range cases {
		if yes, code := impl.IsIdempotent(c.square); yes != c.idempotent || code != impl.ErrNone {
			t.Errorf("%v: IsIdempotent = %v, %d", c.square, yes, code)
		}
		if yes, code := impl.IsUnipotent(c.square); yes != c.unipotent || code != impl.ErrNone {
			t.Errorf("%v: IsUnipotent = %v, %d", c.square, yes, code)
		}
	}
	for _, q := range append(manySquares(t), allSquaresOfOrderThree()...) {
		laws, _ := impl.LawsAmong(q, []string{"x*x=x", "x*x=y*y"})
		if yes, _ := impl.IsIdempotent(q); yes != slices.Contains(laws, 0) {
			t.Errorf("%v: IsIdempotent = %v", q, yes)
		}
		if yes, _ := impl.IsUnipotent(q); yes != slices.Contains(laws, 1) {
			t.Errorf("%v: IsUnipotent = %v", q, yes)
		}
	}
	for reason, q := range noSquares(t) {
		if yes, code := impl.IsIdempotent(q); yes || code != impl.ErrInvalid {
			t.Errorf("%s: IsIdempotent = %v, %d", reason, yes, code)
		}
		if yes, code := impl.IsUnipotent(q); yes || code != impl.ErrInvalid {
			t.Errorf("%s: IsUnipotent = %v, %d", reason, yes, code)
		}
	}
}

// roomy returns a list with some bytes behind its end.
func roomy(list string) []byte { return []byte(list + "xy*?")[:len(list)] }

// No function changes an argument, nor what stands behind its end.
func TestWordsKeepTheirArguments(t *testing.T) {
	q := squareOf(t, textOfLoop5)
	texts := []string{"x=x", "x=y", "x*y=y*x"}
	for _, term := range append(append(shortTerms()[:60], longTerms()...), "xy", "*", "", "xy**") {
		i := impl.Identity{Left: roomy(term), Right: roomy("xyz**")}
		impl.IsTerm(i.Left)
		impl.TermValue(q, i.Left, 1, 2, 3)
		impl.TermText(i.Left)
		impl.IdentityText(i)
		impl.MirrorOf(i)
		impl.FailsAt(q, i)
		impl.HoldsIn(q, i)
		impl.CountHolds(q, i)
		if string(i.Left[:len(term)+4]) != term+"xy*?" || string(i.Right[:9]) != "xyz**xy*?" {
			t.Errorf("%q has become %q, and the other term %q", term, i.Left[:len(term)+4], i.Right[:9])
		}
	}
	impl.LawsAmong(q, texts)
	if !slices.Equal(texts, []string{"x=x", "x=y", "x*y=y*x"}) {
		t.Errorf("LawsAmong has made %q of its texts", texts)
	}
}

// spoil fills a list, and the memory behind its end.
func spoil(list []byte) {
	for k := range list[:cap(list)] {
		list[:cap(list)][k] = '?'
	}
}

// The terms of an identity share no memory with each other or an argument.
func TestIdentitiesShareNoMemory(t *testing.T) {
	for _, text := range []string{"x=x", "x*y=x*y", "(x*y)*z=x*(y*z)", "e=(x*y)*z", "(x*y)*z=e"} {
		i := identityOf(t, text)
		mirror, _ := impl.MirrorOf(i)
		left, right := string(mirror.Left), string(mirror.Right)
		kept := string(i.Right)
		spoil(i.Left)
		if string(i.Right) != kept || string(mirror.Left) != left || string(mirror.Right) != right {
			t.Errorf("%s: changing a term changes %q or %q", text, i.Right, mirror)
		}
		spoil(mirror.Left)
		if string(i.Right) != kept || string(mirror.Right) != right {
			t.Errorf("%s: changing a term of the mirror image changes %q or %q", text, i.Right, mirror.Right)
		}
		spoil(i.Right)
		if again, _ := impl.IdentityText(identityOf(t, text)); again != text || string(mirror.Right) != right {
			t.Errorf("%s: a second call returns %q, and the mirror image has become %q", text, again, mirror.Right)
		}
	}
}
