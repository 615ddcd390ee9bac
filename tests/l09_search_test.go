package tests

import (
	"math"
	"slices"
	"testing"

	"loop.example/g01195/impl"
)

// Squares of order 8 whose mate searches are long.
const (
	textOfLateMate = "46571302/17403526/01647235/52364170/73052614/30125467/64230751/25716043" // 2167 trials until the mate
	textOfNoMate   = "05712364/23460517/64321705/71504632/17056423/46237150/32645071/50173246" // 11040 trials, and no mate
)

// Two orthogonal squares of order 10.
const (
	textOfParker1 = "0417298365/8152739406/9826374510/5983047621/7698415032/6709852143/3071986254/1234560789/2345601897/4560123978"
	textOfParker2 = "0786935412/6178094523/5027819634/9613782045/3902478156/8491357260/7859246301/4560123789/1234560978/2345601897"
)

// textOfHamilton9 is a square of order 9 in which any two rows have one cycle alone.
const textOfHamilton9 = "021436587/315072846/462807153/270368415/108543762/736185204/854721630/683254071/547610328"

func TestMaxTrials(t *testing.T) {
	if impl.MaxTrials != 20000 {
		t.Errorf("MaxTrials is %d", impl.MaxTrials)
	}
}

// partialOf returns the lists with a text, in which - stands for an empty cell.
func partialOf(text string) [][]int64 {
	lists := [][]int64{nil}
	for _, letter := range []byte(text) {
		last := len(lists) - 1
		switch letter {
		case '/':
			lists = append(lists, nil)
		case '-':
			lists[last] = append(lists[last], -1)
		default:
			lists[last] = append(lists[last], int64(letter-'0'))
		}
	}
	return lists
}

// emptyOf returns a partial square of order n without any number.
func emptyOf(n int64) [][]int64 {
	lists := zeros(n)
	for _, list := range lists {
		for y := range list {
			list[y] = -1
		}
	}
	return lists
}

// copyOf returns a copy of lists.
func copyOf(lists [][]int64) [][]int64 {
	var copied [][]int64
	for _, list := range lists {
		copied = append(copied, slices.Clone(list))
	}
	return copied
}

// rowsIn returns the rows of a square.
func rowsIn(q impl.Square) [][]int64 {
	lists := zeros(q.Order)
	for x, list := range lists {
		for y := range list {
			list[y] = int64(q.Table[x][y])
		}
	}
	return lists
}

// dice tells numbers that look as if they were thrown, but are always the same.
type dice uint64

// below returns a number in 0..n - 1.
func (d *dice) below(n int64) int64 {
	*d = *d*6364136223846793005 + 1442695040888963407
	return int64(*d>>33) % n
}

// isPartialByHand tells by the definition whether lists are a partial square.
func isPartialByHand(lists [][]int64) bool {
	n := len(lists)
	if n < 1 || n > impl.MaxOrder {
		return false
	}
	for _, list := range lists {
		if len(list) != n || slices.Min(list) < -1 || slices.Max(list) >= int64(n) {
			return false
		}
	}
	for x := range n {
		for y := range n {
			for k := range n {
				if lists[x][y] >= 0 && (k != y && lists[x][k] == lists[x][y] || k != x && lists[k][y] == lists[x][y]) {
					return false
				}
			}
		}
	}
	return true
}

// candidatesByHand returns the candidates for a cell.
func candidatesByHand(lists [][]int64, i int64, j int64) []int64 {
	var list []int64
	for z := range int64(len(lists)) {
		inColumn := slices.ContainsFunc(lists, func(row []int64) bool { return row[j] == z })
		if !inColumn && !slices.Contains(lists[i], z) {
			list = append(list, z)
		}
	}
	return list
}

// eachEmpty calls each with the empty cells row by row, until it returns false.
func eachEmpty(lists [][]int64, each func(i int64, j int64) bool) {
	for i, row := range lists {
		for j, z := range row {
			if z == -1 && !each(int64(i), int64(j)) {
				return
			}
		}
	}
}

// forcedByHand returns what forcing makes of a partial square.
func forcedByHand(lists [][]int64) [][]int64 {
	forced := copyOf(lists)
	for {
		found := false
		eachEmpty(forced, func(i int64, j int64) bool {
			list := candidatesByHand(forced, i, j)
			if found = len(list) == 1; found {
				forced[i][j] = list[0]
			}
			return !found
		})
		if !found {
			return forced
		}
	}
}

// searched is what a search has come to after some trials.
type searched struct {
	first   [][]int64 // the first completion
	firstAt int       // the trials until then
	count   int64     // the completions
	trials  int       // all trials
}

// searchByHand searches for completions until it has made more than MaxTrials trials.
func searchByHand(lists [][]int64) searched {
	var s searched
	now := copyOf(lists)
	var fill func()
	fill = func() {
		isFull := true
		eachEmpty(now, func(i int64, j int64) bool {
			isFull = false
			for _, z := range candidatesByHand(now, i, j) {
				if s.trials > impl.MaxTrials {
					break
				}
				s.trials++
				now[i][j] = z
				fill()
				now[i][j] = -1
			}
			return false
		})
		if !isFull {
			return
		}
		if s.count++; s.count == 1 {
			s.first, s.firstAt = copyOf(now), s.trials
		}
	}
	fill()
	return s
}

// checkPartial checks by hand whether lists are a partial square, and all that is told of it.
func checkPartial(t *testing.T, lists [][]int64) bool {
	t.Helper()
	yes := isPartialByHand(lists)
	if is := impl.IsPartial(lists); is != yes {
		t.Errorf("IsPartial(%v) = %v", lists, is)
	}
	if !yes {
		checkNoPartial(t, lists)
		return false
	}
	n := int64(len(lists))
	for i := range n {
		for j := range n {
			want, wantCode := candidatesByHand(lists, i, j), int64(impl.ErrNone)
			if lists[i][j] >= 0 {
				want, wantCode = nil, impl.ErrState
			}
			if list, code := impl.CandidatesAt(lists, i, j); !slices.Equal(list, want) || code != wantCode {
				t.Errorf("CandidatesAt(%v, %d, %d) = %v, %d", lists, i, j, list, code)
			}
		}
	}
	forced, code := impl.ForceCells(lists)
	if !sameLists(forced, forcedByHand(lists)) || !isPartialByHand(forced) || code != impl.ErrNone {
		t.Errorf("ForceCells(%v) = %v, %d", lists, forced, code)
	}
	if again, code := impl.ForceCells(forced); !sameLists(again, forced) || code != impl.ErrNone {
		t.Errorf("ForceCells(%v) = %v, %d", forced, again, code)
	}
	return true
}

// checkNoPartial checks what the functions of a partial square return if there is none.
func checkNoPartial(t *testing.T, lists [][]int64) {
	t.Helper()
	for _, k := range []int64{0, -1, 10, math.MaxInt64} {
		if list, code := impl.CandidatesAt(lists, 0, k); len(list) != 0 || code != impl.ErrInvalid {
			t.Errorf("CandidatesAt(%v, 0, %d) = %v, %d", lists, k, list, code)
		}
	}
	if forced, code := impl.ForceCells(lists); len(forced) != 0 || code != impl.ErrInvalid {
		t.Errorf("ForceCells(%v) = %v, %d", lists, forced, code)
	}
	if q, code := impl.CompleteSquare(lists); q != (impl.Square{}) || code != impl.ErrInvalid {
		t.Errorf("CompleteSquare(%v) = %v, %d", lists, q, code)
	}
	if count, code := impl.CountCompletions(lists); count != 0 || code != impl.ErrInvalid {
		t.Errorf("CountCompletions(%v) = %d, %d", lists, count, code)
	}
}

// hasNumbersOf tells whether a square has all numbers of a partial square.
func hasNumbersOf(q impl.Square, lists [][]int64) bool {
	if q.Order != int64(len(lists)) {
		return false
	}
	for x, list := range lists {
		for y, z := range list {
			if z >= 0 && int64(q.Table[x][y]) != z {
				return false
			}
		}
	}
	return true
}

// checkCompletions checks by hand what the searches for completions come to. Promise 9: completions have the
// numbers that were there.
func checkCompletions(t *testing.T, lists [][]int64) searched {
	t.Helper()
	s := searchByHand(lists)
	var want impl.Square
	wantCode := int64(impl.ErrNone)
	switch {
	case s.count > 0 && s.firstAt <= impl.MaxTrials:
		want, _ = impl.SquareOfLists(s.first)
	case s.trials >= impl.MaxTrials:
		wantCode = impl.ErrLimit
	default:
		wantCode = impl.ErrNotFound
	}
	q, code := impl.CompleteSquare(lists)
	if q != want || code != wantCode {
		t.Errorf("CompleteSquare(%v) = %v, %d after %d trials", lists, q, code, s.trials)
	}
	if code == impl.ErrNone && (!impl.IsSquare(q) || !hasNumbersOf(q, lists)) {
		t.Errorf("CompleteSquare(%v) = %v, which is no completion", lists, q)
	}
	count, countCode := s.count, int64(impl.ErrNone)
	if s.trials > impl.MaxTrials {
		count, countCode = 0, impl.ErrLimit
	}
	if got, code := impl.CountCompletions(lists); got != count || code != countCode {
		t.Errorf("CountCompletions(%v) = %d, %d after %d trials", lists, got, code, s.trials)
	}
	return s
}

// eachSmallList calls each with all n lists of n numbers in -1..n - 1.
func eachSmallList(n int64, each func(lists [][]int64)) {
	lists := zeros(n)
	var fill func(place int64)
	fill = func(place int64) {
		if place == n*n {
			each(lists)
			return
		}
		for z := int64(-1); z < n; z++ {
			lists[place/n][place%n] = z
			fill(place + 1)
		}
	}
	fill(0)
}

// All lists of up to three numbers in their range are looked at, and all partial squares among them are completed.
func TestSmallPartialSquares(t *testing.T) {
	// Partial squares of orders 1, 2 and 3, and those with completions among them.
	for n, want := range map[int64][2]int{1: {2, 2}, 2: {35, 31}, 3: {11776, 5836}} {
		partial, completed := 0, 0
		eachSmallList(n, func(lists [][]int64) {
			if yes := isPartialByHand(lists); !yes {
				if impl.IsPartial(lists) {
					t.Errorf("IsPartial(%v) is true", lists)
				}
				return
			}
			partial++
			checkPartial(t, lists)
			completed += countOf(checkCompletions(t, lists).count > 0)
		})
		if partial != want[0] || completed != want[1] {
			t.Errorf("%d partial squares of order %d, and %d with completions", partial, n, completed)
		}
	}
}

// squaresToEmpty returns squares of all orders, with isotopes of them.
func squaresToEmpty(t *testing.T) []impl.Square {
	t.Helper()
	list := append(manySquares(t), squareOf(t, textOfParker1), squareOf(t, textOfParker2), squareOf(t, textOfHamilton9))
	for _, q := range list {
		places := somePlaces(q.Order)
		list = append(list, isotopeOf(t, q, impl.Triple{First: places[3], Second: places[1], Third: places[2]}))
	}
	return list
}

// eachEmptied calls each with partial squares that were made of squares by emptying cells. In some of them another
// number has been put in one of these, so that there may be no completion.
func eachEmptied(t *testing.T, each func(lists [][]int64)) {
	t.Helper()
	d := new(dice)
	for _, q := range squaresToEmpty(t) {
		n := q.Order
		for _, share := range []int64{1, 3, 5, 6, 7, 8, 9, 10} {
			lists := rowsIn(q)
			for place := range n * n {
				if d.below(10) < share {
					lists[place/n][place%n] = -1
				}
			}
			each(lists)
			for range 2 {
				i, j := d.below(n), d.below(n)
				if lists[i][j] >= 0 {
					continue
				}
				if list := candidatesByHand(lists, i, j); len(list) > 0 {
					lists[i][j] = list[d.below(int64(len(list)))]
					each(lists)
				}
			}
		}
	}
}

func TestEmptiedSquares(t *testing.T) {
	met := map[string]int{}
	eachEmptied(t, func(lists [][]int64) {
		if !checkPartial(t, lists) {
			t.Errorf("IsPartial(%v) is false", lists)
		}
		if len(lists) > 6 && slices.Max(slices.Concat(lists...)) < 0 {
			return
		}
		s := checkCompletions(t, lists)
		switch {
		case s.trials > impl.MaxTrials:
			met["limit"]++
		case s.count == 0:
			met["none"]++
		case s.count == 1:
			met["one"]++
		default:
			met["more"]++
		}
	})
	for _, name := range []string{"limit", "none", "one", "more"} {
		if met[name] < 10 {
			t.Errorf("the numbers of partial squares are %v", met)
		}
	}
}

// Squares without an empty cell are their only completions, after no trial.
func TestFullSquares(t *testing.T) {
	for _, q := range append(squaresToEmpty(t), loopsForNuclei(t)...) {
		lists := rowsIn(q)
		checkPartial(t, lists)
		if s := checkCompletions(t, lists); s.trials != 0 || s.count != 1 {
			t.Errorf("%v has %d completions", lists, s.count)
		}
		if again, code := impl.CompleteSquare(lists); again != q || code != impl.ErrNone {
			t.Errorf("CompleteSquare(%v) = %v, %d", lists, again, code)
		}
		if forced, code := impl.ForceCells(lists); !sameLists(forced, lists) || code != impl.ErrNone {
			t.Errorf("ForceCells(%v) = %v, %d", lists, forced, code)
		}
	}
}

func TestEmptySquares(t *testing.T) {
	firsts := []string{
		"0", "01/10", "012/120/201", "0123/1032/2301/3210", "01234/10342/23401/34120/42013",
		"012345/103254/234501/325410/450123/541032",
		"0123456/1032564/2301645/3456012/4265103/5614230/6540321",
		"01234567/10325476/23016745/32107654/45670123/54761032/67452301/76543210",
		"012345678/103254786/230167845/321078564/456780123/547806231/678412350/785631402/864523017",
		"0123456789/1032547698/2301678945/3210769854/4567890123/5476981032/6789234501/7698325410/8945012367/9854103276",
	}
	counts := []int64{1, 2, 12, 576}
	for k, first := range firsts {
		lists := emptyOf(int64(k + 1))
		checkPartial(t, lists)
		if q, code := impl.CompleteSquare(lists); q != squareOf(t, first) || code != impl.ErrNone {
			t.Errorf("CompleteSquare(%v) = %v, %d", lists, q, code)
		}
		want, wantCode := int64(0), int64(impl.ErrLimit)
		if k < len(counts) {
			want, wantCode = counts[k], impl.ErrNone
		}
		if count, code := impl.CountCompletions(lists); count != want || code != wantCode {
			t.Errorf("CountCompletions(%v) = %d, %d", lists, count, code)
		}
		if forced, code := impl.ForceCells(lists); k > 0 && !sameLists(forced, lists) || code != impl.ErrNone {
			t.Errorf("ForceCells(%v) = %v, %d", lists, forced, code)
		}
	}
}

func TestPartialSquaresOfExamples(t *testing.T) {
	cases := []struct {
		text string
		want bool
	}{
		{"0", true}, {"-", true}, {"1", false}, {"", false}, {"/", false}, {"0/", false}, {"--", false}, {"-/-", false},
		{"01/10", true}, {"00/--", false}, {"0-/0-", false}, {"0-/-0", true}, {"02/--", false}, {"-1/1-", true}, {"-1/-1", false},
		{"--/--", true}, {"--/-", false}, {"-/--", false}, {"--/---", false}, {"--/--/--", false}, {"---/---", false},
		{"0-0/---/---", false}, {"0--/---/0--", false}, {"0--/-0-/--0", true}, {"---/---/2-2", false}, {"--2/---/--2", false},
		{"0123456789/----------/----------/----------/----------/----------/----------/----------/----------/---------0", true},
		{"0123456789/----------/----------/----------/----------/----------/----------/----------/----------/---------9", false},
		{"-----------/-----------/-----------/-----------/-----------/-----------/-----------/-----------/-----------/-----------/-----------", false},
	}
	for _, c := range cases {
		if is := checkPartial(t, partialOf(c.text)); is != c.want {
			t.Errorf("IsPartial(%q) is told by hand to be %v", c.text, is)
		}
	}
	for _, lists := range [][][]int64{nil, {}, {nil}, {{}}, {nil, nil}, {{0}, nil}, {nil, {0}}} {
		if checkPartial(t, lists) {
			t.Errorf("IsPartial(%v) is true", lists)
		}
	}
}

// Lists of every length, and lists with rows of every length, are partial squares only if all have the same one.
func TestPartialSquaresOfAllLengths(t *testing.T) {
	for n := range int64(13) {
		for m := range int64(13) {
			lists := make([][]int64, n)
			for x := range lists {
				lists[x] = emptyOf(max(m, 1))[0][:m]
			}
			if checkPartial(t, lists) != (n == m && 1 <= n && n <= 10) {
				t.Errorf("%d rows of length %d", n, m)
			}
			for _, x := range []int64{0, n / 2, n - 1} {
				if n < 1 || n > 10 || n == m {
					continue
				}
				odd := emptyOf(n)
				odd[x] = lists[0]
				if checkPartial(t, odd) {
					t.Errorf("%d rows, and one of length %d", n, m)
				}
			}
		}
	}
}

// One number at a time is put in place of another one, in its range or not.
func TestPartialSquaresAfterOneChange(t *testing.T) {
	d := new(dice)
	for _, q := range append(someSquares(t), squareOf(t, textOfParker1)) {
		n := q.Order
		for _, share := range []int64{0, 5, 9} {
			lists := rowsIn(q)
			for place := range n * n {
				if d.below(10) < share {
					lists[place/n][place%n] = -1
				}
			}
			for range 10 {
				i, j := d.below(n), d.below(n)
				was := lists[i][j]
				for _, z := range []int64{-1, 0, n / 2, n - 1, n, n + 1, -2, -3, -n, -256, 10, 255, 256, 256 + n, 1 << 32, math.MaxInt64, math.MinInt64} {
					lists[i][j] = z
					if is := checkPartial(t, lists); (z < -1 || z >= n) && is {
						t.Errorf("IsPartial(%v) is true", lists)
					}
				}
				lists[i][j] = was
			}
		}
	}
}

func TestCandidatesOfExamples(t *testing.T) {
	cases := []struct {
		text string
		i, j int64
		want []int64
	}{
		{"-", 0, 0, []int64{0}},
		{"0-/--", 1, 1, []int64{0, 1}},
		{"0-/--", 0, 1, []int64{1}},
		{"--1/--2/0--", 2, 2, nil},
		{"--1/--2/0--", 0, 1, []int64{0, 2}},
		{"0123/1---/2---/3---", 1, 1, []int64{0, 2, 3}},
		{"01-3/----/----/-3-0", 2, 1, []int64{0, 2}},
		{"01-3/----/----/-3-0", 1, 2, []int64{0, 1, 2, 3}},
	}
	for _, c := range cases {
		if list, code := impl.CandidatesAt(partialOf(c.text), c.i, c.j); !slices.Equal(list, c.want) || code != impl.ErrNone {
			t.Errorf("CandidatesAt(%s, %d, %d) = %v, %d", c.text, c.i, c.j, list, code)
		}
	}
	// All rows but the last one are filled, or all columns.
	for n := int64(2); n <= impl.MaxOrder; n++ {
		rows, columns := emptyOf(n), emptyOf(n)
		for x := range n - 1 {
			for y := range n {
				rows[x][y], columns[y][x] = (x+y)%n, (x+y)%n
			}
		}
		for y := range n {
			want := []int64{(n - 1 + y) % n}
			first, a := impl.CandidatesAt(rows, n-1, y)
			second, b := impl.CandidatesAt(columns, y, n-1)
			if !slices.Equal(first, want) || !slices.Equal(second, want) || max(a, b) != impl.ErrNone {
				t.Errorf("CandidatesAt of the last row and column of order %d: %v, %d, and %v, %d", n, first, a, second, b)
			}
		}
	}
}

// That a cell is not in the square goes before that it is not empty.
func TestCandidatesErrors(t *testing.T) {
	check := func(lists [][]int64, i int64, j int64) {
		if list, code := impl.CandidatesAt(lists, i, j); len(list) != 0 || code != impl.ErrRange {
			t.Errorf("CandidatesAt(%v, %d, %d) = %v, %d", lists, i, j, list, code)
		}
	}
	for n := int64(1); n <= impl.MaxOrder; n++ {
		for _, lists := range [][][]int64{emptyOf(n), rowsIn(cyclicOf(t, n))} {
			for _, bad := range append(noNumbers(), n, n+1, -n) {
				for good := range n {
					check(lists, bad, good)
					check(lists, good, bad)
				}
				check(lists, bad, bad)
				check(lists, bad, -1)
				check(lists, n, bad)
			}
		}
	}
}

func TestForcingOfExamples(t *testing.T) {
	cases := []struct{ text, want string }{
		{"-", "0"},
		{"0", "0"},
		{"--/--", "--/--"},
		{"0-/--", "01/10"},
		{"01/10", "01/10"},
		{"01-/-2-/---", "012/120/201"},
		{"01-/2--/---", "012/201/120"},
		{"0--/-1-/---", "021/210/102"},
		{"-0-/2--/--1", "102/210/021"},
		{"012-/103-/230-/----", "0123/1032/2301/3210"},
		{"0123/1---/2---/3---", "0123/1---/2---/3---"},
		{"01-3/----/----/-3-0", "0123/----/----/2310"},
		// What is put in first decides what can be put in behind it.
		{"0--/-0-/--1", "012/10-/2-1"},
		{"--1/--2/0--", "201/1-2/0--"},
		{"--3-/-2--/2-10/-1-2", "103-/3201/2310/01-2"},
		{"3--1/----/-30-/-0--", "32-1/0123/1302/20--"},
		{"----/--21/2-1-/10--", "3102/0321/2-1-/103-"},
		{"13--/-2--/--3-/2--0", "1302/0213/-031/21-0"},
		{"-0--/--31/2-0-/---2", "1023/0231/230-/31-2"},
	}
	for _, c := range cases {
		if lists, code := impl.ForceCells(partialOf(c.text)); !sameLists(lists, partialOf(c.want)) || code != impl.ErrNone {
			t.Errorf("ForceCells(%s) = %v, %d", c.text, lists, code)
		}
	}
	// Of cyclic squares of all orders, a half is enough where it stands in the first rows and columns.
	for n := int64(1); n <= impl.MaxOrder; n++ {
		lists := rowsIn(cyclicOf(t, n))
		for x := range n {
			for y := range n {
				if x+y >= n {
					lists[x][y] = -1
				}
			}
		}
		if forced, code := impl.ForceCells(lists); !sameLists(forced, rowsIn(cyclicOf(t, n))) || code != impl.ErrNone {
			t.Errorf("ForceCells(%v) = %v, %d", lists, forced, code)
		}
	}
}

// Forcing neither loses completions nor makes new ones.
func TestForcingKeepsCompletions(t *testing.T) {
	eachEmptied(t, func(lists [][]int64) {
		if len(lists) > 5 {
			return
		}
		forced, _ := impl.ForceCells(lists)
		before, a := impl.CountCompletions(lists)
		behind, b := impl.CountCompletions(forced)
		if a == impl.ErrNone && (before != behind || b != impl.ErrNone) {
			t.Errorf("%v has %d completions, but %v has %d", lists, before, forced, behind)
		}
	})
}

func TestCompletionsOfExamples(t *testing.T) {
	cases := []struct {
		text, first string
		count       int64
	}{
		{"-", "0", 1},
		{"0", "0", 1},
		{"0-/-0", "01/10", 1},
		{"0-/-1", "", 0},
		{"01-/-2-/---", "012/120/201", 1},
		{"0--/-0-/--1", "", 0},
		{"--1/--2/0--", "", 0},
		{"---/---/---", "012/120/201", 12},
		{"0123/1---/2---/3---", "0123/1032/2301/3210", 4},
		{"01-3/----/----/-3-0", "0123/1032/3201/2310", 2},
		{"01234/1----/2----/3----/4----", "01234/10342/23401/34120/42013", 56},
	}
	for _, c := range cases {
		lists := partialOf(c.text)
		var want impl.Square
		wantCode := codeOf(c.count > 0)
		if c.count > 0 {
			want = squareOf(t, c.first)
		}
		if q, code := impl.CompleteSquare(lists); q != want || code != wantCode {
			t.Errorf("CompleteSquare(%s) = %v, %d", c.text, q, code)
		}
		if count, code := impl.CountCompletions(lists); count != c.count || code != impl.ErrNone {
			t.Errorf("CountCompletions(%s) = %d, %d", c.text, count, code)
		}
	}
}

// The first completion may come with the last trial. If there has been none by then, that the trials are at an end
// is told even if the search is, too.
func TestCompletionsAtTheLastTrial(t *testing.T) {
	cases := []struct {
		text    string
		firstAt int // 0 if there is no completion
		code    int64
	}{
		{"-------1-4/----------/----------/----------/----------/---4------/----68----/---9-----3/--2-------/--6-------", 19999, impl.ErrNone},
		{"----5-80-/---325--1/-------52/1-2-6-38-/--5--1-3-/08-714523/25-0-3---/-2-4-8765/56-832417", 19999, impl.ErrNone},
		{"-90-6--82-/--9--3-2-0/-1-0942687/0-6----73-/--5-29--1-/-42--61095/238-504-6-/-04---69--/3--9-15---/9-1302--7-", 20000, impl.ErrNone},
		{"01-----5-/1----74-2/--72--1-3/--1--2---/2---7----/-----0-27/-2-----80/--3-6-2-1/---6--3-5", 20000, impl.ErrNone},
		{"6-3-----/-57---1-/105----7/--0-156-/-1-3--40/361-----/07------/----73-4", 20001, impl.ErrLimit},
		{"---1834--/8250-----/-47--0---/-6-40----/37156-0--/2-387--15/-80--15--/-34------/41-6273-0", 20001, impl.ErrLimit},
		{"76--1-0--/2-0--4--6/-------52/436072--5/-1--8---0/82-501643/1----3-2-/-45-----8/3516----7", 0, impl.ErrNotFound},                  // 19999
		{"-63458--79/--5--9-1--/---59-1623/-7--32-418/357--698--/-3--8-7---/-92061----/9--870536-/7--6---985/-26--4---0", 0, impl.ErrLimit}, // 20000
		{"51--36-7-/--5----2-/--2-1---3/-0--2--64/1--8---0-/36-740-52/2-4085631/45-----8-/6--17-0--", 0, impl.ErrLimit},                     // 20000
		{"-6-17-0--/-1-8----0/036742--5/--0-24--6/-------52/52-081643/----13-2-/-45-----8/651-3---7", 0, impl.ErrLimit},                     // 20000
		{"-3----/1----3/-0----/3-----/---054/--3--2", 0, impl.ErrLimit},                                                                     // 20001
		{"76-1--0--/-1-8----0/-45-----8/436702--5/-------52/82-051643/1----3-2-/2-0--4--6/351-6---7", 0, impl.ErrLimit},                     // 20001
	}
	for _, c := range cases {
		lists := partialOf(c.text)
		s := checkCompletions(t, lists)
		if s.firstAt != c.firstAt {
			t.Errorf("the first completion of %s comes after %d trials", c.text, s.firstAt)
		}
		q, code := impl.CompleteSquare(lists)
		if code != c.code || hasNumbersOf(q, lists) != (code == impl.ErrNone) {
			t.Errorf("CompleteSquare(%s) = %v, %d", c.text, q, code)
		}
	}
}

// A whole search may make exactly MaxTrials trials, and not one more.
func TestCountsAtTheLastTrial(t *testing.T) {
	cases := []struct {
		text   string
		trials int
		count  int64
	}{
		{"64---2--0/7-218----/--3--1257/37-52--16/--7654--2/------0-1/----0-6--/-----0-2-/-84073-65", 19999, 99},
		{"-4--0-5---/0--9-21385/61-49538-2/4-8170-2--/1830-----7/5---3-8-91/95--1---2-/3015-7----/-25-8----0/8-236-75-4", 19999, 15},
		{"76--1-0--/2-0--4--6/-------52/436072--5/-1--8---0/82-501643/1----3-2-/-45-----8/3516----7", 19999, 0},
		{"----3-/-41-2-/-0----/5-----/-3----/-5-4--", 20000, 720},
		{"5-4-13/---5--/------/------/2---4-/3-1--4", 20000, 400},
		{"-63458--79/--5--9-1--/---59-1623/-7--32-418/357--698--/-3--8-7---/-92061----/9--870536-/7--6---985/-26--4---0", 20000, 0},
		{"-----/-----/-----/--04-/-0-2-", 20001, 672},
		{"-41-0-5/--2----/-5----2/--0--46/---32--/-2---3-/4--2---", 20001, 492},
		{"-3----/1----3/-0----/3-----/---054/--3--2", 20001, 0},
	}
	for _, c := range cases {
		lists := partialOf(c.text)
		if s := checkCompletions(t, lists); s.trials != c.trials || s.count != c.count {
			t.Errorf("%s has %d completions after %d trials", c.text, s.count, s.trials)
		}
		want, wantCode := c.count, int64(impl.ErrNone)
		if c.trials > impl.MaxTrials {
			want, wantCode = 0, impl.ErrLimit
		}
		if count, code := impl.CountCompletions(lists); count != want || code != wantCode {
			t.Errorf("CountCompletions(%s) = %d, %d", c.text, count, code)
		}
	}
}

// firstTransversals returns the transversals of a square by trial, but not more than most.
func firstTransversals(q impl.Square, most int) []impl.Places {
	var list []impl.Places
	transversalsByTrial(q, func(c impl.Places) bool {
		list = append(list, c)
		return len(list) < most
	})
	return list
}

// checkTransversals checks the transversals of a square by trial, and their number if that is to be told.
func checkTransversals(t *testing.T, q impl.Square) {
	t.Helper()
	all := math.MaxInt
	if q.Order > 9 {
		all = 401
	}
	want := firstTransversals(q, all)
	for _, p := range want {
		if !impl.IsPermutation(p, q.Order) || !isTransversalByHand(q, p) {
			t.Errorf("%v is no transversal of %v", p, q)
		}
	}
	for _, most := range []int{1, 2, len(want) - 1, len(want), len(want) + 1, 399, 400} {
		if most < 1 || most > 400 {
			continue
		}
		list, code := impl.TransversalsOf(q, int64(most))
		if !slices.Equal(list, want[:min(most, len(want))]) || code != impl.ErrNone {
			t.Errorf("TransversalsOf(%v, %d) = %v, %d", q, most, list, code)
		}
	}
	count, wantCode := int64(len(want)), int64(impl.ErrNone)
	if q.Order > 9 {
		count, wantCode = 0, impl.ErrRange
	}
	if got, code := impl.CountTransversals(q); got != count || code != wantCode {
		t.Errorf("CountTransversals(%v) = %d, %d", q, got, code)
	}
}

func TestTransversalsByTrial(t *testing.T) {
	list := append(squaresToEmpty(t), squareOf(t, textOfLateMate), squareOf(t, textOfNoMate))
	for _, q := range append(list, loopsForNuclei(t)...) {
		checkTransversals(t, q)
	}
	for _, q := range allSquaresOfOrderThree() {
		checkTransversals(t, q)
	}
	smallLoops(func(q impl.Square) { checkTransversals(t, q) })
}

func TestTransversalsOfExamples(t *testing.T) {
	cases := []struct {
		square string
		places string // the first ones
		count  int64
	}{
		{textOfOne, "0", 1},
		{"01/10", "", 0},
		{"012/120/201", "012120201", 3},
		{textOfSubtract, "021102210", 3},
		{"0123/1230/2301/3012", "", 0},
		{"0123/1032/2301/3210", "02310312120313202013213030213102", 8},
		{textOfLoop5, "021430341204321", 3},
		{"01234/12340/23401/34012/40123", "0123402413031421234013024", 15},
		{textOfLoop6, "", 0},
		{textOfTurns3, "", 0},
		{"0123456/1234560/2345601/3456012/4560123/5601234/6012345", "01234560135264014263502364150241536", 133},
		{textOfLoop7, "", 16},
		{textOfTurns4, "", 384},
		{textOfQuarters, "", 384},
		{textOfLateMate, "", 128},
		{textOfNoMate, "", 192},
		{"01234567/12345670/23456701/34567012/45670123/56701234/67012345/70123456", "", 0},
		{"012345678/123456780/234567801/345678012/456780123/567801234/678012345/780123456/801234567", "012345678012463857012537486", 2025},
		{textOfHamilton9, "", 267},
	}
	for _, c := range cases {
		q := squareOf(t, c.square)
		var want []impl.Places
		for digits := range slices.Chunk([]byte(c.places), int(q.Order)) {
			want = append(want, placesBy(q.Order, func(x byte) byte { return digits[x] - '0' }))
		}
		list, code := impl.TransversalsOf(q, max(int64(len(want)), 1))
		if c.places != "" && !slices.Equal(list, want) || int64(len(list)) != min(int64(max(len(want), 1)), c.count) || code != impl.ErrNone {
			t.Errorf("TransversalsOf(%s) = %v, %d", c.square, list, code)
		}
		if count, code := impl.CountTransversals(q); count != c.count || code != impl.ErrNone {
			t.Errorf("CountTransversals(%s) = %d, %d", c.square, count, code)
		}
	}
	// Squares of order 10 have transversals, too, although they are not counted.
	for text, places := range map[string][2]string{
		textOfParker1: {"0123456789", "3724805961"},
		textOfParker2: {"0123456798", "3715429680"},
	} {
		list, code := impl.TransversalsOf(squareOf(t, text), 400)
		if len(list) != 400 || code != impl.ErrNone {
			t.Errorf("TransversalsOf(%s) = %d, %d", text, len(list), code)
			continue
		}
		for k, p := range []impl.Places{list[0], list[399]} {
			if p != placesBy(10, func(x byte) byte { return places[k][x] - '0' }) {
				t.Errorf("TransversalsOf(%s) has %v", text, p)
			}
		}
	}
}

// Isotopes and parastrophes have as many transversals.
func TestTransversalsOfIsotopes(t *testing.T) {
	for _, q := range append(squaresToEmpty(t), squareOf(t, textOfNoMate)) {
		if q.Order > 9 {
			continue
		}
		want, code := impl.CountTransversals(q)
		places := somePlaces(q.Order)
		list := []impl.Square{
			isotopeOf(t, q, impl.Triple{First: places[1], Second: places[3], Third: places[2]}),
			isotopeOf(t, q, impl.Triple{First: places[3], Second: places[2], Third: places[3]}),
		}
		for k := range int64(6) {
			list = append(list, parastropheIn(t, q, k))
		}
		for _, r := range list {
			if count, other := impl.CountTransversals(r); count != want || max(code, other) != impl.ErrNone {
				t.Errorf("CountTransversals(%v) = %d, %d, but of %v it is %d, %d", q, want, code, r, count, other)
			}
		}
	}
}

// Promise 15: normal orthomorphisms are as many as transversals tell: those of a group are as many as the
// transversals that begin with one place, whichever this is.
func TestTransversalsOfGroups(t *testing.T) {
	for _, g := range manyGroups(t, impl.MaxOrder) {
		normal, a := impl.NormalOrthomorphisms(g)
		if g.Order > 9 {
			if list, b := impl.TransversalsOf(g, 400); len(list) != 0 || len(normal) != 0 || max(a, b) != impl.ErrNone {
				t.Errorf("TransversalsOf(%v) = %v, %d, and there are %d normal orthomorphisms", g, list, b, len(normal))
			}
			continue
		}
		count, b := impl.CountTransversals(g)
		if count != int64(len(normal))*g.Order || max(a, b) != impl.ErrNone {
			t.Errorf("CountTransversals(%v) = %d, %d, and there are %d normal orthomorphisms", g, count, b, len(normal))
		}
		list, b := impl.TransversalsOf(g, 400)
		if count > 400 {
			continue
		}
		var begin [impl.MaxOrder]int
		for _, p := range list {
			begin[p[0]]++
		}
		for _, number := range begin[:g.Order] {
			if number != len(normal) || max(a, b) != impl.ErrNone {
				t.Errorf("TransversalsOf(%v): the numbers are %v, and there are %d normal orthomorphisms", g, begin, len(normal))
			}
		}
	}
}

func TestTransversalsErrors(t *testing.T) {
	check := func(q impl.Square, most int64, want int64) {
		if list, code := impl.TransversalsOf(q, most); len(list) != 0 || code != want {
			t.Errorf("TransversalsOf(%v, %d) = %v, %d", q, most, list, code)
		}
	}
	bad := []int64{0, -1, -400, 401, 402, 1000, 256 + 400, 1 << 32, 1<<32 + 1, math.MaxInt64, math.MinInt64}
	for _, q := range noSquares(t) {
		for _, most := range append([]int64{1, 400}, bad...) {
			check(q, most, impl.ErrInvalid)
		}
		if count, code := impl.CountTransversals(q); count != 0 || code != impl.ErrInvalid {
			t.Errorf("CountTransversals(%v) = %d, %d", q, count, code)
		}
	}
	for _, q := range manySquares(t) {
		for _, most := range bad {
			check(q, most, impl.ErrRange)
		}
	}
}

// areOrthogonalByHand tells whether two squares of the same order are orthogonal.
func areOrthogonalByHand(q impl.Square, r impl.Square) bool {
	met := map[[2]byte]bool{}
	for x := range q.Order {
		for y := range q.Order {
			met[[2]byte{q.Table[x][y], r.Table[x][y]}] = true
		}
	}
	return len(met) == int(q.Order*q.Order)
}

func TestOrthogonalSquaresByHand(t *testing.T) {
	met := map[int64]map[bool]int{}
	list := append(squaresToEmpty(t), allSquaresOfOrderThree()...)
	for _, p := range []int64{3, 5, 7, 9} {
		for k := range p {
			list = append(list, linearOf(p, 1, 2, k), linearOf(p, 2, 1, k), linearOf(p, p-1, 2, k))
		}
	}
	for _, q := range list {
		for _, r := range list {
			want, wantCode := false, int64(impl.ErrNone)
			if q.Order != r.Order {
				wantCode = impl.ErrRange
			} else {
				want = areOrthogonalByHand(q, r)
				if met[q.Order] == nil {
					met[q.Order] = map[bool]int{}
				}
				met[q.Order][want]++
			}
			if yes, code := impl.AreOrthogonal(q, r); yes != want || code != wantCode {
				t.Errorf("AreOrthogonal(%v, %v) = %v, %d", q, r, yes, code)
			}
		}
	}
	for _, n := range []int64{3, 5, 7, 9, 10} {
		if met[n][true] == 0 || met[n][false] == 0 {
			t.Errorf("the numbers of pairs are %v", met)
		}
	}
	if met[1][true] == 0 || met[1][false] != 0 {
		t.Errorf("the numbers of pairs are %v", met)
	}
}

func TestOrthogonalSquaresOfExamples(t *testing.T) {
	cases := []struct {
		first, second string
		want          bool
	}{
		{textOfOne, textOfOne, true},
		{"01/10", "01/10", false},
		{"01/10", "10/01", false},
		{"012/120/201", textOfSubtract, true},
		{"012/120/201", "012/201/120", true},
		{"012/120/201", "120/201/012", false},
		{"0123/1032/2301/3210", "0123/2301/3210/1032", true},
		{"0123/1032/2301/3210", "0123/3210/1032/2301", true},
		{"0123/2301/3210/1032", "0123/3210/1032/2301", true},
		{"0123/1032/2301/3210", "0123/1032/3210/2301", false},
		{textOfParker1, textOfParker2, true},
		{textOfParker1, textOfParker1, false},
	}
	for _, c := range cases {
		q, r := squareOf(t, c.first), squareOf(t, c.second)
		for _, pair := range [][2]impl.Square{{q, r}, {r, q}} {
			if yes, code := impl.AreOrthogonal(pair[0], pair[1]); yes != c.want || code != impl.ErrNone {
				t.Errorf("AreOrthogonal(%v, %v) = %v, %d", pair[0], pair[1], yes, code)
			}
		}
	}
}

// That one of them is no square goes before that their orders are different.
func TestOrthogonalSquaresErrors(t *testing.T) {
	check := func(q impl.Square, r impl.Square, want int64) {
		if yes, code := impl.AreOrthogonal(q, r); yes || code != want {
			t.Errorf("AreOrthogonal(%v, %v) = %v, %d", q, r, yes, code)
		}
	}
	for _, bad := range noSquares(t) {
		for n := int64(1); n <= impl.MaxOrder; n++ {
			check(bad, cyclicOf(t, n), impl.ErrInvalid)
			check(cyclicOf(t, n), bad, impl.ErrInvalid)
		}
		check(bad, bad, impl.ErrInvalid)
	}
	check(cyclicOf(t, 1), cyclicOf(t, 10), impl.ErrRange)
	check(cyclicOf(t, 10), cyclicOf(t, 9), impl.ErrRange)
}

// mateByHand returns the mate of a square, the code, and the number of trials until then. The places that are
// taken are those of the mate that have a number.
func mateByHand(q impl.Square) (impl.Square, int64, int) {
	n := int(q.Order)
	transversals := firstTransversals(q, math.MaxInt)
	mate := emptyOf(q.Order)
	trials := 0
	var take func(k int) bool
	take = func(k int) bool {
		if k == n {
			return true
		}
		for _, p := range transversals {
			isFree := int(p[0]) == k
			for x := range n {
				isFree = isFree && mate[x][p[x]] < 0
			}
			if !isFree {
				continue
			}
			if trials++; trials > impl.MaxTrials {
				return false
			}
			for x := range n {
				mate[x][p[x]] = int64(k)
			}
			if take(k + 1) {
				return true
			}
			for x := range n {
				mate[x][p[x]] = -1
			}
		}
		return false
	}
	found := take(0)
	switch {
	case trials > impl.MaxTrials:
		return impl.Square{}, impl.ErrLimit, trials
	case !found:
		return impl.Square{}, impl.ErrNotFound, trials
	}
	r := impl.Square{Order: q.Order}
	for x := range n {
		for y := range n {
			r.Table[x][y] = byte(mate[x][y])
		}
	}
	return r, impl.ErrNone, trials
}

// checkMate checks the mate of a square by hand. Promise 9: mates are orthogonal.
func checkMate(t *testing.T, q impl.Square) int64 {
	t.Helper()
	want, wantCode, trials := mateByHand(q)
	mate, code := impl.MateOf(q)
	if mate != want || code != wantCode {
		t.Errorf("MateOf(%v) = %v, %d after %d trials", q, mate, code, trials)
	}
	if code != impl.ErrNone {
		return code
	}
	if yes, other := impl.AreOrthogonal(q, mate); !yes || !impl.IsSquare(mate) || other != impl.ErrNone {
		t.Errorf("MateOf(%v) = %v, which is not orthogonal", q, mate)
	}
	// Each transversal begins with the number for which it was taken.
	if impl.Places(mate.Table[0][:]) != unchanged(q.Order) {
		t.Errorf("MateOf(%v) = %v", q, mate)
	}
	return code
}

func TestMatesByHand(t *testing.T) {
	met := map[int64]map[int64]int{}
	check := func(q impl.Square) {
		if q.Order > 8 {
			return
		}
		if met[q.Order] == nil {
			met[q.Order] = map[int64]int{}
		}
		met[q.Order][checkMate(t, q)]++
	}
	list := append(squaresToEmpty(t), squareOf(t, textOfLateMate), squareOf(t, textOfNoMate))
	for _, q := range append(list, append(allSquaresOfOrderThree(), loopsForNuclei(t)...)...) {
		check(q)
	}
	for _, g := range manyGroups(t, 8) {
		check(g)
	}
	smallLoops(check)
	for n := int64(1); n <= 8; n++ {
		// There is one for each order but 2 and 6.
		if (met[n][impl.ErrNone] > 0) != (n != 2 && n != 6) || (met[n][impl.ErrNotFound] > 0) != (n != 1 && n != 3) {
			t.Errorf("of squares of order %d: the codes are %v", n, met[n])
		}
	}
}

// No square of order 6 has a mate.
func TestMatesOfOrder6(t *testing.T) {
	allLoops(6, func(q impl.Square) {
		if mate, code := impl.MateOf(q); mate != (impl.Square{}) || code != impl.ErrNotFound {
			t.Errorf("MateOf(%v) = %v, %d", q, mate, code)
		}
	})
}

func TestMatesOfExamples(t *testing.T) {
	cases := []struct{ square, mate string }{
		{textOfOne, "0"},
		{"01/10", ""},
		{"012/120/201", "012/201/120"},
		{textOfSubtract, "012/120/201"},
		{"0123/1032/2301/3210", "0123/2301/3210/1032"},
		{"0123/1230/2301/3012", ""},
		{"01234/12340/23401/34012/40123", "01234/40123/34012/23401/12340"},
		{"02413/41302/30241/24130/13024", "01234/40123/34012/23401/12340"},
		{textOfLoop5, ""},
		{textOfSquare5, ""},
		{textOfLoop6, ""},
		{textOfLoop7, ""},
		{"0123456/1234560/2345601/3456012/4560123/5601234/6012345", "0123456/6012345/5601234/4560123/3456012/2345601/1234560"},
		{
			"01234567/10325476/23016745/32107654/45670123/54761032/67452301/76543210",
			"01234567/23016745/45670123/67452301/32107654/10325476/76543210/54761032",
		},
		{textOfTurns4, "01234567/30127456/45670123/74563012/12305674/23016745/56741230/67452301"},
		{textOfQuarters, "01234567/23016745/45670123/67452301/10327654/32105476/76541032/54763210"},
		{textOfLateMate, "01234567/16527403/70415326/32106745/23071654/64350271/57643012/45762130"},
		{textOfNoMate, ""},
		{
			"16374502/43621057/57260413/21053764/75142630/30416275/64507321/02735146",
			"01234567/67325401/15062374/36571042/42156730/53740126/20417653/74603215",
		},
	}
	for _, c := range cases {
		var want impl.Square
		wantCode := codeOf(c.mate != "")
		if c.mate != "" {
			want = squareOf(t, c.mate)
		}
		if mate, code := impl.MateOf(squareOf(t, c.square)); mate != want || code != wantCode {
			t.Errorf("MateOf(%s) = %v, %d", c.square, mate, code)
		}
	}
}

func TestMatesErrors(t *testing.T) {
	check := func(q impl.Square, want int64) {
		if mate, code := impl.MateOf(q); mate != (impl.Square{}) || code != want {
			t.Errorf("MateOf(%v) = %v, %d", q, mate, code)
		}
	}
	for _, q := range noSquares(t) {
		check(q, impl.ErrInvalid)
	}
	// They have no mate, or one, but their orders are too great.
	for _, q := range append(squaresToEmpty(t), loopsForNuclei(t)...) {
		if q.Order > 8 {
			check(q, impl.ErrRange)
		}
	}
}

// rowPairs calls each with all pairs of different rows.
func rowPairs(q impl.Square, each func(a byte, b byte)) {
	for a := range byte(q.Order) {
		for b := range byte(q.Order) {
			if a != b {
				each(a, b)
			}
		}
	}
}

// cycleByHand returns the set of the entries of the cycle of two rows at a column.
func cycleByHand(q impl.Square, a byte, b byte, c byte) uint {
	set := uint(1) << q.Table[a][c]
	for range q.Order {
		for y := range q.Order {
			if set>>q.Table[a][y]&1 == 1 {
				set |= 1 << q.Table[b][y]
			}
		}
	}
	return set
}

// cyclesByHand returns the numbers of elements of the cycles of two rows in ascending order.
func cyclesByHand(q impl.Square, a byte, b byte) []int64 {
	var sets []uint
	var list []int64
	for c := range byte(q.Order) {
		if set := cycleByHand(q, a, b, c); !slices.Contains(sets, set) {
			sets = append(sets, set)
			list = append(list, int64(len(numbersIn(set))))
		}
	}
	slices.Sort(list)
	return list
}

// switchedByHand returns the square in which a cycle has been switched.
func switchedByHand(q impl.Square, a byte, b byte, c byte) impl.Square {
	set := cycleByHand(q, a, b, c)
	r := q
	for y := range q.Order {
		if set>>q.Table[a][y]&1 == 1 {
			r.Table[a][y], r.Table[b][y] = q.Table[b][y], q.Table[a][y]
		}
	}
	return r
}

// checkCycles checks the cycles of all rows of a square by hand, and tells how many pairs of rows have one alone.
// Promise 9: switches undo themselves.
func checkCycles(t *testing.T, q impl.Square) int {
	t.Helper()
	single, pairs := 0, 0
	rowPairs(q, func(a byte, b byte) {
		want := cyclesByHand(q, a, b)
		pairs++
		single += countOf(len(want) == 1)
		list, code := impl.RowCycles(q, a, b)
		if !slices.Equal(list, want) || code != impl.ErrNone {
			t.Errorf("RowCycles(%v, %d, %d) = %v, %d", q, a, b, list, code)
		}
		for c := range byte(q.Order) {
			r, code := impl.SwitchCycle(q, a, b, c)
			if r != switchedByHand(q, a, b, c) || !impl.IsSquare(r) || r == q || code != impl.ErrNone {
				t.Errorf("SwitchCycle(%v, %d, %d, %d) = %v, %d", q, a, b, c, r, code)
			}
			if again, code := impl.SwitchCycle(r, a, b, c); again != q || code != impl.ErrNone {
				t.Errorf("SwitchCycle(%v, %d, %d, %d) = %v, %d", r, a, b, c, again, code)
			}
		}
	})
	if yes, code := impl.IsRowHamiltonian(q); yes != (single == pairs) || code != impl.ErrNone {
		t.Errorf("IsRowHamiltonian(%v) = %v, %d", q, yes, code)
	}
	return single
}

func TestCyclesByHand(t *testing.T) {
	list := append(squaresToEmpty(t), squareOf(t, textOfLateMate), squareOf(t, textOfNoMate))
	for _, q := range append(list, append(allSquaresOfOrderThree(), loopsForNuclei(t)...)...) {
		checkCycles(t, q)
	}
	smallLoops(func(q impl.Square) { checkCycles(t, q) })
}

func TestCyclesOfExamples(t *testing.T) {
	cases := []struct {
		square string
		a, b   byte
		want   []int64
	}{
		{"01/10", 0, 1, []int64{2}},
		{"012/120/201", 2, 1, []int64{3}},
		{"0123/1230/2301/3012", 0, 2, []int64{2, 2}},
		{"0123/1230/2301/3012", 0, 1, []int64{4}},
		{textOfLoop5, 0, 1, []int64{2, 3}},
		{textOfLoop5, 1, 2, []int64{5}},
		{textOfLoop6, 0, 3, []int64{2, 2, 2}},
		{textOfLoop6, 0, 1, []int64{3, 3}},
		{textOfLoop6, 1, 4, []int64{6}},
		{textOfLoop7, 0, 1, []int64{2, 2, 3}},
		{textOfLoop7, 0, 2, []int64{2, 5}},
		{textOfQuarters, 0, 2, []int64{4, 4}},
		{textOfLateMate, 0, 2, []int64{8}},
		{textOfHamilton9, 3, 7, []int64{9}},
		{textOfParker1, 0, 1, []int64{2, 8}},
		{textOfParker1, 0, 8, []int64{2, 4, 4}},
		{textOfParker1, 0, 9, []int64{10}},
	}
	for _, c := range cases {
		q := squareOf(t, c.square)
		if list, code := impl.RowCycles(q, c.a, c.b); !slices.Equal(list, c.want) || code != impl.ErrNone {
			t.Errorf("RowCycles(%s, %d, %d) = %v, %d", c.square, c.a, c.b, list, code)
		}
		if list, code := impl.RowCycles(q, c.b, c.a); !slices.Equal(list, c.want) || code != impl.ErrNone {
			t.Errorf("RowCycles(%s, %d, %d) = %v, %d", c.square, c.b, c.a, list, code)
		}
	}
}

func TestSwitchesOfExamples(t *testing.T) {
	cases := []struct {
		square  string
		a, b, c byte
		want    string
	}{
		{"01/10", 0, 1, 0, "10/01"},
		{"01/10", 1, 0, 1, "10/01"},
		{"012/120/201", 0, 2, 1, "201/120/012"},
		{"0123/1230/2301/3012", 0, 2, 1, "0321/1230/2103/3012"},
		{"0123/1230/2301/3012", 2, 0, 0, "2103/1230/0321/3012"},
		{"0123/1230/2301/3012", 0, 1, 3, "1230/0123/2301/3012"},
		{textOfLoop5, 0, 1, 0, "10234/01342/24013/32401/43120"},
		{textOfLoop5, 0, 1, 4, "01342/10234/24013/32401/43120"},
		{textOfLoop5, 1, 2, 0, "01234/24013/10342/32401/43120"},
		{textOfLoop6, 3, 0, 5, "015342/120453/201534/342015/453201/534120"},
	}
	for _, c := range cases {
		if r, code := impl.SwitchCycle(squareOf(t, c.square), c.a, c.b, c.c); r != squareOf(t, c.want) || code != impl.ErrNone {
			t.Errorf("SwitchCycle(%s, %d, %d, %d) = %v, %d", c.square, c.a, c.b, c.c, r, code)
		}
	}
}

func TestRowHamiltonianSquares(t *testing.T) {
	for n := int64(1); n <= impl.MaxOrder; n++ {
		isPrime := n == 2 || n == 3 || n == 5 || n == 7
		if yes, code := impl.IsRowHamiltonian(cyclicOf(t, n)); yes != (isPrime || n == 1) || code != impl.ErrNone {
			t.Errorf("IsRowHamiltonian of the cyclic square of order %d is %v, %d", n, yes, code)
		}
	}
	if checkCycles(t, squareOf(t, textOfHamilton9)) != 72 {
		t.Errorf("%s has rows with more than one cycle", textOfHamilton9)
	}
	// One pair of rows alone has more than one cycle, whichever these are.
	q := squareOf(t, "0123456/1234560/2045613/3562041/4356102/5601234/6410325")
	for a := range 7 {
		for b := range a {
			r := q
			r.Table[b], r.Table[5] = r.Table[5], r.Table[b]
			r.Table[a], r.Table[6] = r.Table[6], r.Table[a]
			if checkCycles(t, r) != 40 {
				t.Errorf("%v has more pairs of rows with more than one cycle", r)
			}
		}
	}
	// What holds for rows need not hold for columns.
	if yes, code := impl.IsRowHamiltonian(oppositeIn(t, squareOf(t, textOfHamilton9))); yes || code != impl.ErrNone {
		t.Errorf("IsRowHamiltonian of the opposite of %s is %v, %d", textOfHamilton9, yes, code)
	}
	// One cycle in all columns is an odd permutation for an even order, so that three rows cannot all have them.
	allLoops(6, func(q impl.Square) {
		if yes, code := impl.IsRowHamiltonian(q); yes || code != impl.ErrNone {
			t.Errorf("IsRowHamiltonian(%v) = %v, %d", q, yes, code)
		}
	})
}

// That an element is none, or that two rows are equal, is told in the same way, but behind that there is no square.
func TestCyclesErrors(t *testing.T) {
	check := func(q impl.Square, a byte, b byte, c byte, want int64, alsoRows bool) {
		t.Helper()
		if r, code := impl.SwitchCycle(q, a, b, c); r != (impl.Square{}) || code != want {
			t.Errorf("SwitchCycle(%v, %d, %d, %d) = %v, %d", q, a, b, c, r, code)
		}
		if !alsoRows {
			return
		}
		if list, code := impl.RowCycles(q, a, b); len(list) != 0 || code != want {
			t.Errorf("RowCycles(%v, %d, %d) = %v, %d", q, a, b, list, code)
		}
	}
	for _, q := range noSquares(t) {
		for _, a := range []byte{0, 1, 9, 10, 255} {
			for _, b := range []byte{0, 1, 10} {
				check(q, a, b, 0, impl.ErrInvalid, true)
				check(q, a, b, 255, impl.ErrInvalid, true)
			}
		}
		if yes, code := impl.IsRowHamiltonian(q); yes || code != impl.ErrInvalid {
			t.Errorf("IsRowHamiltonian(%v) = %v, %d", q, yes, code)
		}
	}
	for n := int64(1); n <= impl.MaxOrder; n++ {
		q := cyclicOf(t, n)
		for a := range byte(n) {
			check(q, a, a, 0, impl.ErrRange, true)
			check(q, a, a, byte(n), impl.ErrRange, true)
			for _, bad := range []byte{byte(n), byte(n) + 1, 10, 11, 128, 255} {
				if int64(bad) < n {
					continue
				}
				check(q, a, bad, 0, impl.ErrRange, true)
				check(q, bad, a, 0, impl.ErrRange, true)
				check(q, bad, bad, 0, impl.ErrRange, true)
				check(q, a, byte(n)-1-a, bad, impl.ErrRange, false)
				check(q, 0, byte(n)-1, bad, impl.ErrRange, false)
			}
		}
	}
}

// isIntercalateByHand tells by the definition whether a list of elements is an intercalate.
func isIntercalateByHand(q impl.Square, list []int64) bool {
	a, b, c, d := list[0], list[1], list[2], list[3]
	return a < b && c < d && q.Table[a][c] == q.Table[b][d] && q.Table[a][d] == q.Table[b][c]
}

// intercalatesByHand returns all intercalates in lexicographic order.
func intercalatesByHand(q impl.Square) [][]int64 {
	var lists [][]int64
	n := q.Order
	for k := range n * n * n * n {
		if list := []int64{k / n / n / n, k / n / n % n, k / n % n, k % n}; isIntercalateByHand(q, list) {
			lists = append(lists, list)
		}
	}
	return lists
}

// checkIntercalates checks the intercalates of a square by hand, and switches them. Promise 9: switches undo
// themselves.
func checkIntercalates(t *testing.T, q impl.Square) int {
	t.Helper()
	want := intercalatesByHand(q)
	lists, code := impl.IntercalatesOf(q)
	if !sameLists(lists, want) || code != impl.ErrNone {
		t.Errorf("IntercalatesOf(%v) = %v, %d", q, lists, code)
	}
	for _, list := range want {
		a, b, c, d := byte(list[0]), byte(list[1]), byte(list[2]), byte(list[3])
		r, code := impl.SwitchIntercalate(q, list)
		switched := q
		switched.Table[a][c], switched.Table[a][d] = q.Table[a][d], q.Table[a][c]
		switched.Table[b][c], switched.Table[b][d] = q.Table[b][d], q.Table[b][c]
		if r != switched || !impl.IsSquare(r) || code != impl.ErrNone {
			t.Errorf("SwitchIntercalate(%v, %v) = %v, %d", q, list, r, code)
		}
		if again, code := impl.SwitchIntercalate(r, list); again != q || code != impl.ErrNone {
			t.Errorf("SwitchIntercalate(%v, %v) = %v, %d", r, list, again, code)
		}
		// It is a cycle of its two columns.
		for _, column := range []byte{c, d} {
			if same, code := impl.SwitchCycle(q, a, b, column); same != r || code != impl.ErrNone {
				t.Errorf("SwitchCycle(%v, %d, %d, %d) = %v, %d", q, a, b, column, same, code)
			}
		}
	}
	// All cycles of two elements are intercalates.
	ofTwo := 0
	rowPairs(q, func(a byte, b byte) {
		cycles, _ := impl.RowCycles(q, a, b)
		for _, length := range cycles {
			ofTwo += countOf(length == 2)
		}
	})
	if ofTwo != 2*len(want) {
		t.Errorf("%v has %d intercalates, and %d cycles of two elements", q, len(want), ofTwo)
	}
	return len(want)
}

func TestIntercalatesByHand(t *testing.T) {
	list := append(squaresToEmpty(t), squareOf(t, textOfLateMate), squareOf(t, textOfNoMate))
	for _, q := range append(list, append(allSquaresOfOrderThree(), loopsForNuclei(t)...)...) {
		checkIntercalates(t, q)
	}
	smallLoops(func(q impl.Square) { checkIntercalates(t, q) })
}

func TestIntercalatesOfExamples(t *testing.T) {
	cases := []struct {
		square string
		want   [][]int64
	}{
		{textOfOne, nil},
		{"01/10", [][]int64{{0, 1, 0, 1}}},
		{"012/120/201", nil},
		{"0123/1230/2301/3012", [][]int64{{0, 2, 0, 2}, {0, 2, 1, 3}, {1, 3, 0, 2}, {1, 3, 1, 3}}},
		{textOfLoop5, [][]int64{{0, 1, 0, 1}, {0, 2, 0, 2}, {0, 3, 0, 3}, {0, 4, 0, 4}}},
		{textOfLoop6, [][]int64{
			{0, 3, 0, 3}, {0, 3, 1, 4}, {0, 3, 2, 5}, {0, 4, 0, 4}, {0, 4, 1, 5}, {0, 4, 2, 3}, {0, 5, 0, 5}, {0, 5, 1, 3}, {0, 5, 2, 4},
		}},
		{"0123/1032/2301/3210", [][]int64{
			{0, 1, 0, 1}, {0, 1, 2, 3}, {0, 2, 0, 2}, {0, 2, 1, 3}, {0, 3, 0, 3}, {0, 3, 1, 2},
			{1, 2, 0, 3}, {1, 2, 1, 2}, {1, 3, 0, 2}, {1, 3, 1, 3}, {2, 3, 0, 1}, {2, 3, 2, 3},
		}},
	}
	for _, c := range cases {
		if lists, code := impl.IntercalatesOf(squareOf(t, c.square)); !sameLists(lists, c.want) || code != impl.ErrNone {
			t.Errorf("IntercalatesOf(%s) = %v, %d", c.square, lists, code)
		}
	}
	counts := map[string]int{
		textOfTurns3: 27, textOfLoop7: 10, textOfTurns4: 80, textOfQuarters: 16, textOfLateMate: 28, textOfNoMate: 88,
		"01234567/10325476/23016745/32107654/45670123/54761032/67452301/76543210": 112, textOfParker1: 28, textOfParker2: 28,
	}
	for text, want := range counts {
		if lists, code := impl.IntercalatesOf(squareOf(t, text)); len(lists) != want || code != impl.ErrNone {
			t.Errorf("IntercalatesOf(%s) = %d, %d", text, len(lists), code)
		}
	}
	for n := int64(1); n <= impl.MaxOrder; n++ {
		want := 0
		if n%2 == 0 {
			want = int(n * n / 4)
		}
		if checkIntercalates(t, cyclicOf(t, n)) != want {
			t.Errorf("the cyclic square of order %d has no %d intercalates", n, want)
		}
	}
}

// All lists of four elements are asked, and those out of the range. That a list is not in its range goes before that
// it is no intercalate.
func TestIntercalatesErrors(t *testing.T) {
	check := func(q impl.Square, list []int64, want int64) {
		t.Helper()
		if r, code := impl.SwitchIntercalate(q, list); r != (impl.Square{}) || code != want {
			t.Errorf("SwitchIntercalate(%v, %v) = %v, %d", q, list, r, code)
		}
	}
	for _, q := range noSquares(t) {
		for _, list := range [][]int64{nil, {0, 1, 0, 1}, {1, 0, 0, 1}, {0, 1, 0, 10}, {0, 1, 0}} {
			check(q, list, impl.ErrInvalid)
		}
		if lists, code := impl.IntercalatesOf(q); len(lists) != 0 || code != impl.ErrInvalid {
			t.Errorf("IntercalatesOf(%v) = %v, %d", q, lists, code)
		}
	}
	for _, q := range append(manySquares(t), squareOf(t, textOfTurns4)) {
		for length := range 8 {
			if length != 4 {
				check(q, []int64{0, 1, 0, 1, 0, 1, 0, 1}[:length], impl.ErrRange)
				check(q, numbersTo(10)[:length], impl.ErrRange)
			}
		}
		n := q.Order
		for _, bad := range append(noNumbers(), n, n+1) {
			for _, list := range [][]int64{{bad, 1, 0, 1}, {0, bad, 0, 1}, {0, 1, bad, 1}, {0, 1, 0, bad}, {bad, bad, bad, bad}, {0, bad, 0, bad}, {bad, bad + 1, 0, 1}} {
				check(q, list, impl.ErrRange)
			}
		}
		for k := range n * n * n * n {
			list := []int64{k / n / n / n, k / n / n % n, k / n % n, k % n}
			switch {
			case list[0] >= list[1] || list[2] >= list[3]:
				check(q, list, impl.ErrRange)
			case !isIntercalateByHand(q, list):
				check(q, list, impl.ErrState)
			}
		}
	}
}

func TestSearchesKeepTheirLists(t *testing.T) {
	eachEmptied(t, func(lists [][]int64) {
		if len(lists) > 7 && slices.Max(slices.Concat(lists...)) < 0 {
			return
		}
		for _, some := range [][][]int64{lists, lists[1:]} {
			checkKept(t, some, func(lists [][]int64) {
				impl.IsPartial(lists)
				impl.CandidatesAt(lists, 0, 0)
				impl.ForceCells(lists)
				impl.CompleteSquare(lists)
				impl.CountCompletions(lists)
			})
		}
	})
	for _, list := range [][]int64{{0, 1, 0, 1}, {0, 1, 2, 3}, {0, 1, 0, 2}, {1, 0, 2, 1}, {0, 1, 2}, nil} {
		checkKept(t, [][]int64{list}, func(lists [][]int64) { impl.SwitchIntercalate(elementaryOf(t, 3), lists[0]) })
	}
}

func TestSearchesShareNoMemory(t *testing.T) {
	alone := func(list []int64, _ int64) [][]int64 { return [][]int64{list} }
	first := func(lists [][]int64, _ int64) [][]int64 { return lists }
	q := elementaryOf(t, 3)
	calls := map[string]func() [][]int64{
		"IntercalatesOf": func() [][]int64 { return first(impl.IntercalatesOf(q)) },
		"RowCycles":      func() [][]int64 { return alone(impl.RowCycles(q, 0, 1)) },
	}
	for _, text := range []string{"0-1/---/---", "01-/-2-/---", "012/120/201"} {
		lists := partialOf(text)
		calls["ForceCells "+text] = func() [][]int64 { return first(impl.ForceCells(lists)) }
	}
	empty := emptyOf(10)
	calls["CandidatesAt"] = func() [][]int64 { return alone(impl.CandidatesAt(empty, 3, 4)) }
	for name, call := range calls {
		checkApart(t, name, call)
	}
	list, _ := impl.TransversalsOf(q, 400)
	kept := slices.Clone(list)
	for k := range list[:cap(list)] {
		list[:cap(list)][k] = impl.Places{7}
	}
	if again, code := impl.TransversalsOf(q, 400); !slices.Equal(again, kept) || code != impl.ErrNone {
		t.Errorf("a later call of TransversalsOf returns %v, %d", again, code)
	}
}
