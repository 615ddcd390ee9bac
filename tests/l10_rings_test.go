package tests

import (
	"math"
	"slices"
	"testing"

	"loop.example/g01195/impl"
)

func TestMaxSums(t *testing.T) {
	if impl.MaxSums != 20000 {
		t.Errorf("MaxSums is %d", impl.MaxSums)
	}
}

// ringPrimes are the primes of loop rings.
func ringPrimes() []int64 { return []int64{2, 3, 5, 7} }

// sumsOf returns the sums with a text, in which they are separated by /.
func sumsOf(text string) [][]int64 {
	if text == "" {
		return nil
	}
	return partialOf(text)
}

// sumOf returns the sum with a text.
func sumOf(text string) []int64 { return sumsOf(text)[0] }

// countOfSums returns the number of sums of a loop of order n for p.
func countOfSums(n int64, p int64) int64 {
	count := int64(1)
	for range n {
		count *= p
	}
	return count
}

// eachSum calls each with all sums of a loop of order n for p in lexicographic order.
func eachSum(n int64, p int64, each func(a []int64)) {
	for k := range countOfSums(n, p) {
		a := make([]int64, n)
		for place := range slices.Backward(a) {
			a[place] = k % p
			k /= p
		}
		each(a)
	}
}

// thrownSum returns a sum that looks as if it was thrown.
func thrownSum(d *dice, n int64, p int64) []int64 {
	a := make([]int64, n)
	for x := range a {
		a[x] = d.below(p)
	}
	return a
}

// once returns the sum of n coefficients that has x once.
func once(n int64, x int64) []int64 {
	a := make([]int64, n)
	a[x] = 1
	return a
}

// withTimes returns a with some times b.
func withTimes(p int64, a []int64, times int64, b []int64) []int64 {
	sum := slices.Clone(a)
	for x := range sum {
		sum[x] = ((sum[x]+times*b[x])%p + p) % p
	}
	return sum
}

// isNull tells whether a sum is 0.
func isNull(a []int64) bool { return slices.Min(a) == 0 && slices.Max(a) == 0 }

// productByHand returns the product of a and b.
func productByHand(q impl.Square, p int64, a []int64, b []int64) []int64 {
	c := make([]int64, q.Order)
	for x := range q.Order {
		for y := range q.Order {
			c[q.Table[x][y]] += a[x] * b[y]
		}
	}
	for z := range c {
		c[z] %= p
	}
	return c
}

// associatorByHand returns the associator of a, b and c.
func associatorByHand(q impl.Square, p int64, a []int64, b []int64, c []int64) []int64 {
	left := productByHand(q, p, productByHand(q, p, a, b), c)
	return withTimes(p, left, -1, productByHand(q, p, a, productByHand(q, p, b, c)))
}

// powerByHand returns the power of a with k factors.
func powerByHand(q impl.Square, p int64, a []int64, k int64) []int64 {
	power := once(q.Order, 0)
	for range k {
		power = productByHand(q, p, power, a)
	}
	return power
}

// rankByHand returns how many of some rows are needed to make all of them. Each one that is kept begins at
// another place.
func rankByHand(p int64, rows [][]int64) int {
	kept := map[int][]int64{}
	for _, row := range rows {
		for k := range row {
			known := kept[k]
			if row[k] != 0 && known == nil {
				kept[k] = row
				break
			}
			for row[k] != 0 {
				row = withTimes(p, row, 1, known)
			}
		}
	}
	return len(kept)
}

// areReduced tells whether rows of n numbers are reduced.
func areReduced(n int64, p int64, rows [][]int64) bool {
	last := -1
	for k, row := range rows {
		first := slices.IndexFunc(row, func(c int64) bool { return c != 0 })
		if int64(len(row)) != n || first <= last || row[first] != 1 || slices.Min(row) < 0 || slices.Max(row) >= p {
			return false
		}
		for other := range rows {
			if other != k && rows[other][first] != 0 {
				return false
			}
		}
		last = first
	}
	return true
}

// someSums returns sums for a ring: some that have few elements, some that divide 0, and some that were thrown.
func someSums(q impl.Square, p int64, d *dice) [][]int64 {
	n := q.Order
	all := slices.Repeat([]int64{1}, int(n))
	list := [][]int64{make([]int64, n), once(n, 0), once(n, n-1), all, withTimes(p, all, p-2, all), slices.Repeat([]int64{p - 1}, int(n))}
	for range 3 {
		x, y := d.below(n), d.below(n)
		thrown := thrownSum(d, n, p)
		list = append(list, thrown, withTimes(p, once(n, x), -1, once(n, y)),
			withTimes(p, thrown, -1, productByHand(q, p, thrown, once(n, x))), productByHand(q, p, all, thrown))
	}
	return list
}

// eachRing calls each with loops of all orders and the primes, and with some sums of them.
func eachRing(t *testing.T, each func(q impl.Square, p int64, sums [][]int64)) {
	t.Helper()
	d := new(dice)
	eachLoop(t, func(q impl.Square) {
		for _, p := range ringPrimes() {
			each(q, p, someSums(q, p, d))
		}
	})
}

// checkProductsOfSums checks by hand all that is made of three sums.
func checkProductsOfSums(t *testing.T, q impl.Square, p int64, a []int64, b []int64, c []int64) {
	t.Helper()
	if sum, code := impl.AddSums(q, p, a, b); !slices.Equal(sum, withTimes(p, a, 1, b)) || code != impl.ErrNone {
		t.Errorf("%v, %d: AddSums(%v, %v) = %v, %d", q, p, a, b, sum, code)
	}
	product, code := impl.MultiplySums(q, p, a, b)
	if !slices.Equal(product, productByHand(q, p, a, b)) || code != impl.ErrNone {
		t.Errorf("%v, %d: MultiplySums(%v, %v) = %v, %d", q, p, a, b, product, code)
	}
	difference, code := impl.AssociatorOfSums(q, p, a, b, c)
	if !slices.Equal(difference, associatorByHand(q, p, a, b, c)) || code != impl.ErrNone {
		t.Errorf("%v, %d: AssociatorOfSums(%v, %v, %v) = %v, %d", q, p, a, b, c, difference, code)
	}
	for _, k := range []int64{0, 1, 2, 3, 5} {
		if power, code := impl.PowerOfSum(q, p, a, k); !slices.Equal(power, powerByHand(q, p, a, k)) || code != impl.ErrNone {
			t.Errorf("%v, %d: PowerOfSum(%v, %d) = %v, %d", q, p, a, k, power, code)
		}
	}
}

func TestProductsOfSums(t *testing.T) {
	eachRing(t, func(q impl.Square, p int64, sums [][]int64) {
		for k, a := range sums {
			checkProductsOfSums(t, q, p, a, sums[(k+4)%len(sums)], sums[(k+7)%len(sums)])
			checkProductsOfSums(t, q, p, a, a, sums[(k+1)%len(sums)])
		}
	})
}

// All sums of small rings are multiplied. The products of elements are those of the loop.
func TestProductsOfAllSums(t *testing.T) {
	for _, text := range []string{textOfOne, "01/10", "012/120/201", "0123/1032/2301/3210"} {
		q := squareOf(t, text)
		for _, p := range ringPrimes() {
			if countOfSums(q.Order, p) > 81 {
				continue
			}
			eachSum(q.Order, p, func(a []int64) {
				eachSum(q.Order, p, func(b []int64) { checkProductsOfSums(t, q, p, a, b, a) })
			})
		}
	}
	for _, q := range loopsForNuclei(t) {
		for x := range q.Order {
			for y := range q.Order {
				for _, p := range ringPrimes() {
					product, code := impl.MultiplySums(q, p, once(q.Order, x), once(q.Order, y))
					if !slices.Equal(product, once(q.Order, int64(q.Table[x][y]))) || code != impl.ErrNone {
						t.Errorf("%v, %d: the product of %d and %d is %v, %d", q, p, x, y, product, code)
					}
				}
			}
		}
	}
}

// Promise 10: augmentations are multiplicative.
func TestAugmentations(t *testing.T) {
	eachRing(t, func(q impl.Square, p int64, sums [][]int64) {
		told := func(a []int64) int64 {
			sum, code := impl.AugmentationOf(q, p, a)
			if sum < 0 || sum >= p || code != impl.ErrNone {
				t.Errorf("%v, %d: AugmentationOf(%v) = %d, %d", q, p, a, sum, code)
			}
			return sum
		}
		for k, a := range sums {
			want := int64(0)
			for _, c := range a {
				want += c
			}
			b := sums[(k+5)%len(sums)]
			product, _ := impl.MultiplySums(q, p, a, b)
			sum, _ := impl.AddSums(q, p, a, b)
			if told(a) != want%p || told(product) != told(a)*told(b)%p || told(sum) != (told(a)+told(b))%p {
				t.Errorf("%v, %d: the augmentation of %v is %d, and that of %v %d", q, p, a, told(a), product, told(product))
			}
		}
	})
}

// multiplesByHand returns the products of a and each element.
func multiplesByHand(q impl.Square, p int64, a []int64) [][]int64 {
	var rows [][]int64
	for y := range q.Order {
		rows = append(rows, productByHand(q, p, a, once(q.Order, y)))
	}
	return rows
}

// checkUnit checks whether a sum has an inverse, and what it makes 0. Promise 10: sums are right units exactly
// if they are no left zero divisors. It tells whether a is a right unit.
func checkUnit(t *testing.T, q impl.Square, p int64, a []int64) bool {
	t.Helper()
	n := q.Order
	rank := rankByHand(p, multiplesByHand(q, p, a))
	divides, code := impl.IsZeroDivisor(q, p, a)
	if divides != (rank < int(n)) || code != impl.ErrNone {
		t.Errorf("%v, %d: IsZeroDivisor(%v) = %v, %d", q, p, a, divides, code)
	}
	inverse, code := impl.RightInverseOfSum(q, p, a)
	switch {
	case divides && (len(inverse) != 0 || code != impl.ErrNotFound):
		t.Errorf("%v, %d: RightInverseOfSum(%v) = %v, %d", q, p, a, inverse, code)
	case !divides && (code != impl.ErrNone || !slices.Equal(productByHand(q, p, a, inverse), once(n, 0))):
		t.Errorf("%v, %d: RightInverseOfSum(%v) = %v, %d", q, p, a, inverse, code)
	}
	basis, code := impl.AnnihilatorOf(q, p, a)
	if len(basis) != int(n)-rank || !areReduced(n, p, basis) || code != impl.ErrNone {
		t.Errorf("%v, %d: AnnihilatorOf(%v) = %v, %d", q, p, a, basis, code)
	}
	for _, b := range basis {
		if !isNull(productByHand(q, p, a, b)) {
			t.Errorf("%v, %d: AnnihilatorOf(%v) = %v, but the product of %v is not 0", q, p, a, basis, b)
		}
	}
	return !divides
}

func TestUnitsAndZeroDivisors(t *testing.T) {
	met := map[bool]int{}
	eachRing(t, func(q impl.Square, p int64, sums [][]int64) {
		for _, a := range sums {
			met[checkUnit(t, q, p, a)]++
		}
	})
	if met[true] < 1000 || met[false] < 1000 {
		t.Errorf("the numbers of units and others are %v", met)
	}
}

// checkAllSums checks by the definitions all that is told of each sum of a small ring.
func checkAllSums(t *testing.T, q impl.Square, p int64) {
	t.Helper()
	n := q.Order
	units := int64(0)
	var idempotents [][]int64
	eachSum(n, p, func(a []int64) {
		var inverses [][]int64
		count := int64(0) // of the sums that a makes 0
		eachSum(n, p, func(b []int64) {
			switch c := productByHand(q, p, a, b); {
			case slices.Equal(c, once(n, 0)):
				inverses = append(inverses, b)
			case isNull(c):
				count++
			}
		})
		var want []int64
		wantCode := int64(impl.ErrNotFound)
		if len(inverses) == 1 {
			want, wantCode = inverses[0], impl.ErrNone
			units++
		}
		if inverse, code := impl.RightInverseOfSum(q, p, a); !slices.Equal(inverse, want) || code != wantCode {
			t.Errorf("%v, %d: RightInverseOfSum(%v) = %v, %d", q, p, a, inverse, code)
		}
		if divides, code := impl.IsZeroDivisor(q, p, a); divides != (count > 1) || code != impl.ErrNone {
			t.Errorf("%v, %d: IsZeroDivisor(%v) = %v, %d", q, p, a, divides, code)
		}
		basis, code := impl.AnnihilatorOf(q, p, a)
		if !areReduced(n, p, basis) || countOfSums(int64(len(basis)), p) != count || code != impl.ErrNone {
			t.Errorf("%v, %d: AnnihilatorOf(%v) = %v, %d", q, p, a, basis, code)
		}
		if slices.Equal(productByHand(q, p, a, a), a) {
			idempotents = append(idempotents, a)
		}
		checkUnit(t, q, p, a)
	})
	if count, code := impl.CountUnits(q, p); count != units || code != impl.ErrNone {
		t.Errorf("%v: CountUnits(%d) = %d, %d", q, p, count, code)
	}
	if list, code := impl.IdempotentsOf(q, p); !sameLists(list, idempotents) || code != impl.ErrNone {
		t.Errorf("%v: IdempotentsOf(%d) = %v, %d", q, p, list, code)
	}
}

func TestAllSumsOfSmallRings(t *testing.T) {
	eachLoop(t, func(q impl.Square) {
		for _, p := range ringPrimes() {
			if countOfSums(q.Order, p) <= 128 || q.Order == 8 && p == 2 && q.Table[4][5] == 1 {
				checkAllSums(t, q, p)
			}
		}
	})
	for n := int64(1); n <= 4; n++ {
		checkAllSums(t, cyclicOf(t, n), 5)
	}
	for _, p := range ringPrimes() {
		checkAllSums(t, squareOf(t, textOfOne), p)
		checkAllSums(t, cyclicOf(t, 3), p)
	}
}

// Idempotents have the augmentation 0 or 1, and the products of each one and itself are it.
func TestIdempotents(t *testing.T) {
	for _, q := range loopsForNuclei(t) {
		for _, p := range ringPrimes() {
			list, code := impl.IdempotentsOf(q, p)
			if countOfSums(q.Order, p) > impl.MaxSums {
				continue
			}
			if !isAscending(list) || len(list) < 2 || code != impl.ErrNone {
				t.Errorf("%v: IdempotentsOf(%d) = %v, %d", q, p, list, code)
			}
			for _, a := range list {
				sum, _ := impl.AugmentationOf(q, p, a)
				square, _ := impl.MultiplySums(q, p, a, a)
				if sum > 1 || !slices.Equal(square, a) {
					t.Errorf("%v, %d: %v has the augmentation %d and the square %v", q, p, a, sum, square)
				}
			}
		}
	}
}

// sumExample has sums of a loop and what is to be told of them, which was not found by the program.
type sumExample struct {
	text               string
	p                  int64
	a, b, c            string
	product            string // of a and b
	associator         string // of a, b and c
	fifth, thousandth  string // powers of a
	inverse, makesZero string // the right inverse of a, or nothing, and the annihilator
}

// sumExamples returns right units and left zero divisors of several rings.
func sumExamples() []sumExample {
	return []sumExample{
		{textOfLoop5, 2, "10100", "01000", "01100", "01001", "00110", "00000", "00000", "", "10100/01011"},
		{textOfLoop5, 2, "01000", "01000", "01100", "10000", "00101", "01000", "10000", "01000", ""},
		{textOfLoop5, 3, "21220", "02220", "10220", "12201", "02220", "20011", "21001", "21010", ""},
		{textOfLoop5, 3, "02022", "11212", "12100", "21222", "00210", "02022", "01011", "", "10200/01211"},
		{textOfLoop5, 5, "43232", "03214", "03012", "40141", "01414", "40000", "10000", "31212", ""},
		{textOfLoop5, 5, "10004", "13110", "21241", "12034", "02323", "10004", "30002", "", "10001/01110"},
		{textOfLoop5, 7, "64224", "36105", "23546", "16220", "00124", "41551", "16666", "10440", ""},
		{textOfLoop5, 7, "51044", "66155", "64362", "64542", "06100", "41225", "01213", "", "10656/01232"},
		{textOfLoop6, 2, "101001", "000000", "010110", "000000", "000000", "110100", "010000", "011010", ""},
		{textOfLoop6, 2, "111111", "011000", "011100", "000000", "000000", "000000", "000000", "", "100001/010001/001001/000101/000011"},
		{textOfLoop6, 3, "101120", "202112", "211110", "212212", "210210", "002021", "202210", "002021", ""},
		{textOfLoop6, 3, "120021", "221102", "221021", "021012", "000000", "000000", "000000", "", "111000/000111"},
		{textOfLoop6, 5, "133301", "033321", "323202", "312010", "000302", "133310", "033014", "400430", ""},
		{textOfLoop6, 5, "410311", "230411", "332222", "221140", "000000", "410000", "311302", "", "111000/000111"},
		{textOfLoop6, 7, "555235", "123453", "015101", "563450", "421304", "222111", "111555", "", "142000/000124"},
		{textOfLoop6, 7, "154456", "661021", "335332", "241134", "043340", "136321", "055010", "163526", ""},
		{textOfTurns3, 2, "000111", "001110", "000001", "000111", "000000", "000111", "111000", "", "101000/011000/000101/000011"},
		{textOfTurns3, 2, "001000", "010001", "110001", "100010", "000000", "010000", "001000", "010000", ""},
		{textOfTurns3, 3, "002221", "012211", "110000", "020011", "000000", "002002", "110110", "", "102210/012012"},
		{textOfTurns3, 3, "101102", "011110", "021012", "211112", "000000", "002201", "202201", "002201", ""},
		{textOfTurns3, 5, "312230", "313030", "300210", "322044", "000000", "344000", "100000", "321320", ""},
		{textOfTurns3, 5, "422224", "022220", "400103", "144441", "000000", "422224", "300003", "", "100004/010040/001400"},
		{textOfTurns3, 7, "536362", "363131", "065265", "625006", "000000", "563630", "130304", "563630", ""},
		{textOfTurns3, 7, "644455", "305034", "421300", "304266", "000000", "266133", "455644", "", "111000/000111"},
		{textOfClosed6, 2, "100011", "100011", "001111", "101100", "000000", "111101", "010000", "010110", ""},
		{textOfClosed6, 2, "011110", "011000", "100011", "111100", "001001", "100111", "100010", "", "110010/001101"},
		{textOfClosed6, 3, "001210", "101220", "220201", "210102", "000000", "202120", "001210", "202120", ""},
		{textOfClosed6, 3, "120102", "210221", "220011", "101022", "000000", "000000", "000000", "", "100221/010122/001101"},
		{textOfClosed6, 5, "141003", "312103", "204304", "042202", "000401", "023234", "431143", "232304", ""},
		{textOfClosed6, 5, "421143", "104020", "343423", "043111", "000302", "403314", "042211", "", "110010/001101"},
		{textOfClosed6, 7, "241335", "234310", "043313", "525255", "000000", "411631", "652552", "", "102335/014351"},
		{textOfClosed6, 7, "105265", "400643", "561060", "526333", "005504", "362150", "013615", "155411", ""},
		{textOfQuarters, 2, "00011000", "11011101", "10101100", "10101001", "00000000", "00000000", "00000000", "", "11000011/00111100"},
		{textOfQuarters, 2, "01011101", "00110111", "11101101", "11101001", "00000000", "01011101", "10000000", "01100010", ""},
		{textOfQuarters, 3, "00220121", "12221202", "00012211", "10110201", "00000000", "00220121", "02000011", "", "11000022/00112200"},
		{textOfQuarters, 3, "01210000", "20100202", "11100221", "11100211", "00000000", "10120000", "10000000", "10210000", ""},
		{textOfQuarters, 5, "44344311", "00040311", "10004411", "12113314", "00000000", "44433411", "10000000", "44022011", ""},
		{textOfQuarters, 5, "20340330", "10022024", "34221040", "14004132", "00000000", "20340330", "04223333", "", "11000011/00110011/00001144"},
		{textOfQuarters, 7, "12165115", "21324136", "55564336", "54105232", "00000000", "25454664", "62226666", "52454664", ""},
		{textOfQuarters, 7, "40460304", "21500015", "55050500", "02051420", "00000000", "35245126", "13555522", "", "11000066/00110011/00001111"},
		{textOfLeftBol, 2, "10010000", "00001100", "00111110", "00001111", "00000000", "00000000", "00000000", "", "11110000/00001111"},
		{textOfLeftBol, 2, "11101111", "01010110", "00101001", "01100101", "11111111", "11101111", "10000000", "11011111", ""},
		{textOfLeftBol, 3, "00110120", "12121201", "02010020", "20012012", "21002121", "00111011", "21101122", "", "10200102/01020102/00001221"},
		{textOfLeftBol, 3, "11000012", "20222120", "22222200", "10200010", "00000000", "11000012", "10000000", "11000012", ""},
		{textOfLeftBol, 5, "03101030", "02124221", "30203440", "31021113", "32324132", "03333330", "30000003", "", "11000044/00100400/00014000"},
		{textOfLeftBol, 5, "34400343", "30034413", "34003110", "14101123", "32320032", "34224434", "10414132", "01003110", ""},
		{textOfLeftBol, 7, "30055060", "16013025", "41355102", "24254460", "00521652", "41355321", "26022056", "41011021", ""},
		{textOfLeftBol, 7, "25520025", "32254166", "34022453", "34520016", "61434361", "16612516", "25433434", "", "11000000/00110000/00001100/00000011"},
		{textOfRightBol, 2, "10001011", "11111101", "00110111", "11100010", "00000011", "00000000", "00000000", "", "10001011/01000111/00110011"},
		{textOfRightBol, 2, "10110000", "10111010", "10100100", "10000101", "00000000", "10110000", "10000000", "10110000", ""},
		{textOfRightBol, 3, "00212110", "22102011", "20202210", "02201010", "12121212", "00121210", "10212100", "00121210", ""},
		{textOfRightBol, 3, "02212212", "01111101", "11010020", "22202022", "00000021", "20001021", "02002200", "", "11001100/00110011"},
		{textOfRightBol, 5, "13030032", "21302121", "01341312", "24422410", "41000032", "13030032", "42141432", "34102332", ""},
		{textOfRightBol, 5, "14413200", "14014320", "21232110", "41320041", "23000023", "14142300", "14321400", "", "11000000/00110000/00001100/00000011"},
		{textOfRightBol, 7, "15036424", "13066421", "23031241", "60661460", "61431634", "45603311", "03423312", "", "11000066/00110516/00001616"},
		{textOfRightBol, 7, "14210055", "43650462", "22656300", "26131646", "52000034", "61062233", "13331133", "34422233", ""},
		{textOfCycles9, 2, "110100100", "101100101", "101011000", "010100110", "000101011", "010100101", "110011110", "", "101001110/010110001"},
		{textOfCycles9, 2, "011001101", "010001111", "111110110", "111011000", "001111110", "000011001", "110001000", "011100011", ""},
		{textOfCycles9, 3, "222001111", "221222001", "110120021", "122002110", "211011222", "101012212", "202102012", "112100011", ""},
		{textOfCycles9, 3, "002200000", "211210202", "210201100", "221100110", "212210100", "000012202", "202210021", "", "100000020/001000200"},
		{textOfCycles9, 5, "001340304", "111014120", "323423013", "034132430", "424433410", "124124330", "343031114", "", "102334403/014332213"},
		{textOfCycles9, 5, "024323003", "241313221", "302021110", "404032334", "122304224", "132301101", "000013101", "411031323", ""},
		{textOfCycles9, 7, "124661433", "666112215", "335412341", "303521146", "261565460", "462145021", "452323344", "333542066", ""},
		{textOfCycles9, 7, "054120101", "544406350", "631644456", "512343163", "505106146", "052021164", "560620405", "", "100052301/011136510"},
		{textOfPlane, 2, "0011001001", "0100100011", "0010001011", "1100011101", "0010001011", "0000000000", "0000000000", "", "1100110110/0011001001"},
		{textOfPlane, 2, "0100111010", "1100011010", "1001001001", "0101100110", "0010000001", "0100111010", "1000000000", "0100111010", ""},
		{textOfPlane, 3, "2210212211", "0010121000", "0222211021", "1212200221", "0102212202", "2100102101", "0111112111", "", "0100100100/0010110210"},
		{textOfPlane, 3, "1022011201", "0220001211", "2111101211", "1222222101", "0020022012", "2221112221", "1012002220", "1100011210", ""},
		{textOfPlane, 5, "1013401123", "2042244441", "0401340221", "4120334041", "0420402332", "4222133243", "4342213322", "3212244341", ""},
		{textOfPlane, 5, "0104140014", "4012224420", "1404124232", "0403320134", "0134343124", "0000140014", "4212440044", "", "1000000122/0101003422/0010000433/0000113244"},
		{textOfPlane, 7, "6535606321", "2240615215", "0103314264", "1501312366", "0600534541", "1453326350", "0562404556", "2125313620", ""},
		{textOfPlane, 7, "3542561612", "1146602623", "2454641544", "0205311225", "0131615130", "0306360532", "3145546601", "", "1010000000/0101111111"},
		{textOfCycles10, 2, "1011011111", "0101010010", "0000001100", "0100110100", "0111100000", "0110100111", "1011001011", "", "1011100001/0100011110"},
		{textOfCycles10, 2, "1011111001", "1011010100", "1100010101", "0100010111", "0101011011", "0101001101", "0000001000", "0000001011", ""},
		{textOfCycles10, 3, "0120000010", "2210012101", "1222110200", "0000121201", "0122010111", "2002100002", "2222202121", "2121210220", ""},
		{textOfCycles10, 3, "0010111002", "2021101002", "0120011000", "1001211021", "1201001121", "0002000220", "2012221002", "", "1010022100/0101122011"},
		{textOfCycles10, 5, "4242323324", "3313331014", "4243110040", "0033000403", "2312202012", "2113144314", "1411303044", "4413022021", ""},
		{textOfCycles10, 5, "3221330411", "3334330044", "3333310333", "4312141324", "2134021444", "3011013010", "2112340430", "", "1044340400/0122321211"},
		{textOfCycles10, 7, "1466051513", "4052426363", "0016046003", "5652360555", "5515462205", "0002155541", "5650000432", "5013333131", ""},
		{textOfCycles10, 7, "5463620234", "0063334231", "2410236340", "2013121103", "3463145045", "2513224324", "6246006254", "", "1002055600/0116133211"},
		// Some of order 1, and 0 itself.
		{textOfOne, 2, "1", "1", "1", "1", "0", "1", "1", "1", ""},
		{textOfOne, 3, "2", "2", "1", "1", "0", "2", "1", "2", ""},
		{textOfOne, 5, "3", "4", "1", "2", "0", "3", "1", "2", ""},
		{textOfOne, 7, "3", "5", "6", "1", "0", "5", "4", "5", ""},
		{textOfOne, 7, "0", "5", "6", "0", "0", "0", "0", "", "1"},
		{"012/120/201", 5, "000", "123", "111", "000", "000", "000", "000", "", "100/010/001"},
		{"01/10", 3, "11", "12", "21", "00", "00", "11", "22", "", "12"},
		{"01/10", 3, "02", "12", "21", "12", "00", "02", "10", "02", ""},
	}
}

func TestSumsOfExamples(t *testing.T) {
	for _, e := range sumExamples() {
		q := squareOf(t, e.text)
		a, b, c := sumOf(e.a), sumOf(e.b), sumOf(e.c)
		check := func(name string, list []int64, code int64, want string) {
			t.Helper()
			if !sameLists([][]int64{list}, sumsOf(want)) || code != impl.ErrNone {
				t.Errorf("%s, %d, %s, %s, %s: %s = %v, %d", e.text, e.p, e.a, e.b, e.c, name, list, code)
			}
		}
		list, code := impl.MultiplySums(q, e.p, a, b)
		check("MultiplySums", list, code, e.product)
		list, code = impl.AssociatorOfSums(q, e.p, a, b, c)
		check("AssociatorOfSums", list, code, e.associator)
		list, code = impl.PowerOfSum(q, e.p, a, 5)
		check("PowerOfSum to 5", list, code, e.fifth)
		list, code = impl.PowerOfSum(q, e.p, a, 1000)
		check("PowerOfSum to 1000", list, code, e.thousandth)
		list, code = impl.RightInverseOfSum(q, e.p, a)
		if e.inverse != "" {
			check("RightInverseOfSum", list, code, e.inverse)
		} else if len(list) != 0 || code != impl.ErrNotFound {
			t.Errorf("%s, %d: RightInverseOfSum(%s) = %v, %d", e.text, e.p, e.a, list, code)
		}
		lists, code := impl.AnnihilatorOf(q, e.p, a)
		if !sameLists(lists, sumsOf(e.makesZero)) || code != impl.ErrNone {
			t.Errorf("%s, %d: AnnihilatorOf(%s) = %v, %d", e.text, e.p, e.a, lists, code)
		}
		divides, code := impl.IsZeroDivisor(q, e.p, a)
		if divides != (e.inverse == "") || code != impl.ErrNone {
			t.Errorf("%s, %d: IsZeroDivisor(%s) = %v, %d", e.text, e.p, e.a, divides, code)
		}
	}
}

func TestPowersOfSums(t *testing.T) {
	d := new(dice)
	for _, q := range loopsForNuclei(t) {
		for _, p := range ringPrimes() {
			a := thrownSum(d, q.Order, p)
			for _, k := range []int64{0, 999, 1000} {
				if power, code := impl.PowerOfSum(q, p, a, k); !slices.Equal(power, powerByHand(q, p, a, k)) || code != impl.ErrNone {
					t.Errorf("%v, %d: PowerOfSum(%v, %d) = %v, %d", q, p, a, k, power, code)
				}
			}
			none := make([]int64, q.Order)
			power, code := impl.PowerOfSum(q, p, none, 0)
			other, otherCode := impl.PowerOfSum(q, p, none, 1000)
			if !slices.Equal(power, once(q.Order, 0)) || !slices.Equal(other, none) || max(code, otherCode) != impl.ErrNone {
				t.Errorf("%v, %d: the powers of 0 are %v, %d and %v, %d", q, p, power, code, other, otherCode)
			}
		}
	}
}

// ringExample is a ring with what is to be told of it, which was not found by the program.
type ringExample struct {
	text        string
	p           int64
	centre      string
	units       int64 // 0 if there are too many sums
	idempotents int   // 0 if there are too many sums
	list        string
}

// ringExamples returns rings of groups and of other loops.
func ringExamples() []ringExample {
	return []ringExample{
		{textOfLoop5, 2, "10000/01111", 11, 4, "00000/01111/10000/11111"},
		{textOfLoop5, 3, "10000/01111", 116, 20, ""},
		{textOfLoop5, 5, "10000/01111", 2180, 10, "00000/10000/30002/30003/30020/30030/30200/30300/32000/33000"},
		{textOfLoop5, 7, "10000/01111", 12456, 20, ""},
		{textOfLoop6, 2, "100000/011000/000111", 24, 4, "000000/011000/100000/111000"},
		{textOfLoop6, 3, "100000/011000/000111", 324, 8, "000000/100000/200001/200002/200010/200020/200100/200200"},
		{textOfLoop6, 5, "100000/011000/000111", 9216, 32, ""},
		{textOfLoop6, 7, "100000/011000/000111", 0, 0, ""},
		{textOfTurns3, 2, "100000/011000/000111", 12, 16, ""},
		{textOfTurns3, 3, "100000/011000/000111", 324, 20, ""},
		{textOfTurns3, 5, "100000/011000/000111", 7680, 128, ""},
		{textOfTurns3, 7, "100000/011000/000111", 0, 0, ""},
		{textOfTurns4, 2, "10000000/01010000/00100000/00001010/00000101", 128, 2, "00000000/10000000"},
		{textOfTurns4, 3, "10000000/01010000/00100000/00001010/00000101", 768, 224, ""},
		{textOfTurns4, 5, "10000000/01010000/00100000/00001010/00000101", 0, 0, ""},
		{textOfQuarters, 2, "10000000/01000000/00110000/00001100/00000011", 128, 2, "00000000/10000000"},
		{textOfQuarters, 3, "10000000/01000000/00110000/00001100/00000011", 768, 224, ""},
		{textOfQuarters, 7, "10000000/01000000/00110000/00001100/00000011", 0, 0, ""},
		{textOfCentre2, 2, "100000/010000/001100/000011", 24, 4, "000000/000110/100000/100110"},
		{textOfCentre2, 3, "100000/010000/001100/000011", 252, 4, "000000/100000/210000/220000"},
		{textOfCentre2, 5, "100000/010000/001100/000011", 9600, 8, "000000/044444/100000/111111/224444/320000/330000/431111"},
		{textOfCentre2, 7, "100000/010000/001100/000011", 0, 0, ""},
		{textOfClosed6, 2, "100000/010010/001101", 30, 4, "000000/010010/100000/110010"},
		{textOfClosed6, 3, "100000/010010/001101", 324, 2, "000000/100000"},
		{textOfClosed6, 5, "100000/010010/001101", 9984, 8, "000000/041141/044444/100000/111111/114414/220020/430030"},
		{textOfClosed6, 7, "100000/010010/001101", 0, 0, ""},
		{textOfLeftBol, 2, "10000000/01000000/00110000/00001100/00000011", 128, 2, "00000000/10000000"},
		{textOfLeftBol, 3, "10000000/01000000/00110000/00001100/00000011", 640, 96, ""},
		{textOfLeftBol, 5, "10000000/01000000/00110000/00001100/00000011", 0, 0, ""},
		{textOfRightBol, 2, "10000000/01000000/00110000/00001100/00000011", 128, 2, "00000000/10000000"},
		{textOfRightBol, 3, "10000000/01000000/00110000/00001100/00000011", 640, 96, ""},
		{textOfRightBol, 7, "10000000/01000000/00110000/00001100/00000011", 0, 0, ""},
		{textOfPlane, 2, "1000000000/0111111111", 272, 2, "0000000000/1000000000"},
		{textOfPlane, 3, "1000000000/0111111111", 0, 0, ""},
		{textOfPlane, 5, "1000000000/0111111111", 0, 0, ""},
		{textOfPlane, 7, "1000000000/0111111111", 0, 0, ""},
		{textOfCycles9, 2, "100000000/011111111", 65, 4, "000000000/011111111/100000000/111111111"},
		{textOfCycles9, 3, "100000000/011111111", 7638, 4, "000000000/021220000/100000000/112110000"},
		{textOfCycles9, 5, "100000000/011111111", 0, 0, ""},
		{textOfCycles10, 2, "1000000000/0111111111", 124, 4, "0000000000/0101000101/1000000000/1101000101"},
		{textOfCycles10, 3, "1000000000/0111111111", 0, 0, ""},
		{textOfOne, 2, "1", 1, 2, "0/1"},
		{textOfOne, 3, "1", 2, 2, "0/1"},
		{textOfOne, 5, "1", 4, 2, "0/1"},
		{textOfOne, 7, "1", 6, 2, "0/1"},
		{"01/10", 3, "10/01", 4, 4, "00/10/21/22"},
		{"012/120/201", 2, "100/010/001", 3, 4, "000/011/100/111"},
	}
}

func TestRingsOfExamples(t *testing.T) {
	for _, e := range ringExamples() {
		q := squareOf(t, e.text)
		if centre, code := impl.CentreOfRing(q, e.p); !sameLists(centre, sumsOf(e.centre)) || code != impl.ErrNone {
			t.Errorf("CentreOfRing(%s, %d) = %v, %d", e.text, e.p, centre, code)
		}
		want := int64(impl.ErrNone)
		if e.units == 0 {
			want = impl.ErrLimit
		}
		if units, code := impl.CountUnits(q, e.p); units != e.units || code != want {
			t.Errorf("CountUnits(%s, %d) = %d, %d", e.text, e.p, units, code)
		}
		list, code := impl.IdempotentsOf(q, e.p)
		if len(list) != e.idempotents || code != want || e.list != "" && !sameLists(list, sumsOf(e.list)) {
			t.Errorf("IdempotentsOf(%s, %d) = %v, %d", e.text, e.p, list, code)
		}
	}
}

// The rings of these groups are made of rings of which the numbers are known: of fields, of those of matrices of two
// rows, and, where the prime divides the order, of rings with one idempotent other than 0.
func TestRingsOfKnownGroups(t *testing.T) {
	cases := []struct {
		group       impl.Square
		p           int64
		units       int64
		idempotents int
	}{
		{cyclicOf(t, 2), 7, 6 * 6, 4},
		{cyclicOf(t, 3), 2, 1 * 3, 4},
		{cyclicOf(t, 3), 7, 6 * 6 * 6, 8},
		{cyclicOf(t, 4), 5, 4 * 4 * 4 * 4, 16},
		{cyclicOf(t, 4), 7, 6 * 6 * 48, 8},
		{cyclicOf(t, 5), 2, 1 * 15, 4},
		{cyclicOf(t, 5), 5, 3125 - 625, 2},
		{cyclicOf(t, 5), 7, 6 * 2400, 4},
		{cyclicOf(t, 6), 5, 4 * 4 * 24 * 24, 16},
		{cyclicOf(t, 7), 2, 1 * 7 * 7, 8},
		{cyclicOf(t, 8), 2, 128, 2},
		{cyclicOf(t, 8), 3, 2 * 2 * 8 * 8 * 8, 32},
		{cyclicOf(t, 9), 2, 1 * 3 * 63, 8},
		{cyclicOf(t, 9), 3, 19683 - 6561, 2},
		{cyclicOf(t, 10), 2, 2 * 240, 4},
		{elementaryOf(t, 3), 2, 128, 2},
		{elementaryOf(t, 3), 3, 256, 256},
		{productOf(t, cyclicOf(t, 4), cyclicOf(t, 2)), 3, 16 * 64, 64},
		{productOf(t, cyclicOf(t, 3), cyclicOf(t, 3)), 3, 19683 - 6561, 2},
		{groupOfTurns(3), 2, 2 * 6, 2 * 8},
		{groupOfTurns(3), 5, 4 * 4 * 480, 4 * 32},
		{groupOfTurns(5), 2, 2 * 180, 2 * 22},
		{squareOf(t, textOfTurns4), 3, 16 * 48, 16 * 14},
		{squareOf(t, textOfQuarters), 3, 16 * 48, 16 * 14},
	}
	for _, c := range cases {
		if units, code := impl.CountUnits(c.group, c.p); units != c.units || code != impl.ErrNone {
			t.Errorf("CountUnits(%v, %d) = %d, %d", c.group, c.p, units, code)
		}
		if list, code := impl.IdempotentsOf(c.group, c.p); len(list) != c.idempotents || code != impl.ErrNone {
			t.Errorf("IdempotentsOf(%v, %d) = %d, %d", c.group, c.p, len(list), code)
		}
	}
}

// The centre of the ring of a group has as basis the sums of the elements that are alike by inner maps.
func TestCentresOfGroups(t *testing.T) {
	for _, g := range manyGroups(t, impl.MaxOrder) {
		var classes [][]int64
		met := map[int64]bool{}
		for x := range byte(g.Order) {
			class := make([]int64, g.Order)
			for y := range byte(g.Order) {
				class[g.Table[g.Table[inverseIn(g, y)][x]][y]] = 1
			}
			if first := int64(slices.Index(class, 1)); !met[first] {
				met[first] = true
				classes = append(classes, class)
			}
		}
		for _, p := range ringPrimes() {
			if centre, code := impl.CentreOfRing(g, p); !sameLists(centre, classes) || code != impl.ErrNone {
				t.Errorf("CentreOfRing(%v, %d) = %v, %d", g, p, centre, code)
			}
		}
	}
}

// centralDifferences returns for each element all that it has to make 0, as the difference of two elements, to be
// central.
func centralDifferences(q impl.Square, p int64) [][]int64 {
	var rows [][]int64
	n := byte(q.Order)
	for a := range n {
		var row []int64
		add := func(first byte, second byte) {
			row = append(row, withTimes(p, once(q.Order, int64(first)), -1, once(q.Order, int64(second)))...)
		}
		for x := range n {
			add(q.Table[a][x], q.Table[x][a])
			for y := range n {
				add(q.Table[q.Table[a][x]][y], q.Table[a][q.Table[x][y]])
				add(q.Table[q.Table[x][a]][y], q.Table[x][q.Table[a][y]])
				add(q.Table[q.Table[x][y]][a], q.Table[x][q.Table[y][a]])
			}
		}
		rows = append(rows, row)
	}
	return rows
}

// isCentralFor tells whether c commutes with a, and whether all associators of c, a and b are 0.
func isCentralFor(q impl.Square, p int64, c []int64, a []int64, b []int64) bool {
	return slices.Equal(productByHand(q, p, c, a), productByHand(q, p, a, c)) && isNull(associatorByHand(q, p, c, a, b)) &&
		isNull(associatorByHand(q, p, a, c, b)) && isNull(associatorByHand(q, p, a, b, c))
}

// checkCentreOfRing checks by hand that the centre is a basis of central sums. It is a whole one by its length.
func checkCentreOfRing(t *testing.T, q impl.Square, p int64) {
	t.Helper()
	n := q.Order
	centre, code := impl.CentreOfRing(q, p)
	if !areReduced(n, p, centre) || code != impl.ErrNone {
		t.Errorf("CentreOfRing(%v, %d) = %v, %d", q, p, centre, code)
	}
	for _, c := range centre {
		for x := range n {
			for y := range n {
				if !isCentralFor(q, p, c, once(n, x), once(n, y)) {
					t.Fatalf("CentreOfRing(%v, %d) = %v, but %v is not central for %d and %d", q, p, centre, c, x, y)
				}
			}
		}
	}
	if rank := rankByHand(p, centralDifferences(q, p)); len(centre) != int(n)-rank {
		t.Errorf("CentreOfRing(%v, %d) = %v, and the rank is %d", q, p, centre, rank)
	}
}

func TestCentresOfRings(t *testing.T) {
	for k, q := range loopsForNuclei(t) {
		for i, p := range ringPrimes() {
			if q.Order < 9 || (k+i)%4 == 0 {
				checkCentreOfRing(t, q, p)
			}
		}
	}
	smallLoops(func(q impl.Square) {
		for _, p := range ringPrimes() {
			if q.Order < 6 || q.Table[2][3] == 4 {
				checkCentreOfRing(t, q, p)
			}
		}
	})
}

// countCentral returns the number of central sums of a small ring by the definition.
func countCentral(q impl.Square, p int64) int64 {
	var sums [][]int64
	eachSum(q.Order, p, func(a []int64) { sums = append(sums, a) })
	count := int64(0)
next:
	for _, c := range sums {
		for _, a := range sums {
			for _, b := range sums {
				if !isCentralFor(q, p, c, a, b) {
					continue next
				}
			}
		}
		count++
	}
	return count
}

func TestCentresOfSmallRings(t *testing.T) {
	for n := range 5 {
		k := 0
		allLoops(n+1, func(q impl.Square) {
			k++
			for _, p := range ringPrimes() {
				if countOfSums(q.Order, p) > 32 || n == 4 && k%4 != 0 {
					continue
				}
				centre, code := impl.CentreOfRing(q, p)
				if count := countCentral(q, p); countOfSums(int64(len(centre)), p) != count || code != impl.ErrNone {
					t.Errorf("CentreOfRing(%v, %d) = %v, %d, but %d sums are central", q, p, centre, code, count)
				}
			}
		})
	}
}

// Promise 16: loop rings are associative exactly for groups.
func TestAssociativeRings(t *testing.T) {
	groups := 0
	eachRing(t, func(q impl.Square, p int64, sums [][]int64) {
		isGroup := impl.IsGroup(q)
		groups += countOf(isGroup)
		if yes, code := impl.IsAssociativeRing(q, p); yes != isGroup || code != impl.ErrNone {
			t.Errorf("IsAssociativeRing(%v, %d) = %v, %d", q, p, yes, code)
		}
		if at, code := impl.LawFails(q, 17); code == impl.ErrNone {
			a, b, c := once(q.Order, at[0]), once(q.Order, at[1]), once(q.Order, at[2])
			if difference, code := impl.AssociatorOfSums(q, p, a, b, c); isNull(difference) || code != impl.ErrNone {
				t.Errorf("%v, %d: AssociatorOfSums of %v = %v, %d", q, p, at, difference, code)
			}
			return
		}
		for k, a := range sums {
			b, c := sums[(k+3)%len(sums)], sums[(k+7)%len(sums)]
			if difference, code := impl.AssociatorOfSums(q, p, a, b, c); !isNull(difference) || code != impl.ErrNone {
				t.Errorf("%v, %d: AssociatorOfSums(%v, %v, %v) = %v, %d", q, p, a, b, c, difference, code)
			}
		}
	})
	if groups < 100 {
		t.Errorf("%d rings of groups", groups)
	}
}

// Promise 16: central elements are central sums, and no other ones are.
func TestCentralElements(t *testing.T) {
	eachLoop(t, func(q impl.Square) {
		elements, _ := impl.CentreOf(q)
		for _, p := range ringPrimes() {
			centre, code := impl.CentreOfRing(q, p)
			if code != impl.ErrNone {
				t.Fatalf("CentreOfRing(%v, %d): code %d", q, p, code)
			}
			for x := range q.Order {
				rank := rankByHand(p, append(slices.Clone(centre), once(q.Order, x)))
				if isCentral := slices.Contains(elements, x); isCentral != (rank == len(centre)) {
					t.Errorf("%v, %d: %d is in %v, but %v", q, p, x, elements, centre)
				}
			}
		}
	})
}

// alternativeByHand tells on which sides a ring is alternative. Differences of two elements for a and b, and for b and
// a, have to be 0 together.
func alternativeByHand(q impl.Square, p int64) (left bool, right bool) {
	n := byte(q.Order)
	vanish := func(difference func(x byte, y byte) (plus byte, minus byte)) bool {
		return always(q, func(x byte, y byte) bool {
			sum := make([]int64, n)
			pairs := [][2]byte{{x, y}, {y, x}}
			if x == y {
				pairs = pairs[:1]
			}
			for _, pair := range pairs {
				plus, minus := difference(pair[0], pair[1])
				sum[plus]++
				sum[minus]--
			}
			return !slices.ContainsFunc(sum, func(c int64) bool { return c%p != 0 })
		})
	}
	left, right = true, true
	m := q.Table
	for b := range n {
		left = left && vanish(func(x byte, y byte) (byte, byte) { return m[m[x][y]][b], m[x][m[y][b]] })
		right = right && vanish(func(x byte, y byte) (byte, byte) { return m[m[b][x]][y], m[b][m[x][y]] })
	}
	return left, right
}

// Some rings for 2 are alternative on one side alone, and so are not alternative.
func TestAlternativeRings(t *testing.T) {
	met := map[[2]bool]int{}
	check := func(q impl.Square, p int64) {
		left, right := alternativeByHand(q, p)
		met[[2]bool{left, right}]++
		if yes, code := impl.IsAlternativeRing(q, p); yes != (left && right) || code != impl.ErrNone {
			t.Errorf("IsAlternativeRing(%v, %d) = %v, %d", q, p, yes, code)
		}
	}
	eachLoop(t, func(q impl.Square) {
		for _, p := range ringPrimes() {
			check(q, p)
			check(oppositeIn(t, q), p)
		}
	})
	loopsOfOrder8(t, func(q impl.Square) { check(q, 2) })
	for _, text := range []string{textOfLeftBol, textOfRightBol} {
		for _, p := range ringPrimes() {
			check(squareOf(t, text), p)
		}
	}
	for _, sides := range [][2]bool{{true, true}, {true, false}, {false, true}, {false, false}} {
		if met[sides] == 0 {
			t.Errorf("the numbers of rings that are alternative on the left, and on the right, are %v", met)
		}
	}
}

// isAlternativeByTrial tells by the definition whether a small ring is alternative.
func isAlternativeByTrial(q impl.Square, p int64) bool {
	yes := true
	eachSum(q.Order, p, func(a []int64) {
		eachSum(q.Order, p, func(b []int64) {
			yes = yes && isNull(associatorByHand(q, p, a, a, b)) && isNull(associatorByHand(q, p, b, a, a))
		})
	})
	return yes
}

func TestAlternativeSmallRings(t *testing.T) {
	check := func(q impl.Square) {
		for _, p := range ringPrimes() {
			if countOfSums(q.Order, p) > 125 && (q.Order != 8 || p > 2) {
				continue
			}
			if yes, code := impl.IsAlternativeRing(q, p); yes != isAlternativeByTrial(q, p) || code != impl.ErrNone {
				t.Errorf("IsAlternativeRing(%v, %d) = %v, %d", q, p, yes, code)
			}
		}
	}
	smallLoops(check)
	for _, text := range []string{textOfTurns3, textOfClosed6, textOfLeftBol, textOfRightBol, textOfQuarters} {
		check(squareOf(t, text))
	}
}

// All rings with at most MaxSums sums are searched, and no other ones.
func TestLimitOfSums(t *testing.T) {
	most := map[int64]int64{2: 10, 3: 9, 5: 6, 7: 5}
	loops := []impl.Square{squareOf(t, textOfLoop5), squareOf(t, textOfLoop6), squareOf(t, textOfQuarters), squareOf(t, textOfCycles9), steinerOf10()}
	for n := int64(1); n <= impl.MaxOrder; n++ {
		loops = append(loops, cyclicOf(t, n))
	}
	for _, q := range loops {
		for p, order := range most {
			want := int64(impl.ErrNone)
			if q.Order > order {
				want = impl.ErrLimit
			}
			units, code := impl.CountUnits(q, p)
			if code != want || (units > 0) != (code == impl.ErrNone) {
				t.Errorf("CountUnits(%v, %d) = %d, %d", q, p, units, code)
			}
			list, code := impl.IdempotentsOf(q, p)
			if code != want || (len(list) > 0) != (code == impl.ErrNone) {
				t.Errorf("IdempotentsOf(%v, %d) = %v, %d", q, p, list, code)
			}
			// The other functions have no limit.
			checkUnit(t, q, p, once(q.Order, q.Order-1))
			if yes, code := impl.IsAssociativeRing(q, p); yes != impl.IsGroup(q) || code != impl.ErrNone {
				t.Errorf("IsAssociativeRing(%v, %d) = %v, %d", q, p, yes, code)
			}
		}
	}
}

// ledSum returns the sum to which a permutation leads the elements of a.
func ledSum(p impl.Places, a []int64) []int64 {
	led := make([]int64, len(a))
	for x, c := range a {
		led[p[x]] = c
	}
	return led
}

// checkRingsAlike checks that what is told of q, and of a and b in it, is told of r, to which an isomorphism leads it.
func checkRingsAlike(t *testing.T, q impl.Square, r impl.Square, by impl.Places, p int64, a []int64, b []int64) {
	t.Helper()
	c, d := ledSum(by, a), ledSum(by, b)
	product, _ := impl.MultiplySums(q, p, a, b)
	other, code := impl.MultiplySums(r, p, c, d)
	if !slices.Equal(ledSum(by, product), other) || code != impl.ErrNone {
		t.Errorf("%v, %d: the product of %v and %v is %v, but led on %v, %d", q, p, a, b, product, other, code)
	}
	inverse, code := impl.RightInverseOfSum(q, p, a)
	other, otherCode := impl.RightInverseOfSum(r, p, c)
	if !slices.Equal(ledSum(by, inverse), other) || code != otherCode {
		t.Errorf("%v, %d: the inverse of %v is %v, %d, but led on %v, %d", q, p, a, inverse, code, other, otherCode)
	}
	basis, _ := impl.AnnihilatorOf(q, p, a)
	others, _ := impl.AnnihilatorOf(r, p, c)
	checkLedBasis(t, by, p, basis, others)
	centre, _ := impl.CentreOfRing(q, p)
	others, _ = impl.CentreOfRing(r, p)
	checkLedBasis(t, by, p, centre, others)
	alternative, _ := impl.IsAlternativeRing(q, p)
	if yes, code := impl.IsAlternativeRing(r, p); yes != alternative || code != impl.ErrNone {
		t.Errorf("%v: IsAlternativeRing(%d) = %v, but led on %v, %d", q, p, alternative, yes, code)
	}
	if countOfSums(q.Order, p) > 1024 {
		return
	}
	units, _ := impl.CountUnits(q, p)
	idempotents, _ := impl.IdempotentsOf(q, p)
	otherUnits, code := impl.CountUnits(r, p)
	others, otherCode = impl.IdempotentsOf(r, p)
	if units != otherUnits || len(idempotents) != len(others) || max(code, otherCode) != impl.ErrNone {
		t.Errorf("%v, %d: %d units and %d idempotents, but led on %d and %d", q, p, units, len(idempotents), otherUnits, len(others))
	}
}

// checkLedBasis checks that a basis is led to rows that are made of another one of as many.
func checkLedBasis(t *testing.T, by impl.Places, p int64, basis [][]int64, other [][]int64) {
	t.Helper()
	all := slices.Clone(other)
	for _, row := range basis {
		all = append(all, ledSum(by, row))
	}
	if len(basis) != len(other) || rankByHand(p, all) != len(other) {
		t.Errorf("%d: the basis %v is led to %v", p, basis, other)
	}
}

// What is told of a loop holds in all loops that are alike.
func TestRingsOfIsomorphicLoops(t *testing.T) {
	d := new(dice)
	for k, q := range loopsForNuclei(t) {
		for i, by := range somePlaces(q.Order) {
			by[slices.Index(by[:q.Order], 0)], by[0] = by[0], 0
			p := ringPrimes()[(k+i)%4]
			checkRingsAlike(t, q, isotopeOf(t, q, thrice(by)), by, p, thrownSum(d, q.Order, p), thrownSum(d, q.Order, p))
		}
	}
}

// sumCall is a call of a function of sums.
type sumCall struct {
	name string
	sums int  // how many sums the function takes
	none bool // whether the result is the zero value
	code int64
}

// callsOfSums calls all functions of sums.
func callsOfSums(q impl.Square, p int64, a []int64, b []int64, c []int64) []sumCall {
	sum, addCode := impl.AddSums(q, p, a, b)
	product, productCode := impl.MultiplySums(q, p, a, b)
	power, powerCode := impl.PowerOfSum(q, p, a, 3)
	augmentation, augmentationCode := impl.AugmentationOf(q, p, a)
	inverse, inverseCode := impl.RightInverseOfSum(q, p, a)
	divides, dividesCode := impl.IsZeroDivisor(q, p, a)
	basis, basisCode := impl.AnnihilatorOf(q, p, a)
	difference, differenceCode := impl.AssociatorOfSums(q, p, a, b, c)
	return []sumCall{
		{"AddSums", 2, len(sum) == 0, addCode},
		{"MultiplySums", 2, len(product) == 0, productCode},
		{"PowerOfSum", 1, len(power) == 0, powerCode},
		{"AugmentationOf", 1, augmentation == 0, augmentationCode},
		{"RightInverseOfSum", 1, len(inverse) == 0, inverseCode},
		{"IsZeroDivisor", 1, !divides, dividesCode},
		{"AnnihilatorOf", 1, len(basis) == 0, basisCode},
		{"AssociatorOfSums", 3, len(difference) == 0, differenceCode},
	}
}

// callsOfRings calls all functions of a ring alone.
func callsOfRings(q impl.Square, p int64) []sumCall {
	units, unitsCode := impl.CountUnits(q, p)
	list, listCode := impl.IdempotentsOf(q, p)
	alternative, alternativeCode := impl.IsAlternativeRing(q, p)
	associative, associativeCode := impl.IsAssociativeRing(q, p)
	centre, centreCode := impl.CentreOfRing(q, p)
	return []sumCall{
		{"CountUnits", 0, units == 0, unitsCode},
		{"IdempotentsOf", 0, len(list) == 0, listCode},
		{"IsAlternativeRing", 0, !alternative, alternativeCode},
		{"IsAssociativeRing", 0, !associative, associativeCode},
		{"CentreOfRing", 0, len(centre) == 0, centreCode},
	}
}

// checkRefused checks that the functions that take at least some sums return a code and zero values.
func checkRefused(t *testing.T, calls []sumCall, q impl.Square, p int64, sums int, want int64) {
	t.Helper()
	for _, call := range calls {
		if call.sums >= sums && (!call.none || call.code != want) {
			t.Errorf("%s of %v and %d: code %d, zero value: %v", call.name, q, p, call.code, call.none)
		}
	}
}

// badPrimes are numbers that are not one of the primes.
func badPrimes() []int64 {
	return []int64{0, 1, 4, 6, 8, 9, 10, 11, 13, -1, -2, -3, -5, -7, 258, 1<<32 + 2, 1<<32 + 3, math.MaxInt64, math.MinInt64, math.MinInt64 + 3}
}

// badSums are lists that are no sums of a loop of order n for p.
func badSums(n int64, p int64) [][]int64 {
	list := [][]int64{nil, {}, make([]int64, n-1), make([]int64, n+1), make([]int64, 2*n), make([]int64, 1000)}
	for _, bad := range []int64{-1, p, p + 1, -p, 7, 256, 1 << 32, math.MaxInt64, math.MinInt64} {
		for _, x := range []int64{0, n / 2, n - 1} {
			a := make([]int64, n)
			a[x] = bad
			list = append(list, a)
		}
	}
	return list
}

// badPowers are numbers of factors that no power of a sum has.
func badPowers() []int64 {
	return []int64{-1, -2, 1001, 1002, 1 << 32, 1<<32 + 5, math.MaxInt64, math.MinInt64}
}

// That something is no loop goes before that something is not in its range.
func TestRingsErrorsOfLoops(t *testing.T) {
	eachNoLoop(t, func(_ string, q impl.Square) {
		n := max(1, min(10, q.Order))
		for _, p := range append(badPrimes(), ringPrimes()...) {
			checkRefused(t, callsOfRings(q, p), q, p, 0, impl.ErrInvalid)
			for _, a := range [][]int64{nil, {-1}, make([]int64, n), make([]int64, n+1), once(n, 0)} {
				checkRefused(t, callsOfSums(q, p, a, a, a), q, p, 0, impl.ErrInvalid)
				for _, k := range append(badPowers(), 0, 1, 1000) {
					if power, code := impl.PowerOfSum(q, p, a, k); len(power) != 0 || code != impl.ErrInvalid {
						t.Errorf("PowerOfSum(%v, %d, %v, %d) = %v, %d", q, p, a, k, power, code)
					}
				}
			}
		}
	})
}

// That a prime is none goes before that there are too many sums.
func TestRingsErrorsOfPrimes(t *testing.T) {
	for _, q := range loopsForNuclei(t) {
		for _, p := range badPrimes() {
			checkRefused(t, callsOfRings(q, p), q, p, 0, impl.ErrRange)
			for _, a := range [][]int64{make([]int64, q.Order), once(q.Order, 0), once(q.Order, q.Order-1), nil, {-1}} {
				checkRefused(t, callsOfSums(q, p, a, a, a), q, p, 0, impl.ErrRange)
				if power, code := impl.PowerOfSum(q, p, a, 0); len(power) != 0 || code != impl.ErrRange {
					t.Errorf("PowerOfSum(%v, %d, %v, 0) = %v, %d", q, p, a, power, code)
				}
			}
		}
	}
}

func TestRingsErrorsOfSums(t *testing.T) {
	for _, q := range loopsForNuclei(t) {
		for _, p := range ringPrimes() {
			good := slices.Repeat([]int64{p - 1}, int(q.Order))
			for _, bad := range badSums(q.Order, p) {
				checkRefused(t, callsOfSums(q, p, bad, bad, bad), q, p, 0, impl.ErrRange)
				checkRefused(t, callsOfSums(q, p, bad, good, good), q, p, 1, impl.ErrRange)
				checkRefused(t, callsOfSums(q, p, good, bad, good), q, p, 2, impl.ErrRange)
				checkRefused(t, callsOfSums(q, p, good, good, bad), q, p, 3, impl.ErrRange)
			}
			for _, k := range badPowers() {
				for _, a := range [][]int64{good, nil, once(q.Order, 0)} {
					if power, code := impl.PowerOfSum(q, p, a, k); len(power) != 0 || code != impl.ErrRange {
						t.Errorf("PowerOfSum(%v, %d, %v, %d) = %v, %d", q, p, a, k, power, code)
					}
				}
			}
			for _, call := range callsOfSums(q, p, good, good, good) {
				if call.code != impl.ErrNone && (call.name != "RightInverseOfSum" || call.code != impl.ErrNotFound) {
					t.Errorf("%s of %v, %d and %v: code %d", call.name, q, p, good, call.code)
				}
			}
		}
	}
}

func TestRingsKeepTheirSums(t *testing.T) {
	d := new(dice)
	for _, q := range loopsForNuclei(t) {
		for _, p := range ringPrimes() {
			sums := [][]int64{thrownSum(d, q.Order, p), thrownSum(d, q.Order, p), thrownSum(d, q.Order, p)}
			checkKept(t, sums, func(lists [][]int64) {
				callsOfSums(q, p, lists[0], lists[1], lists[2])
				impl.PowerOfSum(q, p, lists[0], 0)
				impl.PowerOfSum(q, p, lists[0], 1)
			})
			checkKept(t, sums[:1], func(lists [][]int64) { callsOfSums(q, p, lists[0], lists[0], lists[0]) })
		}
	}
}

func TestRingsShareNoMemory(t *testing.T) {
	alone := func(list []int64, _ int64) [][]int64 { return [][]int64{list} }
	first := func(lists [][]int64, _ int64) [][]int64 { return lists }
	q, zero, all := squareOf(t, textOfTurns4), make([]int64, 8), slices.Repeat([]int64{1}, 8)
	one := once(8, 0)
	calls := map[string]func() [][]int64{
		"AddSums":           func() [][]int64 { return alone(impl.AddSums(q, 3, all, zero)) },
		"MultiplySums":      func() [][]int64 { return alone(impl.MultiplySums(q, 3, one, all)) },
		"PowerOfSum to 0":   func() [][]int64 { return alone(impl.PowerOfSum(q, 3, all, 0)) },
		"PowerOfSum to 1":   func() [][]int64 { return alone(impl.PowerOfSum(q, 3, all, 1)) },
		"RightInverseOfSum": func() [][]int64 { return alone(impl.RightInverseOfSum(q, 3, one)) },
		"AssociatorOfSums":  func() [][]int64 { return alone(impl.AssociatorOfSums(q, 3, all, one, all)) },
		"AnnihilatorOf":     func() [][]int64 { return first(impl.AnnihilatorOf(q, 3, all)) },
		"AnnihilatorOf 0":   func() [][]int64 { return first(impl.AnnihilatorOf(q, 3, zero)) },
		"IdempotentsOf":     func() [][]int64 { return first(impl.IdempotentsOf(q, 3)) },
		"CentreOfRing":      func() [][]int64 { return first(impl.CentreOfRing(q, 3)) },
	}
	for name, call := range calls {
		checkApart(t, name, call)
	}
	if !isNull(zero) || !slices.Equal(all, slices.Repeat([]int64{1}, 8)) || !slices.Equal(one, once(8, 0)) {
		t.Errorf("changing results has made %v, %v and %v of the sums", zero, all, one)
	}
}
