package ratio_test

import (
	"math"
	"math/big"
	"testing"

	"snicket/api"
	"snicket/ratio"
	"snicket/sign"
	"snicket/wide"
)

const (
	words = 8
	size  = 512
	small = 120
	most  = math.MaxUint64
	half  = 1 << 63
)

// top is the greatest number that a wide one holds.
var top = api.Wide{most, most, most, most, most, most, most, most}

// bare is 0 as it may not be.
var bare = api.Int{Neg: true}

// power is 2^i.
func power(i int) api.Wide {
	var a api.Wide
	a[i/64] = 1 << (i % 64)
	return a
}

// below is 2^i less 1.
func below(i int) api.Wide {
	var a api.Wide
	for k := range i {
		a[k/64] |= 1 << (k % 64)
	}
	return a
}

// mixed is a size of that many bits in which each bit is now 0, now 1, but the highest one, which is 1; each seed has its
// own.
func mixed(seed uint64, bits int) api.Wide {
	var a api.Wide
	w := seed*0x9e3779b97f4a7c15 + 1
	for i := range bits {
		w = w*6364136223846793005 + 1442695040888963407
		a[i/64] |= w >> 63 << (i % 64)
	}
	a[(bits-1)/64] |= 1 << ((bits - 1) % 64)
	return a
}

// over is a fraction whose parts are as they are told.
func over(num int, den uint64) api.Ratio {
	return api.Ratio{Num: sign.Of(num), Den: api.Wide{den}}
}

// parts is a fraction above 0 whose parts are as they are told, minus is one below 0.
func parts(num, den api.Wide) api.Ratio {
	return api.Ratio{Num: api.Int{Mag: num}, Den: den}
}

func minus(num, den api.Wide) api.Ratio {
	return api.Ratio{Num: api.Int{Neg: true, Mag: num}, Den: den}
}

// someWides is sizes that are not 0: small ones, those about powers of 2, up to the greatest one, and mixed ones.
func someWides() []api.Wide {
	l := []api.Wide{{1}, {2}, {3}, {4}, {6}, {10}, {12}, {half - 1}, {half}, {most}, {0, 1}, {1, 1}, {0, 0, most}, top}
	for _, i := range []int{119, 120, 121, 240, 256, 360, 480, 511} {
		l = append(l, power(i), below(i))
	}
	for n := 1; n <= words; n++ {
		l = append(l, mixed(uint64(n), 64*n))
	}
	return l
}

// someInts is 0, also as it may not be, and numbers of either sign.
func someInts() []api.Int {
	l := []api.Int{{}, bare}
	for _, mag := range someWides() {
		l = append(l, api.Int{Mag: mag}, api.Int{Neg: true, Mag: mag})
	}
	return l
}

// someRatios is fractions that may be: whole ones and not whole ones of either sign, up to those of the greatest parts.
func someRatios() []api.Ratio {
	l := []api.Ratio{over(0, 1)}
	for den := uint64(1); den <= 12; den++ {
		for num := -13; num <= 13; num++ {
			if r := over(num, den); isLowest(r) {
				l = append(l, r)
			}
		}
	}
	sizes := []api.Wide{{1}, {7}, {most}, power(64), power(119), below(119), below(small), mixed(1, small), mixed(2, small), mixed(3, 100)}
	for _, num := range sizes {
		for _, den := range sizes {
			if isLowest(parts(num, den)) {
				l = append(l, parts(num, den), minus(num, den))
			}
		}
	}
	return l
}

// unfit is fractions that may not be.
func unfit() []api.Ratio {
	l := notLowest()
	return append(l, parts(power(small), api.Wide{1}), minus(power(small), api.Wide{1}), parts(api.Wide{1}, power(small)),
		minus(api.Wide{1}, power(small)), parts(top, api.Wide{1}), minus(api.Wide{1}, top))
}

// notLowest is fractions that are not in lowest terms.
func notLowest() []api.Ratio {
	return []api.Ratio{
		{}, over(1, 0), over(-1, 0), over(2, 0), over(math.MinInt, 0), {Num: bare}, {Num: bare, Den: api.Wide{1}},
		{Num: bare, Den: api.Wide{2}}, over(0, 2), {Den: top}, over(2, 2), over(-2, 2), over(2, 4), over(4, 2), over(-4, 2),
		over(6, 9), over(-6, 9), over(35, 21), parts(power(119), power(119)), parts(power(119), api.Wide{2}),
		minus(below(120), below(60)), parts(api.Wide{2}, power(119)), parts(top, top), minus(top, api.Wide{3}),
	}
}

// isLowest tells whether the parts of a fraction, of which none is 0 but told by 1, have no more in common than 1.
func isLowest(r api.Ratio) bool {
	common := new(big.Int).GCD(nil, nil, wideBig(r.Num.Mag), wideBig(r.Den))
	return common.Cmp(big.NewInt(1)) == 0
}

func wideBig(a api.Wide) *big.Int {
	n := new(big.Int)
	for i := words - 1; i >= 0; i-- {
		n.Lsh(n, 64)
		n.Or(n, new(big.Int).SetUint64(a[i]))
	}
	return n
}

func intBig(a api.Int) *big.Int {
	n := wideBig(a.Mag)
	if a.Neg {
		n.Neg(n)
	}
	return n
}

func toRat(a api.Ratio) *big.Rat { return new(big.Rat).SetFrac(intBig(a.Num), wideBig(a.Den)) }

func fromBig(n *big.Int) api.Int {
	a := api.Int{Neg: n.Sign() < 0}
	rest := new(big.Int).Abs(n)
	for i := range words {
		a.Mag[i] = new(big.Int).And(rest, new(big.Int).SetUint64(most)).Uint64()
		rest.Rsh(rest, 64)
	}
	return a
}

// fromRat is a fraction; a big one is always in lowest terms.
func fromRat(n *big.Rat) api.Ratio {
	return api.Ratio{Num: fromBig(n.Num()), Den: fromBig(n.Denom()).Mag}
}

func wantOf(t *testing.T, num, den api.Int, want api.Ratio, e api.Errno) {
	t.Helper()
	if got, gotE := ratio.Of(num, den); got != want || gotE != e {
		t.Errorf("Of(%v, %v): %v, %d; want %v, %d", num, den, got, gotE, want, e)
	}
}

func wantWhole(t *testing.T, n int, want api.Ratio) {
	t.Helper()
	if got := ratio.Whole(n); got != want {
		t.Errorf("Whole(%d): %v; want %v", n, got, want)
	}
}

func wantMay(t *testing.T, a api.Ratio, want bool) {
	t.Helper()
	if got := ratio.May(a); got != want {
		t.Errorf("May(%v): %t; want %t", a, got, want)
	}
}

func wantCmp(t *testing.T, a, b api.Ratio, want int) {
	t.Helper()
	if got, e := ratio.Cmp(a, b); got != want || e != api.OK {
		t.Errorf("Cmp(%v, %v): %d, %d; want %d, %d", a, b, got, e, want, api.OK)
	}
	if got, e := ratio.Cmp(b, a); got != -want || e != api.OK {
		t.Errorf("Cmp(%v, %v): %d, %d; want %d, %d", b, a, got, e, -want, api.OK)
	}
}

func wantAdd(t *testing.T, a, b, want api.Ratio) {
	t.Helper()
	if got, e := ratio.Add(a, b); got != want || e != api.OK {
		t.Errorf("Add(%v, %v): %v, %d; want %v, %d", a, b, got, e, want, api.OK)
	}
	if got, e := ratio.Add(b, a); got != want || e != api.OK {
		t.Errorf("Add(%v, %v): %v, %d; want %v, %d", b, a, got, e, want, api.OK)
	}
}

func wantMul(t *testing.T, a, b, want api.Ratio) {
	t.Helper()
	if got, e := ratio.Mul(a, b); got != want || e != api.OK {
		t.Errorf("Mul(%v, %v): %v, %d; want %v, %d", a, b, got, e, want, api.OK)
	}
	if got, e := ratio.Mul(b, a); got != want || e != api.OK {
		t.Errorf("Mul(%v, %v): %v, %d; want %v, %d", b, a, got, e, want, api.OK)
	}
}

// wantNothing asks all calls that take two fractions, which may not be together.
func wantNothing(t *testing.T, a, b api.Ratio) {
	t.Helper()
	if got, e := ratio.Cmp(a, b); got != 0 || e != api.ErrArg {
		t.Errorf("Cmp(%v, %v): %d, %d; want 0, %d", a, b, got, e, api.ErrArg)
	}
	if got, e := ratio.Add(a, b); got != (api.Ratio{}) || e != api.ErrArg {
		t.Errorf("Add(%v, %v): %v, %d; want nothing, %d", a, b, got, e, api.ErrArg)
	}
	if got, e := ratio.Mul(a, b); got != (api.Ratio{}) || e != api.ErrArg {
		t.Errorf("Mul(%v, %v): %v, %d; want nothing, %d", a, b, got, e, api.ErrArg)
	}
}

func wantFloor(t *testing.T, a api.Ratio, want api.Int, e api.Errno) {
	t.Helper()
	if got, gotE := ratio.Floor(a); got != want || gotE != e {
		t.Errorf("Floor(%v): %v, %d; want %v, %d", a, got, gotE, want, e)
	}
}

func wantPart(t *testing.T, n, num, den, want int, e api.Errno) {
	t.Helper()
	if got, gotE := ratio.Part(n, num, den); got != want || gotE != e {
		t.Errorf("Part(%d, %d, %d): %d, %d; want %d, %d", n, num, den, got, gotE, want, e)
	}
}

// Rt1: Of.

func TestOfIsInLowestTerms(t *testing.T) {
	wantOf(t, sign.Of(6), sign.Of(4), over(3, 2), api.OK)
	wantOf(t, sign.Of(6), sign.Of(9), over(2, 3), api.OK)
	wantOf(t, sign.Of(5), sign.Of(7), over(5, 7), api.OK)
	wantOf(t, sign.Of(5), sign.Of(5), over(1, 1), api.OK)
	wantOf(t, sign.Of(12), sign.Of(4), over(3, 1), api.OK)
	wantOf(t, sign.Of(4), sign.Of(12), over(1, 3), api.OK)
	wantOf(t, sign.Of(9), sign.Of(1), over(9, 1), api.OK)
}

func TestOfADivisorBelowNought(t *testing.T) {
	wantOf(t, sign.Of(6), sign.Of(-4), over(-3, 2), api.OK)
	wantOf(t, sign.Of(-6), sign.Of(4), over(-3, 2), api.OK)
	wantOf(t, sign.Of(-6), sign.Of(-4), over(3, 2), api.OK)
	wantOf(t, sign.Of(1), sign.Of(-1), over(-1, 1), api.OK)
	wantOf(t, sign.Of(math.MinInt), sign.Of(-1), parts(api.Wide{half}, api.Wide{1}), api.OK)
	wantOf(t, sign.Of(1), sign.Of(math.MinInt), minus(api.Wide{1}, api.Wide{half}), api.OK)
}

func TestOfADivisorOfNought(t *testing.T) {
	for _, num := range someInts() {
		wantOf(t, num, api.Int{}, api.Ratio{}, api.ErrArg)
		wantOf(t, num, bare, api.Ratio{}, api.ErrArg)
	}
}

func TestOfNought(t *testing.T) {
	for _, den := range someWides() {
		for _, num := range []api.Int{{}, bare} {
			wantOf(t, num, api.Int{Mag: den}, over(0, 1), api.OK)
			wantOf(t, num, api.Int{Neg: true, Mag: den}, over(0, 1), api.OK)
		}
	}
}

func TestOfTheGreatestNumbers(t *testing.T) {
	wantOf(t, api.Int{Mag: top}, api.Int{Mag: top}, over(1, 1), api.OK)
	wantOf(t, api.Int{Neg: true, Mag: top}, api.Int{Mag: top}, over(-1, 1), api.OK)
	wantOf(t, api.Int{Mag: top}, sign.Of(1), parts(top, api.Wide{1}), api.OK)
	wantOf(t, sign.Of(1), api.Int{Neg: true, Mag: top}, minus(api.Wide{1}, top), api.OK)
	// What is 2^512 less 1 is 2^256 less 1 times 2^256 and 1.
	lowHigh := api.Wide{1, 0, 0, 0, 1}
	wantOf(t, api.Int{Mag: top}, api.Int{Mag: below(256)}, parts(lowHigh, api.Wide{1}), api.OK)
	wantOf(t, api.Int{Mag: lowHigh}, api.Int{Neg: true, Mag: top}, minus(api.Wide{1}, below(256)), api.OK)
	wantOf(t, api.Int{Mag: top}, api.Int{Mag: power(511)}, parts(top, power(511)), api.OK)
	wantOf(t, api.Int{Mag: power(511)}, api.Int{Neg: true, Mag: power(510)}, over(-2, 1), api.OK)
	wantOf(t, api.Int{Mag: power(510)}, api.Int{Mag: power(511)}, over(1, 2), api.OK)
	evenTop := top
	evenTop[0]--
	wantOf(t, api.Int{Mag: evenTop}, api.Int{Mag: power(511)}, parts(below(511), power(510)), api.OK)
}

func TestOfAnyNumbers(t *testing.T) {
	for _, num := range someInts() {
		for _, den := range someWides() {
			for _, below := range []bool{false, true} {
				divisor := api.Int{Neg: below, Mag: den}
				want := new(big.Rat).SetFrac(intBig(num), intBig(divisor))
				wantOf(t, num, divisor, fromRat(want), api.OK)
			}
		}
	}
}

// Rt1: Whole.

func TestWholeIsTheNumber(t *testing.T) {
	for n := -20; n <= 20; n++ {
		wantWhole(t, n, over(n, 1))
	}
	wantWhole(t, 0, parts(api.Wide{}, api.Wide{1}))
}

func TestWholeOfTheFarthestInts(t *testing.T) {
	wantWhole(t, math.MaxInt, parts(api.Wide{half - 1}, api.Wide{1}))
	wantWhole(t, math.MinInt, minus(api.Wide{half}, api.Wide{1}))
	wantMay(t, ratio.Whole(math.MaxInt), true)
	wantMay(t, ratio.Whole(math.MinInt), true)
}

// Rt1: May.

func TestMayInLowestTerms(t *testing.T) {
	for _, a := range []api.Ratio{over(0, 1), over(1, 1), over(-1, 1), over(3, 2), over(-3, 2), over(1, 6), over(-35, 6)} {
		wantMay(t, a, true)
	}
	for _, a := range someRatios() {
		wantMay(t, a, true)
	}
}

func TestMayNotBeWithoutLowestTerms(t *testing.T) {
	for _, a := range notLowest() {
		wantMay(t, a, false)
	}
	for num := -30; num <= 30; num++ {
		for den := uint64(1); den <= 30; den++ {
			wantMay(t, over(num, den), isLowest(over(num, den)))
		}
		wantMay(t, over(num, 0), false)
	}
}

func TestMayNotBeWithNoughtBelowNought(t *testing.T) {
	wantMay(t, api.Ratio{Num: bare, Den: api.Wide{1}}, false)
	wantMay(t, over(0, 1), true)
}

func TestMayOfSmallParts(t *testing.T) {
	for _, greatest := range []api.Wide{power(small - 1), below(small)} {
		wantMay(t, parts(greatest, api.Wide{1}), true)
		wantMay(t, minus(greatest, api.Wide{1}), true)
		wantMay(t, parts(api.Wide{1}, greatest), true)
		wantMay(t, minus(api.Wide{1}, greatest), true)
	}
	wantMay(t, parts(power(small-1), below(small)), true)
	wantMay(t, parts(below(small), power(small-1)), true)
}

func TestMayNotBeWithPartsThatAreNotSmall(t *testing.T) {
	one := api.Wide{1}
	for _, great := range []api.Wide{power(small), below(small + 1), power(128), power(256), power(511), top} {
		wantMay(t, parts(great, one), false)
		wantMay(t, minus(great, one), false)
		wantMay(t, parts(one, great), false)
		wantMay(t, minus(one, great), false)
	}
	wantMay(t, parts(power(small), below(small)), false)
	wantMay(t, parts(below(small), power(small)), false)
	wantMay(t, parts(power(small), below(small+1)), false)
}

// Rt1: Cmp.

func TestCmpOfFractions(t *testing.T) {
	wantCmp(t, over(1, 2), over(2, 3), -1)
	wantCmp(t, over(3, 4), over(2, 3), 1)
	wantCmp(t, over(1, 2), over(1, 2), 0)
	wantCmp(t, over(7, 2), over(3, 1), 1)
	wantCmp(t, over(7, 2), over(4, 1), -1)
}

func TestCmpOfEitherSignAndNought(t *testing.T) {
	wantCmp(t, over(-1, 2), over(1, 2), -1)
	wantCmp(t, over(-1, 2), over(-2, 3), 1)
	wantCmp(t, over(-1, 2), over(-1, 2), 0)
	wantCmp(t, over(0, 1), over(1, 1000), -1)
	wantCmp(t, over(0, 1), over(-1, 1000), 1)
	wantCmp(t, over(0, 1), over(0, 1), 0)
	wantCmp(t, over(-5, 1), over(1, 3), -1)
	tiny := below(small)
	wantCmp(t, over(0, 1), parts(api.Wide{1}, tiny), -1)
	wantCmp(t, over(0, 1), minus(api.Wide{1}, tiny), 1)
	wantCmp(t, minus(tiny, api.Wide{1}), parts(tiny, api.Wide{1}), -1)
}

func TestCmpOfFractionsThatAreVeryNear(t *testing.T) {
	greatest, less := below(small), below(small)
	less[0]--
	lesser := less
	lesser[0]--
	// Neighbours by their parts are farther from 1 the less they are.
	wantCmp(t, parts(lesser, less), parts(less, greatest), -1)
	wantCmp(t, minus(lesser, less), minus(less, greatest), 1)
	wantCmp(t, parts(less, lesser), parts(greatest, less), 1)
	wantCmp(t, parts(less, greatest), over(1, 1), -1)
	wantCmp(t, parts(greatest, less), over(1, 1), 1)
	wantCmp(t, parts(api.Wide{1}, greatest), parts(api.Wide{1}, less), -1)
	wantCmp(t, parts(greatest, api.Wide{1}), parts(less, api.Wide{1}), 1)
	wantCmp(t, over(1<<62, 1<<62+1), over(1<<62-1, 1<<62), 1)
}

func TestCmpOfAnyFractions(t *testing.T) {
	l := someRatios()
	for i, a := range l {
		for _, b := range l[i:] {
			wantCmp(t, a, b, toRat(a).Cmp(toRat(b)))
		}
	}
}

// Rt1: Add.

func TestAddIsTheSum(t *testing.T) {
	wantAdd(t, over(1, 2), over(1, 3), over(5, 6))
	wantAdd(t, over(1, 2), over(-1, 3), over(1, 6))
	wantAdd(t, over(-1, 2), over(1, 3), over(-1, 6))
	wantAdd(t, over(-1, 2), over(-1, 3), over(-5, 6))
	wantAdd(t, over(3, 1), over(4, 1), over(7, 1))
}

func TestAddIsInLowestTerms(t *testing.T) {
	wantAdd(t, over(1, 2), over(1, 2), over(1, 1))
	wantAdd(t, over(1, 6), over(1, 3), over(1, 2))
	wantAdd(t, over(-3, 10), over(-1, 5), over(-1, 2))
	wantAdd(t, over(5, 6), over(-5, 6), over(0, 1))
	wantAdd(t, parts(api.Wide{1}, power(119)), parts(api.Wide{1}, power(119)), parts(api.Wide{1}, power(118)))
}

func TestAddOfNought(t *testing.T) {
	for _, a := range someRatios() {
		wantAdd(t, a, over(0, 1), a)
		wantAdd(t, a, api.Ratio{Num: sign.Less(a.Num), Den: a.Den}, over(0, 1))
	}
}

func TestAddOfTheGreatestSmallFractions(t *testing.T) {
	one := api.Wide{1}
	greatest := below(small)
	double, _ := wide.Sub(power(small+1), wide.Of(2))
	wantAdd(t, parts(greatest, one), parts(greatest, one), parts(double, one))
	wantAdd(t, minus(greatest, one), minus(greatest, one), minus(double, one))
	wantAdd(t, parts(greatest, one), minus(greatest, one), over(0, 1))
	wantMay(t, parts(double, one), false)
	// Both parts have 240 bits, and one of them 1 more.
	a, b := parts(greatest, power(small-1)), parts(power(small-1), greatest)
	for _, neg := range []bool{false, true} {
		a.Num.Neg, b.Num.Neg = neg, neg
		sum, e := ratio.Add(a, b)
		if e != api.OK || sum != fromRat(new(big.Rat).Add(toRat(a), toRat(b))) || wide.Len(sum.Num.Mag) <= 2*small-2 {
			t.Errorf("Add(%v, %v): %v, %d", a, b, sum, e)
		}
		wantMay(t, sum, false)
	}
}

func TestAddOfAnyFractions(t *testing.T) {
	l := someRatios()
	for i, a := range l {
		for _, b := range l[i:] {
			wantAdd(t, a, b, fromRat(new(big.Rat).Add(toRat(a), toRat(b))))
		}
	}
}

// Rt1: Mul.

func TestMulIsTheProduct(t *testing.T) {
	wantMul(t, over(2, 3), over(5, 7), over(10, 21))
	wantMul(t, over(-2, 3), over(5, 7), over(-10, 21))
	wantMul(t, over(-2, 3), over(-5, 7), over(10, 21))
	wantMul(t, over(3, 1), over(4, 1), over(12, 1))
}

func TestMulIsInLowestTerms(t *testing.T) {
	wantMul(t, over(2, 3), over(3, 2), over(1, 1))
	wantMul(t, over(4, 15), over(5, 6), over(2, 9))
	wantMul(t, over(-4, 1), over(1, 4), over(-1, 1))
	wantMul(t, parts(below(small), power(119)), parts(power(119), below(small)), over(1, 1))
	wantMul(t, minus(below(small), power(119)), minus(power(119), below(small)), over(1, 1))
}

func TestMulByNoughtAndOne(t *testing.T) {
	for _, a := range someRatios() {
		wantMul(t, a, over(0, 1), over(0, 1))
		wantMul(t, a, over(1, 1), a)
		wantMul(t, a, over(-1, 1), api.Ratio{Num: sign.Less(a.Num), Den: a.Den})
	}
}

func TestMulOfTheGreatestSmallFractions(t *testing.T) {
	one, greatest := api.Wide{1}, below(small)
	square, _ := wide.Mul(greatest, greatest)
	wantMul(t, parts(greatest, one), parts(greatest, one), parts(square, one))
	wantMul(t, minus(greatest, one), minus(greatest, one), parts(square, one))
	wantMul(t, minus(greatest, one), parts(greatest, one), minus(square, one))
	wantMul(t, parts(one, greatest), minus(one, greatest), minus(one, square))
	wantMul(t, parts(greatest, power(119)), parts(greatest, power(119)), parts(square, power(238)))
	wantMul(t, minus(power(119), greatest), parts(power(119), greatest), minus(power(238), square))
	wantMay(t, parts(square, one), false)
}

func TestMulOfAnyFractions(t *testing.T) {
	l := someRatios()
	for i, a := range l {
		for _, b := range l[i:] {
			wantMul(t, a, b, fromRat(new(big.Rat).Mul(toRat(a), toRat(b))))
		}
	}
}

// Rt1: Cmp, Add and Mul of fractions that may not be.

func TestFractionsThatMayNotBe(t *testing.T) {
	for _, a := range unfit() {
		for _, b := range []api.Ratio{over(0, 1), over(1, 1), over(-3, 2), parts(below(small), power(119))} {
			wantNothing(t, a, b)
			wantNothing(t, b, a)
		}
		for _, b := range unfit() {
			wantNothing(t, a, b)
		}
	}
}

// Rt1: Floor.

func TestFloorOfWholeFractions(t *testing.T) {
	for n := -20; n <= 20; n++ {
		wantFloor(t, over(n, 1), sign.Of(n), api.OK)
	}
	wantFloor(t, ratio.Whole(math.MinInt), sign.Of(math.MinInt), api.OK)
}

func TestFloorIsCutDown(t *testing.T) {
	wantFloor(t, over(7, 2), sign.Of(3), api.OK)
	wantFloor(t, over(-7, 2), sign.Of(-4), api.OK)
	wantFloor(t, over(1, 3), sign.Of(0), api.OK)
	wantFloor(t, over(2, 3), sign.Of(0), api.OK)
	wantFloor(t, over(-1, 3), sign.Of(-1), api.OK)
	wantFloor(t, over(-2, 3), sign.Of(-1), api.OK)
	wantFloor(t, over(-1, 1<<62), sign.Of(-1), api.OK)
	wantFloor(t, over(1, 1<<62), sign.Of(0), api.OK)
}

func TestFloorOfFractionsThatAreNotSmall(t *testing.T) {
	one := api.Wide{1}
	wantFloor(t, parts(top, one), api.Int{Mag: top}, api.OK)
	wantFloor(t, minus(top, one), api.Int{Neg: true, Mag: top}, api.OK)
	wantFloor(t, parts(one, top), sign.Of(0), api.OK)
	wantFloor(t, minus(one, top), sign.Of(-1), api.OK)
	wantFloor(t, parts(top, power(511)), sign.Of(1), api.OK)
	wantFloor(t, minus(top, power(511)), sign.Of(-2), api.OK)
	wantFloor(t, parts(top, api.Wide{2}), api.Int{Mag: below(511)}, api.OK)
	wantFloor(t, minus(top, api.Wide{2}), api.Int{Neg: true, Mag: power(511)}, api.OK)
	wantFloor(t, parts(power(small), one), api.Int{Mag: power(small)}, api.OK)
	wantFloor(t, minus(one, power(small)), sign.Of(-1), api.OK)
}

func TestFloorWithoutLowestTerms(t *testing.T) {
	for _, a := range notLowest() {
		wantFloor(t, a, api.Int{}, api.ErrArg)
	}
	wantFloor(t, parts(top, below(256)), api.Int{}, api.ErrArg)
	wantFloor(t, minus(power(511), power(1)), api.Int{}, api.ErrArg)
}

func TestFloorOfAnyFractions(t *testing.T) {
	for _, num := range someInts() {
		for _, den := range someWides() {
			a, _ := ratio.Of(num, api.Int{Mag: den})
			// Where what divides is above 0 this quotient is cut down.
			want := new(big.Int).Div(intBig(num), wideBig(den))
			wantFloor(t, a, fromBig(want), api.OK)
		}
	}
}

// Rt2: Part.

func TestPartIsCut(t *testing.T) {
	wantPart(t, 10, 2, 3, 6, api.OK)
	wantPart(t, 10, 1, 3, 3, api.OK)
	wantPart(t, 9, 2, 3, 6, api.OK)
	wantPart(t, 1, 1, 2, 0, api.OK)
	wantPart(t, 1, 999, 1000, 0, api.OK)
	wantPart(t, 100, 1, 1, 100, api.OK)
}

func TestPartOfTheGreatestInts(t *testing.T) {
	const all = math.MaxInt
	wantPart(t, all, all, all, all, api.OK)
	wantPart(t, all, all-1, all, all-1, api.OK)
	wantPart(t, all-1, all, all, all-1, api.OK)
	wantPart(t, all-1, all-1, all, all-2, api.OK)
	wantPart(t, all, 1, all, 1, api.OK)
	wantPart(t, all-1, 1, all, 0, api.OK)
	wantPart(t, all, 1, 2, all/2, api.OK)
	wantPart(t, all, 0, all, 0, api.OK)
	wantPart(t, 0, all, all, 0, api.OK)
	wantPart(t, all, 1, 1, all, api.OK)
	wantPart(t, 1<<62, 1<<62, 1<<62+1, 1<<62-1, api.OK)
}

func TestPartOfWrongArguments(t *testing.T) {
	for _, wrong := range []int{-1, -7, math.MinInt} {
		wantPart(t, wrong, 1, 2, 0, api.ErrArg)
		wantPart(t, 10, wrong, 2, 0, api.ErrArg)
		wantPart(t, 10, 1, wrong, 0, api.ErrArg)
		wantPart(t, 10, wrong, wrong, 0, api.ErrArg)
		wantPart(t, 0, wrong, 1, 0, api.ErrArg)
		wantPart(t, 0, 0, wrong, 0, api.ErrArg)
		wantPart(t, wrong, 0, 1, 0, api.ErrArg)
		wantPart(t, wrong, wrong, wrong, 0, api.ErrArg)
	}
	wantPart(t, 10, 0, 0, 0, api.ErrArg)
	wantPart(t, 10, 1, 0, 0, api.ErrArg)
	wantPart(t, 0, 0, 0, 0, api.ErrArg)
	wantPart(t, 10, 3, 2, 0, api.ErrArg)
	wantPart(t, 0, 2, 1, 0, api.ErrArg)
	wantPart(t, 1, math.MaxInt, math.MaxInt-1, 0, api.ErrArg)
	wantPart(t, 1, math.MaxInt, 1, 0, api.ErrArg)
	wantPart(t, 1, 1, math.MinInt, 0, api.ErrArg)
}

func TestPartAtTheEdges(t *testing.T) {
	wantPart(t, 0, 0, 1, 0, api.OK)
	wantPart(t, 0, 1, 1, 0, api.OK)
	wantPart(t, 1, 0, 1, 0, api.OK)
	wantPart(t, 1, 1, 1, 1, api.OK)
}

func TestPartOfAnyNumbers(t *testing.T) {
	l := []int{0, 1, 2, 3, 10, 1<<31 - 1, 1 << 31, 1<<32 + 1, 1 << 60, 1<<61 + 12345, 1 << 62, math.MaxInt - 1, math.MaxInt}
	for _, n := range l {
		for _, num := range l {
			for _, den := range l {
				if den == 0 || num > den {
					wantPart(t, n, num, den, 0, api.ErrArg)
					continue
				}
				want := new(big.Int).Mul(big.NewInt(int64(n)), big.NewInt(int64(num)))
				want.Quo(want, big.NewInt(int64(den)))
				wantPart(t, n, num, den, int(want.Int64()), api.OK)
			}
		}
	}
}

// Rt3: what follows.

func TestFractionsThatCompareAsTheSameAreTheSame(t *testing.T) {
	var l []api.Ratio
	for num := -12; num <= 12; num++ {
		for den := 1; den <= 12; den++ {
			above, _ := ratio.Of(sign.Of(num), sign.Of(den))
			below, _ := ratio.Of(sign.Of(-num), sign.Of(-den))
			l = append(l, above, below)
		}
	}
	l = append(l, someRatios()...)
	for _, a := range l {
		for _, b := range l {
			c, e := ratio.Cmp(a, b)
			if e != api.OK || (c == 0) != (a == b) {
				t.Errorf("Cmp(%v, %v): %d, %d", a, b, c, e)
			}
		}
	}
}

func TestSumsAndProductsThatAreSmallMayBe(t *testing.T) {
	for num := -9; num <= 9; num++ {
		for den := 1; den <= 9; den++ {
			a, _ := ratio.Of(sign.Of(num), sign.Of(den))
			for other := 1; other <= 9; other++ {
				b, _ := ratio.Of(sign.Of(3), sign.Of(other))
				sum, _ := ratio.Add(a, b)
				product, _ := ratio.Mul(a, b)
				wantMay(t, sum, true)
				wantMay(t, product, true)
			}
		}
	}
}

func TestPartOfNoughtAndOfAll(t *testing.T) {
	for _, den := range []int{1, 2, 3, 7, 1 << 31, 1 << 62, math.MaxInt} {
		for _, n := range []int{0, 1, 2, 10, 1 << 31, 1 << 62, math.MaxInt} {
			wantPart(t, n, 0, den, 0, api.OK)
			wantPart(t, n, den, den, n, api.OK)
		}
	}
}

func TestPartIsNotLessOfMore(t *testing.T) {
	const all = math.MaxInt
	for _, n := range []int{0, 1, 5, 10, 1000, all - 1, all} {
		for _, den := range []int{1, 3, 10, 97, all - 1, all} {
			last := 0
			for k := range 100 {
				num := k
				if den > 100 {
					// Steps all through what divides, up to all of it.
					num = den/99*k + den%99*k/99
				}
				if num > den {
					break
				}
				part, e := ratio.Part(n, num, den)
				if e != api.OK || part < last || part > n {
					t.Errorf("Part(%d, %d, %d): %d, %d behind %d", n, num, den, part, e, last)
				}
				last = part
			}
		}
	}
}

func TestPartIsNotLessOfAGreaterNumber(t *testing.T) {
	for den := 1; den <= 12; den++ {
		for num := 0; num <= den; num++ {
			last := 0
			for n := range 50 {
				part, e := ratio.Part(n, num, den)
				if e != api.OK || part < last {
					t.Errorf("Part(%d, %d, %d): %d, %d behind %d", n, num, den, part, e, last)
				}
				last = part
			}
		}
	}
}
