package sign_test

import (
	"math"
	"math/big"
	"testing"

	"snicket/api"
	"snicket/sign"
)

const (
	words = 8
	size  = 512
	most  = math.MaxUint64
	half  = 1 << 63
)

// top is the greatest number that a wide one holds, topText its digits.
var top = api.Wide{most, most, most, most, most, most, most, most}

const topText = "134078079299425970995740249982058461274793658205923933777235614437217640300735469768018742981669034276900318581" +
	"86486050853753882811946569946433649006084095"

// greatest and least are the numbers that are farthest from 0, bare is 0 as it may not be.
var (
	greatest = api.Int{Mag: top}
	least    = api.Int{Neg: true, Mag: top}
	bare     = api.Int{Neg: true}
)

// power is 2^i.
func power(i int) api.Wide {
	var a api.Wide
	a[i/64] = 1 << (i % 64)
	return a
}

// below is 2^i less 1.
func below(i int) api.Wide {
	var a api.Wide
	for k := range i {
		a[k/64] |= 1 << (k % 64)
	}
	return a
}

// mixed is a size of n words in which each bit is now 0, now 1; each seed has its own.
func mixed(seed uint64, n int) api.Wide {
	var a api.Wide
	w := seed*0x9e3779b97f4a7c15 + 1
	for i := range n {
		w = w*6364136223846793005 + 1442695040888963407
		a[i] = w ^ w>>29
	}
	return a
}

// someNumbers is 0, also as it may not be, and numbers of either sign: small ones, those about powers of 2, up to the
// farthest ones, and mixed ones.
func someNumbers() []api.Int {
	sizes := []api.Wide{
		{}, {1}, {2}, {3}, {5}, {7}, {10}, {half - 1}, {half}, {half + 1}, {most - 1}, {most}, {0, 1}, {1, 1},
		{1, 0, 0, 0, 0, 0, 0, 1}, {0, 0, most}, {most - 1, most, most, most, most, most, most, most}, top,
	}
	for _, i := range []int{127, 128, 255, 256, 257, 384, 448, 510, 511} {
		sizes = append(sizes, power(i), below(i))
	}
	for n := range words {
		sizes = append(sizes, mixed(uint64(n), n+1))
	}
	var l []api.Int
	for _, mag := range sizes {
		l = append(l, api.Int{Mag: mag}, api.Int{Neg: true, Mag: mag})
	}
	return l
}

func toBig(a api.Int) *big.Int {
	n := new(big.Int)
	for i := words - 1; i >= 0; i-- {
		n.Lsh(n, 64)
		n.Or(n, new(big.Int).SetUint64(a.Mag[i]))
	}
	if a.Neg {
		n.Neg(n)
	}
	return n
}

// fromBig is a number; 0 and false if it is 2^512 or more away from 0.
func fromBig(n *big.Int) (api.Int, bool) {
	if n.BitLen() > size {
		return api.Int{}, false
	}
	a := api.Int{Neg: n.Sign() < 0}
	rest := new(big.Int).Abs(n)
	for i := range words {
		a.Mag[i] = new(big.Int).And(rest, new(big.Int).SetUint64(most)).Uint64()
		rest.Rsh(rest, 64)
	}
	return a, true
}

func plus(t *testing.T, a, b api.Int) api.Int {
	t.Helper()
	sum, ok := sign.Add(a, b)
	if !ok {
		t.Fatalf("%v and %v are no number", a, b)
	}
	return sum
}

func minus(t *testing.T, a, b api.Int) api.Int {
	t.Helper()
	diff, ok := sign.Sub(a, b)
	if !ok {
		t.Fatalf("%v less %v is no number", a, b)
	}
	return diff
}

func times(t *testing.T, a, b api.Int) api.Int {
	t.Helper()
	product, ok := sign.Mul(a, b)
	if !ok {
		t.Fatalf("%v times %v is no number", a, b)
	}
	return product
}

func wantOf(t *testing.T, n int, want api.Int) {
	t.Helper()
	if got := sign.Of(n); got != want {
		t.Errorf("Of(%d): %v; want %v", n, got, want)
	}
}

func wantFix(t *testing.T, a, want api.Int) {
	t.Helper()
	if got := sign.Fix(a); got != want {
		t.Errorf("Fix(%v): %v; want %v", a, got, want)
	}
}

func wantAdd(t *testing.T, a, b, want api.Int, ok bool) {
	t.Helper()
	if got, gotOk := sign.Add(a, b); got != want || gotOk != ok {
		t.Errorf("Add(%v, %v): %v, %t; want %v, %t", a, b, got, gotOk, want, ok)
	}
}

func wantSub(t *testing.T, a, b, want api.Int, ok bool) {
	t.Helper()
	if got, gotOk := sign.Sub(a, b); got != want || gotOk != ok {
		t.Errorf("Sub(%v, %v): %v, %t; want %v, %t", a, b, got, gotOk, want, ok)
	}
}

func wantMul(t *testing.T, a, b, want api.Int, ok bool) {
	t.Helper()
	if got, gotOk := sign.Mul(a, b); got != want || gotOk != ok {
		t.Errorf("Mul(%v, %v): %v, %t; want %v, %t", a, b, got, gotOk, want, ok)
	}
}

func wantLess(t *testing.T, a, want api.Int) {
	t.Helper()
	if got := sign.Less(a); got != want {
		t.Errorf("Less(%v): %v; want %v", a, got, want)
	}
}

func wantCmp(t *testing.T, a, b api.Int, want int) {
	t.Helper()
	if got := sign.Cmp(a, b); got != want {
		t.Errorf("Cmp(%v, %v): %d; want %d", a, b, got, want)
	}
	if got := sign.Cmp(b, a); got != -want {
		t.Errorf("Cmp(%v, %v): %d; want %d", b, a, got, -want)
	}
}

func wantOver(t *testing.T, a, b, want api.Int, e api.Errno) {
	t.Helper()
	if got, gotE := sign.Over(a, b); got != want || gotE != e {
		t.Errorf("Over(%v, %v): %v, %d; want %v, %d", a, b, got, gotE, want, e)
	}
}

func wantSmall(t *testing.T, a api.Int, want int, ok bool) {
	t.Helper()
	if got, gotOk := sign.Small(a); got != want || gotOk != ok {
		t.Errorf("Small(%v): %d, %t; want %d, %t", a, got, gotOk, want, ok)
	}
}

func wantText(t *testing.T, a api.Int, want string) {
	t.Helper()
	if got := sign.Text(a); got != want {
		t.Errorf("Text(%v): %s; want %s", a, got, want)
	}
}

// Si1: Of and Fix.

func TestOfIsTheNumber(t *testing.T) {
	wantOf(t, 0, api.Int{})
	wantOf(t, 1, api.Int{Mag: api.Wide{1}})
	wantOf(t, -1, api.Int{Neg: true, Mag: api.Wide{1}})
	wantOf(t, 105, api.Int{Mag: api.Wide{105}})
	wantOf(t, -105, api.Int{Neg: true, Mag: api.Wide{105}})
}

func TestOfTheFarthestInts(t *testing.T) {
	wantOf(t, math.MaxInt, api.Int{Mag: api.Wide{half - 1}})
	wantOf(t, math.MinInt, api.Int{Neg: true, Mag: api.Wide{half}})
	wantOf(t, math.MinInt+1, api.Int{Neg: true, Mag: api.Wide{half - 1}})
}

func TestFixLeavesWhatMayBe(t *testing.T) {
	wantFix(t, api.Int{}, api.Int{})
	for _, a := range someNumbers() {
		if a != bare {
			wantFix(t, a, a)
		}
	}
	for i := range size {
		wantFix(t, api.Int{Neg: true, Mag: power(i)}, api.Int{Neg: true, Mag: power(i)})
	}
}

func TestFixOfWhatMayNotBeIsNought(t *testing.T) {
	wantFix(t, bare, api.Int{})
}

// Si1: Add.

func TestAddIsTheSum(t *testing.T) {
	for a := -20; a <= 20; a++ {
		for b := -20; b <= 20; b++ {
			wantAdd(t, sign.Of(a), sign.Of(b), sign.Of(a+b), true)
		}
	}
}

func TestAddOfNought(t *testing.T) {
	for _, a := range someNumbers() {
		for _, nought := range []api.Int{{}, bare} {
			wantAdd(t, a, nought, sign.Fix(a), true)
			wantAdd(t, nought, a, sign.Fix(a), true)
		}
	}
}

func TestAddOfTheOtherSignIsNought(t *testing.T) {
	for _, a := range someNumbers() {
		wantAdd(t, a, api.Int{Neg: !a.Neg, Mag: a.Mag}, api.Int{}, true)
	}
}

func TestAddUpToTheFarthestNumbers(t *testing.T) {
	for i := range size {
		p, rest := power(i), top
		rest[i/64] -= p[i/64]
		wantAdd(t, api.Int{Mag: p}, api.Int{Mag: rest}, greatest, true)
		wantAdd(t, api.Int{Neg: true, Mag: p}, api.Int{Neg: true, Mag: rest}, least, true)
	}
	wantAdd(t, greatest, least, api.Int{}, true)
	wantAdd(t, greatest, sign.Of(-1), api.Int{Mag: api.Wide{most - 1, most, most, most, most, most, most, most}}, true)
	wantAdd(t, least, sign.Of(1), api.Int{Neg: true, Mag: api.Wide{most - 1, most, most, most, most, most, most, most}}, true)
}

func TestAddBeyondTheFarthestNumbers(t *testing.T) {
	wantAdd(t, greatest, sign.Of(1), api.Int{}, false)
	wantAdd(t, sign.Of(1), greatest, api.Int{}, false)
	wantAdd(t, greatest, sign.Of(2), api.Int{}, false)
	wantAdd(t, greatest, greatest, api.Int{}, false)
	wantAdd(t, least, sign.Of(-1), api.Int{}, false)
	wantAdd(t, sign.Of(-1), least, api.Int{}, false)
	wantAdd(t, least, sign.Of(-2), api.Int{}, false)
	wantAdd(t, least, least, api.Int{}, false)
	middle := api.Int{Mag: power(511)}
	wantAdd(t, middle, middle, api.Int{}, false)
	wantAdd(t, sign.Less(middle), sign.Less(middle), api.Int{}, false)
}

func TestAddOfAnyNumbers(t *testing.T) {
	for _, a := range someNumbers() {
		for _, b := range someNumbers() {
			want, ok := fromBig(new(big.Int).Add(toBig(a), toBig(b)))
			wantAdd(t, a, b, want, ok)
		}
	}
}

// Si1: Sub.

func TestSubIsTheDifference(t *testing.T) {
	for a := -20; a <= 20; a++ {
		for b := -20; b <= 20; b++ {
			wantSub(t, sign.Of(a), sign.Of(b), sign.Of(a-b), true)
		}
	}
}

func TestSubOfNought(t *testing.T) {
	for _, a := range someNumbers() {
		for _, nought := range []api.Int{{}, bare} {
			wantSub(t, a, nought, sign.Fix(a), true)
			wantSub(t, nought, a, sign.Less(a), true)
		}
	}
}

func TestSubOfTheSameIsNought(t *testing.T) {
	for _, a := range someNumbers() {
		wantSub(t, a, a, api.Int{}, true)
	}
}

func TestSubUpToTheFarthestNumbers(t *testing.T) {
	for i := range size {
		p, rest := power(i), top
		rest[i/64] -= p[i/64]
		wantSub(t, api.Int{Mag: p}, api.Int{Neg: true, Mag: rest}, greatest, true)
		wantSub(t, api.Int{Neg: true, Mag: p}, api.Int{Mag: rest}, least, true)
	}
	wantSub(t, api.Int{}, least, greatest, true)
	wantSub(t, api.Int{}, greatest, least, true)
}

func TestSubBeyondTheFarthestNumbers(t *testing.T) {
	wantSub(t, greatest, sign.Of(-1), api.Int{}, false)
	wantSub(t, sign.Of(1), least, api.Int{}, false)
	wantSub(t, greatest, least, api.Int{}, false)
	wantSub(t, least, sign.Of(1), api.Int{}, false)
	wantSub(t, sign.Of(-1), greatest, api.Int{}, false)
	wantSub(t, least, greatest, api.Int{}, false)
}

func TestSubOfAnyNumbers(t *testing.T) {
	for _, a := range someNumbers() {
		for _, b := range someNumbers() {
			want, ok := fromBig(new(big.Int).Sub(toBig(a), toBig(b)))
			wantSub(t, a, b, want, ok)
		}
	}
}

// Si1: Mul.

func TestMulIsTheProduct(t *testing.T) {
	for a := -20; a <= 20; a++ {
		for b := -20; b <= 20; b++ {
			wantMul(t, sign.Of(a), sign.Of(b), sign.Of(a*b), true)
		}
	}
}

func TestMulByNoughtIsNought(t *testing.T) {
	for _, a := range someNumbers() {
		for _, nought := range []api.Int{{}, bare} {
			wantMul(t, a, nought, api.Int{}, true)
			wantMul(t, nought, a, api.Int{}, true)
		}
	}
}

func TestMulByOne(t *testing.T) {
	for _, a := range someNumbers() {
		wantMul(t, a, sign.Of(1), sign.Fix(a), true)
		wantMul(t, sign.Of(-1), a, sign.Less(a), true)
	}
}

func TestMulUpToTheFarthestNumbers(t *testing.T) {
	long, short := api.Wide{1, 1, 1, 1, 1, 1, 1, 1}, api.Wide{most}
	wantMul(t, api.Int{Mag: long}, api.Int{Mag: short}, greatest, true)
	wantMul(t, api.Int{Neg: true, Mag: long}, api.Int{Neg: true, Mag: short}, greatest, true)
	wantMul(t, api.Int{Neg: true, Mag: long}, api.Int{Mag: short}, least, true)
	wantMul(t, api.Int{Mag: long}, api.Int{Neg: true, Mag: short}, least, true)
}

func TestMulBeyondTheFarthestNumbers(t *testing.T) {
	for _, a := range []api.Int{greatest, least} {
		for _, b := range []api.Int{sign.Of(2), sign.Of(-2), sign.Of(3), greatest, least} {
			wantMul(t, a, b, api.Int{}, false)
			wantMul(t, b, a, api.Int{}, false)
		}
	}
	for i := 1; i < size; i++ {
		for _, neg := range []bool{false, true} {
			wantMul(t, api.Int{Neg: neg, Mag: power(i)}, api.Int{Mag: power(size - i)}, api.Int{}, false)
			wantMul(t, api.Int{Neg: neg, Mag: power(i)}, api.Int{Neg: true, Mag: power(size - i)}, api.Int{}, false)
		}
	}
}

func TestMulOfAnyNumbers(t *testing.T) {
	for _, a := range someNumbers() {
		for _, b := range someNumbers() {
			want, ok := fromBig(new(big.Int).Mul(toBig(a), toBig(b)))
			wantMul(t, a, b, want, ok)
		}
	}
}

// Si1: Less.

func TestLessHasTheOtherSign(t *testing.T) {
	for n := 1; n <= 20; n++ {
		wantLess(t, sign.Of(n), sign.Of(-n))
		wantLess(t, sign.Of(-n), sign.Of(n))
	}
	wantLess(t, sign.Of(math.MinInt), api.Int{Mag: api.Wide{half}})
	wantLess(t, greatest, least)
	wantLess(t, least, greatest)
}

func TestLessOfNoughtIsNought(t *testing.T) {
	wantLess(t, api.Int{}, api.Int{})
	wantLess(t, bare, api.Int{})
}

// Si1: Cmp.

func TestCmpOfSmallNumbers(t *testing.T) {
	for a := -20; a <= 20; a++ {
		wantCmp(t, sign.Of(a), sign.Of(a), 0)
		for b := a + 1; b <= 20; b++ {
			wantCmp(t, sign.Of(a), sign.Of(b), -1)
		}
	}
}

func TestCmpWithNought(t *testing.T) {
	wantCmp(t, api.Int{}, bare, 0)
	wantCmp(t, bare, bare, 0)
	for _, nought := range []api.Int{{}, bare} {
		for i := range size {
			wantCmp(t, nought, api.Int{Mag: power(i)}, -1)
			wantCmp(t, nought, api.Int{Neg: true, Mag: power(i)}, 1)
		}
	}
}

func TestCmpOfTheFarthestNumbers(t *testing.T) {
	for _, a := range someNumbers() {
		if a != greatest {
			wantCmp(t, a, greatest, -1)
		}
		if a != least {
			wantCmp(t, a, least, 1)
		}
	}
}

func TestCmpOfAnyNumbers(t *testing.T) {
	for _, a := range someNumbers() {
		for _, b := range someNumbers() {
			wantCmp(t, a, b, toBig(a).Cmp(toBig(b)))
		}
	}
}

// Si2: Over.

func TestOverIsCutDown(t *testing.T) {
	for _, c := range [][3]int{
		{7, 2, 3}, {-7, 2, -4}, {7, -2, -4}, {-7, -2, 3},
		{8, 2, 4}, {-8, 2, -4}, {8, -2, -4}, {-8, -2, 4},
		{1, 3, 0}, {-1, 3, -1}, {1, -3, -1}, {-1, -3, 0},
		{2, 3, 0}, {-2, 3, -1}, {2, -3, -1}, {-2, -3, 0},
		{0, 3, 0}, {0, -3, 0},
	} {
		wantOver(t, sign.Of(c[0]), sign.Of(c[1]), sign.Of(c[2]), api.OK)
	}
}

func TestOverOfNoughtIsRefused(t *testing.T) {
	for _, a := range someNumbers() {
		wantOver(t, a, api.Int{}, api.Int{}, api.ErrArg)
		wantOver(t, a, bare, api.Int{}, api.ErrArg)
	}
}

func TestOverOfNoughtDivided(t *testing.T) {
	for _, b := range someNumbers() {
		if sign.Fix(b) != (api.Int{}) {
			wantOver(t, api.Int{}, b, api.Int{}, api.OK)
			wantOver(t, bare, b, api.Int{}, api.OK)
		}
	}
}

func TestOverByOneOrTheSame(t *testing.T) {
	for _, a := range someNumbers() {
		wantOver(t, a, sign.Of(1), sign.Fix(a), api.OK)
		wantOver(t, a, sign.Of(-1), sign.Less(a), api.OK)
		if sign.Fix(a) != (api.Int{}) {
			wantOver(t, a, a, sign.Of(1), api.OK)
			wantOver(t, a, sign.Less(a), sign.Of(-1), api.OK)
		}
	}
}

func TestOverOfTheFarthestNumbers(t *testing.T) {
	wantOver(t, greatest, sign.Of(2), api.Int{Mag: below(511)}, api.OK)
	wantOver(t, least, sign.Of(-2), api.Int{Mag: below(511)}, api.OK)
	wantOver(t, greatest, sign.Of(-2), api.Int{Neg: true, Mag: power(511)}, api.OK)
	wantOver(t, least, sign.Of(2), api.Int{Neg: true, Mag: power(511)}, api.OK)
	wantOver(t, sign.Of(1), greatest, api.Int{}, api.OK)
	wantOver(t, sign.Of(-1), least, api.Int{}, api.OK)
	wantOver(t, sign.Of(-1), greatest, sign.Of(-1), api.OK)
	wantOver(t, sign.Of(1), least, sign.Of(-1), api.OK)
	for i := 1; i < size; i++ {
		wantOver(t, least, api.Int{Mag: power(i)}, api.Int{Neg: true, Mag: power(size - i)}, api.OK)
		wantOver(t, greatest, api.Int{Mag: power(i)}, api.Int{Mag: below(size - i)}, api.OK)
	}
}

// floor is the greatest number that is not above a divided by b.
func floor(a, b *big.Int) *big.Int {
	rest := new(big.Int)
	quot, _ := new(big.Int).QuoRem(a, b, rest)
	if rest.Sign() != 0 && rest.Sign() != b.Sign() {
		quot.Sub(quot, big.NewInt(1))
	}
	return quot
}

func TestOverOfAnyNumbers(t *testing.T) {
	for _, a := range someNumbers() {
		for _, b := range someNumbers() {
			if toBig(b).Sign() == 0 {
				continue
			}
			// No quotient is farther from 0 than what is divided.
			want, _ := fromBig(floor(toBig(a), toBig(b)))
			wantOver(t, a, b, want, api.OK)
		}
	}
}

// The rest that is left is of the divisor's sign, and nearer to 0 than it is.
func TestOverLeavesARestOfTheDivisorsSign(t *testing.T) {
	for a := -50; a <= 50; a++ {
		for b := 1; b <= 50; b++ {
			for _, by := range []int{b, -b} {
				q, e := sign.Over(sign.Of(a), sign.Of(by))
				n, ok := sign.Small(q)
				rest := a - n*by
				if by < 0 {
					rest = -rest
				}
				if e != api.OK || !ok || rest < 0 || rest >= b {
					t.Errorf("Over(%d, %d): %d, %d", a, by, n, e)
				}
			}
		}
	}
}

// Si2: Small.

func TestSmallIsTheInt(t *testing.T) {
	for n := -300; n <= 300; n++ {
		wantSmall(t, sign.Of(n), n, true)
	}
	for i := range 63 {
		wantSmall(t, sign.Of(1<<i), 1<<i, true)
		wantSmall(t, sign.Of(-1<<i), -1<<i, true)
	}
}

func TestSmallOfNought(t *testing.T) {
	wantSmall(t, api.Int{}, 0, true)
	wantSmall(t, bare, 0, true)
}

func TestSmallOfTheFarthestInts(t *testing.T) {
	wantSmall(t, api.Int{Mag: api.Wide{half - 1}}, math.MaxInt, true)
	wantSmall(t, api.Int{Neg: true, Mag: api.Wide{half - 1}}, -math.MaxInt, true)
	wantSmall(t, api.Int{Neg: true, Mag: api.Wide{half}}, math.MinInt, true)
}

func TestSmallOfWhatIsNoInt(t *testing.T) {
	wantSmall(t, api.Int{Mag: api.Wide{half}}, 0, false)
	wantSmall(t, api.Int{Mag: api.Wide{half + 1}}, 0, false)
	wantSmall(t, api.Int{Mag: api.Wide{most}}, 0, false)
	wantSmall(t, api.Int{Neg: true, Mag: api.Wide{half + 1}}, 0, false)
	wantSmall(t, api.Int{Neg: true, Mag: api.Wide{most}}, 0, false)
	wantSmall(t, greatest, 0, false)
	wantSmall(t, least, 0, false)
	for i := 1; i < words; i++ {
		for _, low := range []uint64{0, 1, 7} {
			mag := api.Wide{low}
			mag[i] = 1
			wantSmall(t, api.Int{Mag: mag}, 0, false)
			wantSmall(t, api.Int{Neg: true, Mag: mag}, 0, false)
		}
	}
}

// Si2: Text.

func TestTextIsTheDigits(t *testing.T) {
	wantText(t, sign.Of(7), "7")
	wantText(t, sign.Of(-7), "-7")
	wantText(t, sign.Of(105), "105")
	wantText(t, sign.Of(-105), "-105")
	wantText(t, sign.Of(math.MinInt), "-9223372036854775808")
	wantText(t, api.Int{Neg: true, Mag: api.Wide{0, 1}}, "-18446744073709551616")
}

func TestTextOfNought(t *testing.T) {
	wantText(t, api.Int{}, "0")
	wantText(t, bare, "0")
}

func TestTextOfTheFarthestNumbers(t *testing.T) {
	wantText(t, greatest, topText)
	wantText(t, least, "-"+topText)
}

func TestTextOfAnyNumber(t *testing.T) {
	for _, a := range someNumbers() {
		wantText(t, a, toBig(a).String())
	}
}

// Si3.

func TestWhatIsAddedIsTakenAway(t *testing.T) {
	for _, a := range someNumbers() {
		for _, b := range someNumbers() {
			if sum, ok := sign.Add(a, b); ok {
				wantSub(t, sum, b, sign.Fix(a), true)
				wantSub(t, sum, a, sign.Fix(b), true)
			}
			if diff, ok := sign.Sub(a, b); ok {
				wantAdd(t, diff, b, sign.Fix(a), true)
			}
		}
	}
}

func TestTheSignOfProducts(t *testing.T) {
	for _, a := range someNumbers() {
		for _, b := range someNumbers() {
			product, ok := sign.Mul(a, b)
			if !ok {
				continue
			}
			want := sign.Cmp(a, api.Int{}) * sign.Cmp(b, api.Int{})
			if got := sign.Cmp(product, api.Int{}); got != want {
				t.Errorf("Mul(%v, %v): sign %d; want %d", a, b, got, want)
			}
			if product.Neg != (want < 0) {
				t.Errorf("Mul(%v, %v): Neg %t", a, b, product.Neg)
			}
		}
	}
}

func TestProductsOfSumsAreSumsOfProducts(t *testing.T) {
	for seed := range uint64(50) {
		a := api.Int{Neg: seed%2 == 0, Mag: mixed(seed, 3)}
		b := api.Int{Neg: seed%3 == 0, Mag: mixed(seed+100, 3)}
		c := api.Int{Neg: seed%5 == 0, Mag: mixed(seed+200, 4)}
		whole := times(t, plus(t, a, b), c)
		if parts := plus(t, times(t, a, c), times(t, b, c)); parts != whole {
			t.Errorf("(%v and %v) times %v: %v; want %v", a, b, c, whole, parts)
		}
		less := times(t, minus(t, a, b), c)
		if parts := minus(t, times(t, a, c), times(t, b, c)); parts != less {
			t.Errorf("(%v less %v) times %v: %v; want %v", a, b, c, less, parts)
		}
	}
}
