package wide_test

import (
	"math"
	"math/big"
	"testing"

	"snicket/api"
	"snicket/wide"
)

const (
	words = 8
	size  = 512
	most  = math.MaxUint64
)

// top is the greatest number.
var top = api.Wide{most, most, most, most, most, most, most, most}

// power is 2^i.
func power(i int) api.Wide {
	var a api.Wide
	a[i/64] = 1 << (i % 64)
	return a
}

// below is 2^i less 1.
func below(i int) api.Wide {
	var a api.Wide
	for k := range i {
		a[k/64] |= 1 << (k % 64)
	}
	return a
}

// mixed is a number of n words in which each bit is now 0, now 1; each seed has its own.
func mixed(seed uint64, n int) api.Wide {
	var a api.Wide
	w := seed*0x9e3779b97f4a7c15 + 1
	for i := range n {
		w = w*6364136223846793005 + 1442695040888963407
		a[i] = w ^ w>>29
	}
	return a
}

// someNumbers is small numbers, those about powers of 2, up to the greatest one, those with noughts between, and mixed ones.
func someNumbers() []api.Wide {
	l := []api.Wide{
		{}, {2}, {3}, {10}, {most - 1}, top, {most - 1, most, most, most, most, most, most, most},
		{1, 0, 0, 0, 0, 0, 0, 1}, {0, 0, most}, {most, 0, most, 0, most, 0, most, 0}, {0, most, 0, most, 0, most, 0, most},
		{0, 0, 0, 0, most, most, most, most},
	}
	for _, i := range []int{0, 1, 32, 63, 64, 65, 127, 128, 191, 192, 255, 256, 257, 320, 383, 384, 447, 448, 510, 511} {
		p := power(i)
		p[0] |= 1
		l = append(l, power(i), below(i), p)
	}
	for n := range words {
		l = append(l, mixed(uint64(n), n+1), mixed(uint64(n)+100, n+1))
	}
	return l
}

func fewNumbers() []api.Wide {
	var l []api.Wide
	for i, a := range someNumbers() {
		if i%3 == 0 || i < 8 {
			l = append(l, a)
		}
	}
	return l
}

// someShifts is each one that leaves something, and those that leave nothing.
func someShifts() []int {
	l := []int{
		-513, 513, -575, 575, -576, 576, -577, 577, -1000, 1000, -1024, 1024, math.MaxInt32, math.MinInt32,
		1 << 32, -1 << 32, 1<<32 + 1, -1<<32 - 1, 1 << 62, -1 << 62, math.MaxInt, math.MaxInt - 1, math.MinInt, math.MinInt + 1,
	}
	for by := -size; by <= size; by++ {
		l = append(l, by)
	}
	return l
}

func toBig(a api.Wide) *big.Int {
	n := new(big.Int)
	for i := words - 1; i >= 0; i-- {
		n.Lsh(n, 64)
		n.Or(n, new(big.Int).SetUint64(a[i]))
	}
	return n
}

// modulo is n modulo 2^512, and whether that is n itself.
func modulo(n *big.Int) (api.Wide, bool) {
	rest := new(big.Int).Mod(n, new(big.Int).Lsh(big.NewInt(1), size))
	is := rest.Cmp(n) == 0
	var a api.Wide
	for i := range words {
		a[i] = new(big.Int).And(rest, new(big.Int).SetUint64(most)).Uint64()
		rest.Rsh(rest, 64)
	}
	return a, is
}

func wantNumber(t *testing.T, what string, a, b, got api.Wide, is bool, want api.Wide, wantIs bool) {
	t.Helper()
	if got != want || is != wantIs {
		t.Errorf("%s(%x, %x): %x, %t; want %x, %t", what, a, b, got, is, want, wantIs)
	}
}

func wantAdd(t *testing.T, a, b, sum api.Wide, is bool) {
	t.Helper()
	got, ok := wide.Add(a, b)
	wantNumber(t, "Add", a, b, got, ok, sum, is)
}

func wantSub(t *testing.T, a, b, diff api.Wide, is bool) {
	t.Helper()
	got, ok := wide.Sub(a, b)
	wantNumber(t, "Sub", a, b, got, ok, diff, is)
}

func wantMul(t *testing.T, a, b, product api.Wide, is bool) {
	t.Helper()
	got, ok := wide.Mul(a, b)
	wantNumber(t, "Mul", a, b, got, ok, product, is)
}

func wantShift(t *testing.T, a api.Wide, by int, want api.Wide) {
	t.Helper()
	if got := wide.Shift(a, by); got != want {
		t.Errorf("Shift(%x, %d): %x; want %x", a, by, got, want)
	}
}

// Wd1: Of.

func TestOfIsTheNumber(t *testing.T) {
	for _, n := range []uint64{0, 1, 2, 1000, 1<<32 - 1, 1 << 32, 1<<63 - 1, 1 << 63, most - 1, most} {
		if a := wide.Of(n); a != (api.Wide{n, 0, 0, 0, 0, 0, 0, 0}) {
			t.Errorf("Of(%d): %x", n, a)
		}
	}
}

// Wd1: Add.

func TestAddIsTheSum(t *testing.T) {
	wantAdd(t, api.Wide{}, api.Wide{}, api.Wide{}, true)
	wantAdd(t, api.Wide{2}, api.Wide{3}, api.Wide{5}, true)
	wantAdd(t, api.Wide{2, 7}, api.Wide{3, 0, 9}, api.Wide{5, 7, 9}, true)
	wantAdd(t, top, api.Wide{}, top, true)
}

func TestAddCarriesFromWordToWord(t *testing.T) {
	wantAdd(t, api.Wide{most}, api.Wide{1}, api.Wide{0, 1}, true)
	wantAdd(t, api.Wide{most}, api.Wide{most}, api.Wide{most - 1, 1}, true)
	for i := range words {
		wantAdd(t, below(64*i), api.Wide{1}, power(64*i), true)
		wantAdd(t, api.Wide{1}, below(64*i), power(64*i), true)
	}
	wantAdd(t, api.Wide{most, most, 5}, api.Wide{most, most, 6}, api.Wide{most - 1, most, 12}, true)
}

func TestAddAtItsBound(t *testing.T) {
	wantAdd(t, top, api.Wide{1}, api.Wide{}, false)
	wantAdd(t, api.Wide{1}, top, api.Wide{}, false)
	wantAdd(t, top, api.Wide{2}, api.Wide{1}, false)
	wantAdd(t, top, top, api.Wide{most - 1, most, most, most, most, most, most, most}, false)
	wantAdd(t, power(511), power(511), api.Wide{}, false)
	wantAdd(t, power(511), below(511), top, true)
	for i := range words {
		high := wide.Shift(top, 64*i)
		wantAdd(t, high, below(64*i), top, true)
		wantAdd(t, high, power(64*i), api.Wide{}, false)
	}
}

func TestAddOfAnyNumbers(t *testing.T) {
	for _, a := range someNumbers() {
		for _, b := range someNumbers() {
			sum, is := modulo(new(big.Int).Add(toBig(a), toBig(b)))
			wantAdd(t, a, b, sum, is)
		}
	}
}

// Wd1: Sub.

func TestSubIsTheDifference(t *testing.T) {
	wantSub(t, api.Wide{}, api.Wide{}, api.Wide{}, true)
	wantSub(t, api.Wide{5}, api.Wide{3}, api.Wide{2}, true)
	wantSub(t, api.Wide{5, 7, 9}, api.Wide{3, 0, 9}, api.Wide{2, 7}, true)
	wantSub(t, top, top, api.Wide{}, true)
	wantSub(t, top, api.Wide{}, top, true)
}

func TestSubBorrowsFromWordToWord(t *testing.T) {
	wantSub(t, api.Wide{0, 1}, api.Wide{1}, api.Wide{most}, true)
	for i := range words {
		wantSub(t, power(64*i), api.Wide{1}, below(64*i), true)
	}
	wantSub(t, api.Wide{4, 0, 6}, api.Wide{5, 0, 3}, api.Wide{most, most, 2}, true)
}

func TestSubAtItsBound(t *testing.T) {
	wantSub(t, api.Wide{}, api.Wide{1}, top, false)
	wantSub(t, api.Wide{}, top, api.Wide{1}, false)
	wantSub(t, api.Wide{3}, api.Wide{4}, top, false)
	wantSub(t, api.Wide{4}, api.Wide{4}, api.Wide{}, true)
	wantSub(t, api.Wide{most, most, most, most, most, most, most, most - 1}, top, api.Wide{0, 0, 0, 0, 0, 0, 0, most}, false)
	for i := range words {
		wantSub(t, below(64*i), power(64*i), top, false)
		wantSub(t, api.Wide{}, power(64*i), wide.Shift(top, 64*i), false)
	}
}

func TestSubOfAnyNumbers(t *testing.T) {
	for _, a := range someNumbers() {
		for _, b := range someNumbers() {
			diff, is := modulo(new(big.Int).Sub(toBig(a), toBig(b)))
			wantSub(t, a, b, diff, is)
		}
	}
}

// Wd1: Mul.

func TestMulIsTheProduct(t *testing.T) {
	wantMul(t, api.Wide{}, api.Wide{}, api.Wide{}, true)
	wantMul(t, api.Wide{6}, api.Wide{7}, api.Wide{42}, true)
	wantMul(t, api.Wide{1 << 63}, api.Wide{6}, api.Wide{0, 3}, true)
	wantMul(t, api.Wide{0, 3}, api.Wide{0, 0, 5}, api.Wide{0, 0, 0, 15}, true)
	wantMul(t, api.Wide{most}, api.Wide{most}, api.Wide{1, most - 1}, true)
	wantMul(t, api.Wide{most, most}, api.Wide{most, most}, api.Wide{1, 0, most - 1, most}, true)
}

func TestMulByNoughtAndByOne(t *testing.T) {
	for _, a := range someNumbers() {
		wantMul(t, a, api.Wide{}, api.Wide{}, true)
		wantMul(t, api.Wide{}, a, api.Wide{}, true)
		wantMul(t, a, api.Wide{1}, a, true)
		wantMul(t, api.Wide{1}, a, a, true)
	}
}

func TestMulAtItsBound(t *testing.T) {
	wantMul(t, top, top, api.Wide{1}, false)
	wantMul(t, top, api.Wide{2}, api.Wide{most - 1, most, most, most, most, most, most, most}, false)
	wantMul(t, power(511), api.Wide{2}, api.Wide{}, false)
	wantMul(t, power(511), api.Wide{3}, power(511), false)
	wantMul(t, power(256), below(256), wide.Shift(below(256), 256), true)
	// (2^256 - 1) times (2^256 + 1) is 2^512 less 1.
	wantMul(t, below(256), api.Wide{1, 0, 0, 0, 1}, top, true)
	wantMul(t, power(256), power(256), api.Wide{}, false)
}

// The greatest bit of a product, about the bound: 2^i times 2^k is there till i and k are 512 together.
func TestMulOfPowers(t *testing.T) {
	for i := range size {
		for _, k := range []int{0, 1, 63, 64, 65, 255, 256, 448, 511 - i, min(512-i, 511), 511} {
			if i+k < size {
				wantMul(t, power(i), power(k), power(i+k), true)
			} else {
				wantMul(t, power(i), power(k), api.Wide{}, false)
			}
		}
	}
}

func TestMulOfAnyNumbers(t *testing.T) {
	for _, a := range someNumbers() {
		for _, b := range someNumbers() {
			product, is := modulo(new(big.Int).Mul(toBig(a), toBig(b)))
			wantMul(t, a, b, product, is)
		}
	}
}

// Wd2: Cmp.

func TestCmpTellsTheLess(t *testing.T) {
	for _, c := range []struct {
		a, b api.Wide
		want int
	}{
		{api.Wide{}, api.Wide{}, 0},
		{api.Wide{}, api.Wide{1}, -1},
		{api.Wide{1}, api.Wide{}, 1},
		{api.Wide{most}, api.Wide{0, 1}, -1},
		{api.Wide{0, 1}, api.Wide{most}, 1},
		{api.Wide{1 << 63}, api.Wide{1<<63 - 1}, 1},
		{api.Wide{9, 0, 0, 0, 0, 0, 0, 1 << 63}, api.Wide{8, most, 0, 0, 0, 0, 0, 1 << 63}, -1},
		{api.Wide{}, top, -1},
		{top, top, 0},
	} {
		if got := wide.Cmp(c.a, c.b); got != c.want {
			t.Errorf("Cmp(%x, %x): %d", c.a, c.b, got)
		}
	}
}

func TestCmpOfAnyNumbers(t *testing.T) {
	for _, a := range someNumbers() {
		for _, b := range someNumbers() {
			if got := wide.Cmp(a, b); got != toBig(a).Cmp(toBig(b)) {
				t.Errorf("Cmp(%x, %x): %d", a, b, got)
			}
		}
	}
}

// Wd2: Shift.

func TestShiftIsTimesAPower(t *testing.T) {
	wantShift(t, api.Wide{1}, 70, api.Wide{0, 64})
	wantShift(t, api.Wide{5}, 1, api.Wide{10})
	wantShift(t, api.Wide{most}, 4, api.Wide{most - 15, 15})
	wantShift(t, api.Wide{3, 4}, 128, api.Wide{0, 0, 3, 4})
	wantShift(t, top, 511, power(511))
	wantShift(t, api.Wide{2}, 511, api.Wide{})
}

func TestShiftBelowNoughtIsCut(t *testing.T) {
	wantShift(t, api.Wide{0, 64}, -70, api.Wide{1})
	wantShift(t, api.Wide{5}, -1, api.Wide{2})
	wantShift(t, api.Wide{5}, -3, api.Wide{})
	wantShift(t, api.Wide{9, 8, 3, 4}, -128, api.Wide{3, 4})
	wantShift(t, top, -511, api.Wide{1})
	wantShift(t, top, -1, below(511))
	wantShift(t, power(511), -511, api.Wide{1})
}

func TestShiftByNought(t *testing.T) {
	for _, a := range someNumbers() {
		wantShift(t, a, 0, a)
	}
}

func TestShiftBeyondAllBits(t *testing.T) {
	for _, by := range someShifts() {
		if by > -size && by < size {
			continue
		}
		for _, a := range someNumbers() {
			wantShift(t, a, by, api.Wide{})
		}
	}
}

func TestShiftOfAnyNumber(t *testing.T) {
	for _, by := range someShifts() {
		for _, a := range fewNumbers() {
			n := new(big.Int)
			if counted := max(-size, min(by, size)); counted < 0 {
				n.Rsh(toBig(a), uint(-counted))
			} else {
				n.Lsh(toBig(a), uint(counted))
			}
			want, _ := modulo(n)
			wantShift(t, a, by, want)
		}
	}
}

// Wd2: Len.

func TestLenIsHowManyBits(t *testing.T) {
	for a, n := range map[api.Wide]int{
		{}: 0, {1}: 1, {2}: 2, {5}: 3, {most}: 64, {0, 3}: 66, {most, 1}: 65, {7, 0, 0, 0, 0, 0, 0, 1}: 449, top: 512,
	} {
		if wide.Len(a) != n {
			t.Errorf("Len(%x): %d", a, wide.Len(a))
		}
	}
}

func TestLenAboutEachPowerOfTwo(t *testing.T) {
	for i := range size {
		if wide.Len(below(i)) != i || wide.Len(power(i)) != i+1 {
			t.Errorf("Len about 2^%d: %d, %d", i, wide.Len(below(i)), wide.Len(power(i)))
		}
	}
	for _, a := range someNumbers() {
		if wide.Len(a) != toBig(a).BitLen() {
			t.Errorf("Len(%x): %d", a, wide.Len(a))
		}
	}
}

// Wd2: Bit.

func TestBitOfAnyNumber(t *testing.T) {
	for _, a := range someNumbers() {
		n := toBig(a)
		for i := range size {
			if wide.Bit(a, i) != (n.Bit(i) == 1) {
				t.Errorf("Bit(%x, %d): %t", a, i, wide.Bit(a, i))
			}
		}
	}
}

func TestBitOfOneBit(t *testing.T) {
	for i := range size {
		for k := -70; k < size+70; k++ {
			if wide.Bit(power(i), k) != (i == k) {
				t.Errorf("Bit(2^%d, %d): %t", i, k, i != k)
			}
		}
	}
}

func TestBitThatIsNotThere(t *testing.T) {
	for _, i := range []int{
		-1, -2, -63, -64, -65, -511, -512, -513, math.MinInt32, -1 << 32, math.MinInt, math.MinInt + 1,
		512, 513, 575, 576, 1024, math.MaxInt32, 1 << 32, 1<<32 + 5, math.MaxInt - 1, math.MaxInt,
	} {
		for _, a := range []api.Wide{{}, {1}, power(511), top} {
			if wide.Bit(a, i) {
				t.Errorf("Bit(%x, %d)", a, i)
			}
		}
	}
}

// Wd2: Zero.

func TestZeroIsOfNoughtAlone(t *testing.T) {
	if !wide.Zero(api.Wide{}) || !wide.Zero(wide.Of(0)) {
		t.Error("Zero of 0")
	}
	for i := range size {
		if wide.Zero(power(i)) {
			t.Errorf("Zero of 2^%d", i)
		}
	}
	for _, a := range someNumbers() {
		if wide.Zero(a) != (toBig(a).Sign() == 0) {
			t.Errorf("Zero(%x): %t", a, wide.Zero(a))
		}
	}
}

// Wd3.

// told is what a call answers, so that two calls may be compared.
type told struct {
	n  api.Wide
	is bool
}

func tell(n api.Wide, is bool) told { return told{n, is} }

func TestOrderOfTwoDoesNotMatter(t *testing.T) {
	for _, a := range someNumbers() {
		for _, b := range someNumbers() {
			if tell(wide.Add(a, b)) != tell(wide.Add(b, a)) {
				t.Errorf("Add(%x, %x) hangs on the order", a, b)
			}
			if tell(wide.Mul(a, b)) != tell(wide.Mul(b, a)) {
				t.Errorf("Mul(%x, %x) hangs on the order", a, b)
			}
		}
	}
}

func TestOrderOfThreeDoesNotMatter(t *testing.T) {
	for _, a := range fewNumbers() {
		for _, b := range fewNumbers() {
			for _, c := range fewNumbers() {
				ab, is := wide.Add(a, b)
				bc, same := wide.Add(b, c)
				left, still := wide.Add(ab, c)
				right, too := wide.Add(a, bc)
				// Together they are below 2^512 or not, whichever two come first.
				if left != right || (is && still) != (same && too) {
					t.Errorf("sums of %x, %x, %x: %x, %x", a, b, c, left, right)
				}
				ab, _ = wide.Mul(a, b)
				bc, _ = wide.Mul(b, c)
				left, _ = wide.Mul(ab, c)
				right, _ = wide.Mul(a, bc)
				if left != right {
					t.Errorf("products of %x, %x, %x: %x, %x", a, b, c, left, right)
				}
			}
		}
	}
}

func TestProductWithASumIsThatOfBothProducts(t *testing.T) {
	for _, a := range fewNumbers() {
		for _, b := range fewNumbers() {
			for _, c := range fewNumbers() {
				sum, _ := wide.Add(b, c)
				left, _ := wide.Mul(a, sum)
				ab, _ := wide.Mul(a, b)
				ac, _ := wide.Mul(a, c)
				right, _ := wide.Add(ab, ac)
				if left != right {
					t.Errorf("%x with %x and %x: %x, %x", a, b, c, left, right)
				}
			}
		}
	}
}

// What is added is taken away again, whether it went beyond the bound or not.
func TestSumsAndDifferencesUndoEachOther(t *testing.T) {
	for _, a := range someNumbers() {
		for _, b := range someNumbers() {
			sum, is := wide.Add(a, b)
			wantSub(t, sum, b, a, is)
			diff, is := wide.Sub(a, b)
			wantAdd(t, diff, b, a, is)
		}
	}
}

// A shift is a product with a power of 2.
func TestShiftsAreProducts(t *testing.T) {
	for _, a := range fewNumbers() {
		for by := range size {
			product, _ := wide.Mul(a, power(by))
			wantShift(t, a, by, product)
		}
	}
}
