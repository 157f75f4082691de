package quot_test

import (
	"math"
	"math/big"
	"strings"
	"testing"

	"snicket/api"
	"snicket/quot"
	"snicket/wide"
)

const (
	words = 8
	size  = 512
	most  = math.MaxUint64
	half  = 1 << 63
)

// top is the greatest number, topText its digits.
var top = api.Wide{most, most, most, most, most, most, most, most}

const topText = "134078079299425970995740249982058461274793658205923933777235614437217640300735469768018742981669034276900318581" +
	"86486050853753882811946569946433649006084095"

// power is 2^i.
func power(i int) api.Wide {
	var a api.Wide
	a[i/64] = 1 << (i % 64)
	return a
}

// below is 2^i less 1.
func below(i int) api.Wide {
	var a api.Wide
	for k := range i {
		a[k/64] |= 1 << (k % 64)
	}
	return a
}

// mixed is a number of n words in which each bit is now 0, now 1; each seed has its own.
func mixed(seed uint64, n int) api.Wide {
	var a api.Wide
	w := seed*0x9e3779b97f4a7c15 + 1
	for i := range n {
		w = w*6364136223846793005 + 1442695040888963407
		a[i] = w ^ w>>29
	}
	return a
}

// someNumbers is small numbers, those about powers of 2, up to the greatest one, those with noughts between, and mixed ones.
func someNumbers() []api.Wide {
	l := []api.Wide{
		{}, {2}, {3}, {10}, {12}, {18}, {most - 1}, top, {most - 1, most, most, most, most, most, most, most},
		{1, 0, 0, 0, 0, 0, 0, 1}, {0, 0, most}, {most, 0, most, 0, most, 0, most, 0}, {0, most, 0, most, 0, most, 0, most},
		{0, 0, 0, 0, most, most, most, most}, {1_000_000_007}, {10_000_000_000_000_000_000},
	}
	for _, i := range []int{0, 1, 32, 63, 64, 65, 127, 128, 191, 192, 255, 256, 257, 320, 383, 384, 447, 448, 510, 511} {
		p := power(i)
		p[0] |= 1
		l = append(l, power(i), below(i), p)
	}
	for n := range words {
		l = append(l, mixed(uint64(n), n+1), mixed(uint64(n)+100, n+1))
	}
	return l
}

// knotted is each number of n words that are at the bounds of words; the highest word is not 0.
func knotted(n int) []api.Wide {
	l := []api.Wide{{}}
	for i := range n {
		var longer []api.Wide
		for _, a := range l {
			for _, w := range []uint64{0, 1, 3, 1 << 61, half - 1, half, half + 1, most - 1, most} {
				a[i] = w
				if i < n-1 || w > 0 {
					longer = append(longer, a)
				}
			}
		}
		l = longer
	}
	return l
}

func toBig(a api.Wide) *big.Int {
	n := new(big.Int)
	for i := words - 1; i >= 0; i-- {
		n.Lsh(n, 64)
		n.Or(n, new(big.Int).SetUint64(a[i]))
	}
	return n
}

func fromBig(t *testing.T, n *big.Int) api.Wide {
	t.Helper()
	if n.Sign() < 0 || n.BitLen() > size {
		t.Fatalf("%d is no wide number", n)
	}
	var a api.Wide
	rest := new(big.Int).Set(n)
	for i := range words {
		a[i] = new(big.Int).And(rest, new(big.Int).SetUint64(most)).Uint64()
		rest.Rsh(rest, 64)
	}
	return a
}

func plus(t *testing.T, a, b api.Wide) api.Wide {
	t.Helper()
	sum, ok := wide.Add(a, b)
	if !ok {
		t.Fatalf("%x and %x are no wide number", a, b)
	}
	return sum
}

func times(t *testing.T, a, b api.Wide) api.Wide {
	t.Helper()
	product, ok := wide.Mul(a, b)
	if !ok {
		t.Fatalf("%x times %x is no wide number", a, b)
	}
	return product
}

func less(t *testing.T, a, b api.Wide) api.Wide {
	t.Helper()
	diff, ok := wide.Sub(a, b)
	if !ok {
		t.Fatalf("%x less %x is no wide number", a, b)
	}
	return diff
}

func wantOver(t *testing.T, a, b, q, r api.Wide, e api.Errno) {
	t.Helper()
	if gotQ, gotR, gotE := quot.Over(a, b); gotQ != q || gotR != r || gotE != e {
		t.Errorf("Over(%x, %x): %x, %x, %d; want %x, %x, %d", a, b, gotQ, gotR, gotE, q, r, e)
	}
}

// wantOverBig holds a quotient against the one of big numbers.
func wantOverBig(t *testing.T, a, b api.Wide) {
	t.Helper()
	q, r := new(big.Int).QuoRem(toBig(a), toBig(b), new(big.Int))
	wantOver(t, a, b, fromBig(t, q), fromBig(t, r), api.OK)
}

func wantGcd(t *testing.T, a, b, want api.Wide) {
	t.Helper()
	if got := quot.Gcd(a, b); got != want {
		t.Errorf("Gcd(%x, %x): %x; want %x", a, b, got, want)
	}
	if got := quot.Gcd(b, a); got != want {
		t.Errorf("Gcd(%x, %x): %x; want %x", b, a, got, want)
	}
}

func wantRoot(t *testing.T, a, want api.Wide) {
	t.Helper()
	if got := quot.Root(a); got != want {
		t.Errorf("Root(%x): %x; want %x", a, got, want)
	}
}

func wantText(t *testing.T, a api.Wide, want string) {
	t.Helper()
	if got := quot.Text(a); got != want {
		t.Errorf("Text(%x): %s; want %s", a, got, want)
	}
}

// Qo1: Over.

func TestOverIsQuotientAndRest(t *testing.T) {
	wantOver(t, api.Wide{17}, api.Wide{5}, api.Wide{3}, api.Wide{2}, api.OK)
	wantOver(t, api.Wide{15}, api.Wide{5}, api.Wide{3}, api.Wide{}, api.OK)
	wantOver(t, api.Wide{0, 1}, api.Wide{10}, api.Wide{1844674407370955161}, api.Wide{6}, api.OK)
	wantOver(t, api.Wide{7, 0, 1}, api.Wide{0, 1}, api.Wide{0, 1}, api.Wide{7}, api.OK)
	wantOver(t, api.Wide{5, 6, 7}, api.Wide{0, 2}, api.Wide{half + 3, 3}, api.Wide{5}, api.OK)
}

func TestOverOfNoughtIsRefused(t *testing.T) {
	for _, a := range someNumbers() {
		wantOver(t, a, api.Wide{}, api.Wide{}, api.Wide{}, api.ErrArg)
	}
}

func TestOverOfNoughtDivided(t *testing.T) {
	for _, b := range someNumbers()[1:] {
		if b != (api.Wide{}) {
			wantOver(t, api.Wide{}, b, api.Wide{}, api.Wide{}, api.OK)
		}
	}
}

func TestOverByOne(t *testing.T) {
	for _, a := range someNumbers() {
		wantOver(t, a, api.Wide{1}, a, api.Wide{}, api.OK)
	}
}

func TestOverByTheSame(t *testing.T) {
	for _, a := range someNumbers()[1:] {
		if a != (api.Wide{}) {
			wantOver(t, a, a, api.Wide{1}, api.Wide{}, api.OK)
		}
	}
}

func TestOverByOneThatIsGreater(t *testing.T) {
	wantOver(t, api.Wide{4}, api.Wide{5}, api.Wide{}, api.Wide{4}, api.OK)
	wantOver(t, api.Wide{most}, api.Wide{0, 1}, api.Wide{}, api.Wide{most}, api.OK)
	for i := 1; i < size; i++ {
		wantOver(t, below(i), power(i), api.Wide{}, below(i), api.OK)
		wantOver(t, power(i), plus(t, power(i), api.Wide{1}), api.Wide{}, power(i), api.OK)
		wantOver(t, power(i), top, api.Wide{}, power(i), api.OK)
	}
}

func TestOverByOneThatIsALittleLess(t *testing.T) {
	for i := 2; i < size; i++ {
		wantOver(t, power(i), below(i), api.Wide{1}, api.Wide{1}, api.OK)
		wantOver(t, plus(t, power(i), api.Wide{1}), power(i), api.Wide{1}, api.Wide{1}, api.OK)
	}
}

func TestOverOfTheGreatestNumber(t *testing.T) {
	wantOver(t, top, top, api.Wide{1}, api.Wide{}, api.OK)
	wantOver(t, top, api.Wide{1}, top, api.Wide{}, api.OK)
	wantOver(t, top, api.Wide{2}, below(511), api.Wide{1}, api.OK)
	wantOver(t, top, api.Wide{most}, api.Wide{1, 1, 1, 1, 1, 1, 1, 1}, api.Wide{}, api.OK)
	wantOver(t, top, below(256), plus(t, power(256), api.Wide{1}), api.Wide{}, api.OK)
	wantOver(t, top, less(t, top, api.Wide{1}), api.Wide{1}, api.Wide{1}, api.OK)
	wantOver(t, less(t, top, api.Wide{1}), top, api.Wide{}, less(t, top, api.Wide{1}), api.OK)
	for i := range size {
		wantOver(t, top, power(i), below(size-i), below(i), api.OK)
	}
}

func TestOverOfAnyNumbers(t *testing.T) {
	for _, a := range someNumbers() {
		for _, b := range someNumbers() {
			if b != (api.Wide{}) {
				wantOverBig(t, a, b)
			}
		}
	}
}

func TestOverByNumbersOfEachLength(t *testing.T) {
	for n := 1; n <= words; n++ {
		for m := 1; m <= words; m++ {
			for seed := range uint64(40) {
				a, b := mixed(seed, n), mixed(seed+1000, m)
				wantOverBig(t, a, wide.Shift(b, -int(seed)))
			}
		}
	}
}

// Of words at their bounds a guess of a quotient's word may be too great, once or twice, or be no word.
func TestOverOfWordsAtTheirBounds(t *testing.T) {
	for n := 1; n <= 4; n++ {
		for _, a := range knotted(n) {
			for _, b := range knotted(2) {
				wantOverBig(t, a, b)
			}
		}
	}
	for _, a := range knotted(3) {
		for _, b := range knotted(3) {
			wantOverBig(t, a, b)
		}
	}
}

// The same ones at the top of a number: there is no word beyond.
func TestOverOfWordsAtTheTop(t *testing.T) {
	for _, a := range knotted(3) {
		for _, b := range knotted(2) {
			high := wide.Shift(a, 64*5)
			wantOverBig(t, high, wide.Shift(b, 64*5))
			wantOverBig(t, high, wide.Shift(b, 64*6))
			wantOverBig(t, high, plus(t, wide.Shift(b, 64*3), api.Wide{1}))
		}
	}
}

// Qo1: Gcd.

func TestGcdIsWhatDividesBothMost(t *testing.T) {
	wantGcd(t, api.Wide{12}, api.Wide{18}, api.Wide{6})
	wantGcd(t, api.Wide{7}, api.Wide{21}, api.Wide{7})
	wantGcd(t, api.Wide{100}, api.Wide{75}, api.Wide{25})
	wantGcd(t, api.Wide{0, 12}, api.Wide{0, 18}, api.Wide{0, 6})
	wantGcd(t, api.Wide{0, 0, 0, 0, 0, 0, 0, 12}, api.Wide{0, 0, 0, 0, 0, 0, 0, 18}, api.Wide{0, 0, 0, 0, 0, 0, 0, 6})
}

func TestGcdOfNought(t *testing.T) {
	wantGcd(t, api.Wide{}, api.Wide{}, api.Wide{})
	for _, a := range someNumbers() {
		wantGcd(t, a, api.Wide{}, a)
	}
}

func TestGcdOfTheSame(t *testing.T) {
	for _, a := range someNumbers() {
		wantGcd(t, a, a, a)
	}
}

func TestGcdOfWhatHasNothingInCommon(t *testing.T) {
	wantGcd(t, api.Wide{8}, api.Wide{9}, api.Wide{1})
	wantGcd(t, api.Wide{most}, api.Wide{0, 1}, api.Wide{1})
	wantGcd(t, top, power(511), api.Wide{1})
	wantGcd(t, top, less(t, top, api.Wide{1}), api.Wide{1})
	for _, a := range someNumbers() {
		wantGcd(t, a, api.Wide{1}, api.Wide{1})
	}
}

func TestGcdOfTheGreatestNumber(t *testing.T) {
	wantGcd(t, top, api.Wide{3}, api.Wide{3})
	wantGcd(t, top, api.Wide{most}, api.Wide{most})
	// 2^i - 1 and 2^k - 1 have 2^g - 1 in common, of g that divides both i and k most.
	for i := 1; i < size; i++ {
		wantGcd(t, top, below(i), below(i&-i))
	}
}

// Each number of the row is the sum of the two ahead: so each quotient is 1, and there are as many as there can be.
func TestGcdOfALongRow(t *testing.T) {
	a, b := api.Wide{1}, api.Wide{1}
	for {
		wantGcd(t, a, b, api.Wide{1})
		sum, ok := wide.Add(a, b)
		if !ok {
			return
		}
		a, b = b, sum
	}
}

func TestGcdOfAnyNumbers(t *testing.T) {
	for _, a := range someNumbers() {
		for _, b := range someNumbers() {
			wantGcd(t, a, b, fromBig(t, new(big.Int).GCD(nil, nil, toBig(a), toBig(b))))
		}
	}
}

func TestGcdOfWhatIsMadeOfAFactor(t *testing.T) {
	for n := 1; n <= 4; n++ {
		for seed := range uint64(20) {
			factor := mixed(seed, n)
			a, b := times(t, factor, mixed(seed+50, 4)), times(t, factor, mixed(seed+90, 3))
			wantGcd(t, a, b, fromBig(t, new(big.Int).GCD(nil, nil, toBig(a), toBig(b))))
			if _, rest, e := quot.Over(quot.Gcd(a, b), factor); e != api.OK || rest != (api.Wide{}) {
				t.Errorf("Gcd(%x, %x) is not divided by %x", a, b, factor)
			}
		}
	}
}

// Qo1: Root.

func TestRootIsTheGreatestWhoseSquareIsNotAbove(t *testing.T) {
	for a, root := range []uint64{0, 1, 1, 1, 2, 2, 2, 2, 2, 3, 3, 3, 3, 3, 3, 3, 4, 4} {
		wantRoot(t, api.Wide{uint64(a)}, api.Wide{root})
	}
	wantRoot(t, api.Wide{99}, api.Wide{9})
	wantRoot(t, api.Wide{100}, api.Wide{10})
	wantRoot(t, api.Wide{most}, api.Wide{1<<32 - 1})
	wantRoot(t, api.Wide{0, 1}, api.Wide{1 << 32})
}

func TestRootOfTheGreatestNumber(t *testing.T) {
	wantRoot(t, top, below(256))
	wantRoot(t, less(t, top, api.Wide{1}), below(256))
}

func TestRootOfPowersOfTwo(t *testing.T) {
	for i := range size {
		wantRoot(t, power(i), fromBig(t, new(big.Int).Sqrt(toBig(power(i)))))
		wantRoot(t, below(i), fromBig(t, new(big.Int).Sqrt(toBig(below(i)))))
	}
	for i := range size / 2 {
		wantRoot(t, power(2*i), power(i))
	}
}

// roots is numbers of 256 bits at most, above 0.
func roots(t *testing.T) []api.Wide {
	t.Helper()
	var l []api.Wide
	for n := uint64(1); n <= 300; n++ {
		l = append(l, api.Wide{n})
	}
	for i := 2; i <= 256; i++ {
		l = append(l, below(i), less(t, below(i), api.Wide{1}), plus(t, power(i-1), api.Wide{1}))
	}
	for seed := range uint64(100) {
		l = append(l, mixed(seed, int(seed%4)+1))
	}
	return l
}

func TestRootOfSquaresAndTheirNeighbours(t *testing.T) {
	for _, root := range roots(t) {
		square := times(t, root, root)
		wantRoot(t, square, root)
		wantRoot(t, less(t, square, api.Wide{1}), less(t, root, api.Wide{1}))
		wantRoot(t, plus(t, square, api.Wide{1}), root)
		// The greatest number of which this is the root: the next square less 1.
		last := plus(t, square, wide.Shift(root, 1))
		wantRoot(t, last, root)
	}
}

func TestRootOfAnyNumber(t *testing.T) {
	for _, a := range someNumbers() {
		wantRoot(t, a, fromBig(t, new(big.Int).Sqrt(toBig(a))))
	}
	for n := range uint64(2000) {
		wantRoot(t, api.Wide{n}, fromBig(t, new(big.Int).Sqrt(toBig(api.Wide{n}))))
	}
}

// Qo1: Text.

func TestTextIsTheDigits(t *testing.T) {
	wantText(t, api.Wide{}, "0")
	wantText(t, api.Wide{1}, "1")
	wantText(t, api.Wide{105}, "105")
	wantText(t, api.Wide{most}, "18446744073709551615")
	wantText(t, api.Wide{0, 1}, "18446744073709551616")
	wantText(t, top, topText)
}

func TestTextAboutPowersOfTen(t *testing.T) {
	ten := api.Wide{1}
	for digits := 1; ; digits++ {
		wantText(t, ten, "1"+strings.Repeat("0", digits-1))
		wantText(t, plus(t, ten, api.Wide{1}), toBig(plus(t, ten, api.Wide{1})).String())
		if digits > 1 {
			wantText(t, less(t, ten, api.Wide{1}), strings.Repeat("9", digits-1))
		}
		next, ok := wide.Mul(ten, api.Wide{10})
		if !ok {
			if digits != len(topText) {
				t.Errorf("%d digits; want %d", digits, len(topText))
			}
			return
		}
		ten = next
	}
}

func TestTextOfAnyNumber(t *testing.T) {
	for _, a := range someNumbers() {
		wantText(t, a, toBig(a).String())
	}
	for seed := range uint64(200) {
		a := mixed(seed, int(seed%words)+1)
		wantText(t, a, toBig(a).String())
	}
}

// Qo2.

func TestQuotientTimesDivisorAndRestIsWhatWasDivided(t *testing.T) {
	for _, a := range someNumbers() {
		for _, b := range someNumbers() {
			q, r, e := quot.Over(a, b)
			if b == (api.Wide{}) {
				continue
			}
			if e != api.OK || wide.Cmp(r, b) >= 0 || plus(t, times(t, q, b), r) != a {
				t.Errorf("Over(%x, %x): %x, %x, %d", a, b, q, r, e)
			}
		}
	}
}

func TestWhatDividesMostDividesBothAndIsDivided(t *testing.T) {
	for _, a := range someNumbers() {
		for _, b := range someNumbers() {
			g := quot.Gcd(a, b)
			if g == (api.Wide{}) {
				if a != g || b != g {
					t.Errorf("Gcd(%x, %x): 0", a, b)
				}
				continue
			}
			overA, restA, _ := quot.Over(a, g)
			overB, restB, _ := quot.Over(b, g)
			if restA != (api.Wide{}) || restB != (api.Wide{}) {
				t.Errorf("Gcd(%x, %x): %x does not divide both", a, b, g)
			}
			// What is left has nothing but 1 in common: so all that divides both divides this.
			wantGcd(t, overA, overB, api.Wide{1})
		}
	}
}

func TestAllThatDividesBothDividesWhatDividesMost(t *testing.T) {
	for a := uint64(1); a <= 60; a++ {
		for b := uint64(1); b <= 60; b++ {
			g := quot.Gcd(api.Wide{a}, api.Wide{b})[0]
			for d := uint64(1); d <= 60; d++ {
				if g == 0 || a%d == 0 && b%d == 0 && g%d != 0 {
					t.Errorf("Gcd(%d, %d): %d is not divided by %d", a, b, g, d)
				}
			}
		}
	}
}
