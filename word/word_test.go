package word_test

import (
	"math"
	"math/big"
	"testing"

	"snicket/word"
)

const most = math.MaxUint64

// someWords is small words, those about the powers of 2, up to the greatest one, and words of mixed bits.
func someWords() []uint64 {
	l := []uint64{0, 1, 2, 3, 5, 7, 10, 1000, most, most - 1, most - 2, most / 3, most / 3 * 2, most / 10}
	for _, i := range []int{8, 16, 31, 32, 33, 47, 62, 63} {
		p := uint64(1) << i
		l = append(l, p-1, p, p+1)
	}
	// A fixed row of words in which each bit is now 0, now 1.
	for w := uint64(0x9e3779b97f4a7c15); len(l) < 60; w = w*6364136223846793005 + 1442695040888963407 {
		l = append(l, w, w>>32)
	}
	return l
}

// carries is what may be handed over as a carry: above 1 all count as 1.
func carries() []uint64 {
	return []uint64{0, 1, 2, 3, 4, 256, 1 << 32, 1 << 63, most - 1, most}
}

func big64(a uint64) *big.Int { return new(big.Int).SetUint64(a) }

// together is high times 2^64, and low.
func together(high, low uint64) *big.Int {
	n := new(big.Int).Lsh(big64(high), 64)
	return n.Add(n, big64(low))
}

// counted is what a carry counts as.
func counted(carry uint64) uint64 {
	if carry > 0 {
		return 1
	}
	return 0
}

func wantAdd(t *testing.T, a, b, carry, sum, out uint64) {
	t.Helper()
	if s, o := word.Add(a, b, carry); s != sum || o != out {
		t.Errorf("Add(%d, %d, %d): %d, %d; want %d, %d", a, b, carry, s, o, sum, out)
	}
}

func wantSub(t *testing.T, a, b, borrow, diff, out uint64) {
	t.Helper()
	if d, o := word.Sub(a, b, borrow); d != diff || o != out {
		t.Errorf("Sub(%d, %d, %d): %d, %d; want %d, %d", a, b, borrow, d, o, diff, out)
	}
}

func wantMul(t *testing.T, a, b, high, low uint64) {
	t.Helper()
	if h, l := word.Mul(a, b); h != high || l != low {
		t.Errorf("Mul(%d, %d): %d, %d; want %d, %d", a, b, h, l, high, low)
	}
}

func wantDiv(t *testing.T, high, low, by, quot, rest uint64, ok bool) {
	t.Helper()
	if q, r, k := word.Div(high, low, by); q != quot || r != rest || k != ok {
		t.Errorf("Div(%d, %d, %d): %d, %d, %t; want %d, %d, %t", high, low, by, q, r, k, quot, rest, ok)
	}
}

func wantTwo(t *testing.T, n int, neg bool, size uint64) {
	t.Helper()
	if b, s := word.Two(n); b != neg || s != size {
		t.Errorf("Two(%d): %t, %d; want %t, %d", n, b, s, neg, size)
	}
}

// Wo1: Add.

func TestAddIsTheSum(t *testing.T) {
	wantAdd(t, 0, 0, 0, 0, 0)
	wantAdd(t, 2, 3, 0, 5, 0)
	wantAdd(t, 2, 3, 1, 6, 0)
	wantAdd(t, 1<<63, 5, 0, 1<<63+5, 0)
}

func TestAddAtItsBound(t *testing.T) {
	wantAdd(t, most, 0, 0, most, 0)
	wantAdd(t, most, 1, 0, 0, 1)
	wantAdd(t, most, 0, 1, 0, 1)
	wantAdd(t, 0, most, 1, 0, 1)
	wantAdd(t, most, 1, 1, 1, 1)
	wantAdd(t, most, most, 0, most-1, 1)
	wantAdd(t, most, most, 1, most, 1)
	wantAdd(t, 1<<63, 1<<63, 0, 0, 1)
	wantAdd(t, 1<<63, 1<<63-1, 0, most, 0)
	wantAdd(t, 1<<63, 1<<63-1, 1, 0, 1)
}

func TestAddOfACarryAboveOne(t *testing.T) {
	for _, c := range carries()[1:] {
		wantAdd(t, 0, 0, c, 1, 0)
		wantAdd(t, 2, 3, c, 6, 0)
		wantAdd(t, most, 0, c, 0, 1)
		wantAdd(t, most, most, c, most, 1)
		wantAdd(t, most-1, 0, c, most, 0)
	}
}

func TestAddOfAnyWords(t *testing.T) {
	for _, a := range someWords() {
		for _, b := range someWords() {
			for _, c := range carries() {
				sum := new(big.Int).Add(big64(a), big64(b))
				sum.Add(sum, big64(counted(c)))
				if s, o := word.Add(a, b, c); o > 1 || together(o, s).Cmp(sum) != 0 {
					t.Errorf("Add(%d, %d, %d): %d, %d", a, b, c, s, o)
				}
			}
		}
	}
}

// Wo1: Sub.

func TestSubIsTheDifference(t *testing.T) {
	wantSub(t, 0, 0, 0, 0, 0)
	wantSub(t, 5, 3, 0, 2, 0)
	wantSub(t, 5, 3, 1, 1, 0)
	wantSub(t, most, 1<<63, 0, 1<<63-1, 0)
}

func TestSubAtItsBound(t *testing.T) {
	wantSub(t, 3, 3, 0, 0, 0)
	wantSub(t, 3, 3, 1, most, 1)
	wantSub(t, 3, 2, 1, 0, 0)
	wantSub(t, 3, 4, 0, most, 1)
	wantSub(t, 3, 5, 1, most-2, 1)
	wantSub(t, 0, 1, 0, most, 1)
	wantSub(t, 0, 0, 1, most, 1)
	wantSub(t, 0, most, 0, 1, 1)
	wantSub(t, 0, most, 1, 0, 1)
	wantSub(t, most, most, 0, 0, 0)
	wantSub(t, most, most, 1, most, 1)
}

func TestSubOfABorrowAboveOne(t *testing.T) {
	for _, c := range carries()[1:] {
		wantSub(t, 0, 0, c, most, 1)
		wantSub(t, 5, 3, c, 1, 0)
		wantSub(t, 1, 0, c, 0, 0)
		wantSub(t, 0, most, c, 0, 1)
		wantSub(t, most, most, c, most, 1)
	}
}

func TestSubOfAnyWords(t *testing.T) {
	for _, a := range someWords() {
		for _, b := range someWords() {
			for _, c := range carries() {
				diff := new(big.Int).Sub(big64(a), big64(b))
				diff.Sub(diff, big64(counted(c)))
				d, o := word.Sub(a, b, c)
				// A borrow stands for 2^64 that was lent.
				if o > 1 || new(big.Int).Sub(big64(d), together(o, 0)).Cmp(diff) != 0 {
					t.Errorf("Sub(%d, %d, %d): %d, %d", a, b, c, d, o)
				}
			}
		}
	}
}

// Wo1: Mul.

func TestMulIsTheProduct(t *testing.T) {
	wantMul(t, 0, 0, 0, 0)
	wantMul(t, 0, most, 0, 0)
	wantMul(t, most, 0, 0, 0)
	wantMul(t, 1, most, 0, most)
	wantMul(t, 6, 7, 0, 42)
	wantMul(t, 1<<63, 6, 3, 0)
}

func TestMulAtItsBound(t *testing.T) {
	wantMul(t, 1<<32-1, 1<<32+1, 0, most)
	wantMul(t, 1<<32, 1<<32, 1, 0)
	wantMul(t, most, 2, 1, most-1)
	wantMul(t, most, most, most-1, 1)
	wantMul(t, 1<<63, 1<<63, 1<<62, 0)
}

func TestMulOfAnyWords(t *testing.T) {
	for _, a := range someWords() {
		for _, b := range someWords() {
			h, l := word.Mul(a, b)
			if together(h, l).Cmp(new(big.Int).Mul(big64(a), big64(b))) != 0 {
				t.Errorf("Mul(%d, %d): %d, %d", a, b, h, l)
			}
		}
	}
}

// Wo2: Div.

func TestDivIsTheQuotient(t *testing.T) {
	wantDiv(t, 0, 0, 1, 0, 0, true)
	wantDiv(t, 0, 17, 5, 3, 2, true)
	wantDiv(t, 0, 4, 5, 0, 4, true)
	wantDiv(t, 0, most, 1, most, 0, true)
	wantDiv(t, 1, 0, 10, 1844674407370955161, 6, true)
	wantDiv(t, 3, 0, 6, 1<<63, 0, true)
}

func TestDivAtItsBound(t *testing.T) {
	wantDiv(t, 0, 5, 0, 0, 0, false)
	wantDiv(t, 0, 0, 0, 0, 0, false)
	wantDiv(t, 7, 0, 0, 0, 0, false)
	wantDiv(t, 1, 0, 1, 0, 0, false)
	wantDiv(t, 1, 5, 1, 0, 0, false)
	wantDiv(t, 2, 5, 1, 0, 0, false)
	wantDiv(t, 1, 0, 2, 1<<63, 0, true)
	wantDiv(t, 1, most, 2, most, 1, true)
	wantDiv(t, 9, 4, 9, 0, 0, false)
	wantDiv(t, 8, most, 9, most, 8, true)
	wantDiv(t, most, 0, most, 0, 0, false)
	wantDiv(t, most, most, most, 0, 0, false)
	wantDiv(t, most-1, most, most, most, most-1, true)
}

func TestDivOfAnyWords(t *testing.T) {
	for _, high := range someWords() {
		for _, low := range someWords() {
			for _, by := range someWords() {
				if by <= high {
					wantDiv(t, high, low, by, 0, 0, false)
					continue
				}
				q, r := new(big.Int).QuoRem(together(high, low), big64(by), new(big.Int))
				if !q.IsUint64() || !r.IsUint64() {
					t.Fatalf("%d, %d by %d is no word", high, low, by)
				}
				wantDiv(t, high, low, by, q.Uint64(), r.Uint64(), true)
			}
		}
	}
}

// Wo2: Len.

func TestLenIsHowManyBits(t *testing.T) {
	for a, n := range map[uint64]int{0: 0, 1: 1, 2: 2, 3: 2, 4: 3, 5: 3, 255: 8, 256: 9, 1 << 63: 64, most: 64} {
		if word.Len(a) != n {
			t.Errorf("Len(%d): %d", a, word.Len(a))
		}
	}
}

func TestLenAboutEachPowerOfTwo(t *testing.T) {
	for i := range 64 {
		p := uint64(1) << i
		if word.Len(p-1) != i || word.Len(p) != i+1 || word.Len(p|1) != i+1 {
			t.Errorf("Len about 2^%d: %d, %d, %d", i, word.Len(p-1), word.Len(p), word.Len(p|1))
		}
	}
}

func TestLenOfAnyWord(t *testing.T) {
	for _, a := range someWords() {
		if word.Len(a) != big64(a).BitLen() {
			t.Errorf("Len(%d): %d", a, word.Len(a))
		}
	}
}

// Wo2: Two.

func TestTwoIsTheSignAndTheSize(t *testing.T) {
	wantTwo(t, 0, false, 0)
	wantTwo(t, 1, false, 1)
	wantTwo(t, -1, true, 1)
	wantTwo(t, 105, false, 105)
	wantTwo(t, -105, true, 105)
	wantTwo(t, 1<<32, false, 1<<32)
	wantTwo(t, -1<<32, true, 1<<32)
}

func TestTwoAtItsBounds(t *testing.T) {
	wantTwo(t, math.MaxInt, false, 1<<63-1)
	wantTwo(t, math.MaxInt-1, false, 1<<63-2)
	wantTwo(t, math.MinInt, true, 1<<63)
	wantTwo(t, math.MinInt+1, true, 1<<63-1)
}

func TestTwoOfAnyNumber(t *testing.T) {
	for _, a := range someWords() {
		n := big.NewInt(int64(a))
		wantTwo(t, int(a), n.Sign() < 0, new(big.Int).Abs(n).Uint64())
	}
}

// Wo3.

func TestWhatIsAddedIsTakenAwayAgain(t *testing.T) {
	for _, a := range someWords() {
		for _, b := range someWords() {
			for _, c := range carries() {
				sum, out := word.Add(a, b, c)
				// What was carried out is what must be lent to come back.
				wantSub(t, sum, b, c, a, out)
				diff, out := word.Sub(a, b, c)
				wantAdd(t, diff, b, c, a, out)
			}
		}
	}
}

func TestQuotientDivisorAndRestMakeWhatWasDivided(t *testing.T) {
	for _, high := range someWords() {
		for _, low := range someWords() {
			for _, by := range someWords() {
				q, r, ok := word.Div(high, low, by)
				if !ok {
					continue
				}
				h, l := word.Mul(q, by)
				l, carry := word.Add(l, r, 0)
				h, over := word.Add(h, 0, carry)
				if h != high || l != low || over != 0 || r >= by {
					t.Errorf("Div(%d, %d, %d): %d, %d", high, low, by, q, r)
				}
			}
		}
	}
}

// A product by what multiplied it is what it was made of.
func TestProductsAreDivided(t *testing.T) {
	for _, a := range someWords() {
		for _, b := range someWords() {
			if b == 0 {
				continue
			}
			high, low := word.Mul(a, b)
			wantDiv(t, high, low, b, a, 0, true)
		}
	}
}
