package spot_test

import (
	"math"
	"math/big"
	"slices"
	"testing"

	"snicket/api"
	"snicket/meet"
	"snicket/point"
	"snicket/sign"
	"snicket/spot"
)

const (
	edge  = 1 << 29
	words = 8
	small = 120
	most  = math.MaxUint64
	half  = 1 << 63
)

// top is the greatest number that a wide one holds.
var top = api.Wide{most, most, most, most, most, most, most, most}

// one is 1, bare is 0 as it may not be.
var (
	one  = api.Wide{1}
	bare = api.Int{Neg: true}
)

// pt is a point, seg is a line, back is a line turned about.
func pt(x, y int) api.Pt { return api.Pt{X: x, Y: y} }

func seg(ax, ay, bx, by int) api.Seg { return api.Seg{A: pt(ax, ay), B: pt(bx, by)} }

func back(s api.Seg) api.Seg { return api.Seg{A: s.B, B: s.A} }

// told is a spot whose numbers are as they are told, be they in lowest terms or not.
func told(x, y int, w uint64) api.Spot {
	return api.Spot{X: sign.Of(x), Y: sign.Of(y), W: api.Wide{w}}
}

// above and below are numbers of a size.
func above(mag api.Wide) api.Int { return api.Int{Mag: mag} }

func below(mag api.Wide) api.Int { return api.Int{Neg: true, Mag: mag} }

// power is 2^i.
func power(i int) api.Wide {
	var a api.Wide
	a[i/64] = 1 << (i % 64)
	return a
}

// ones is 2^i less 1.
func ones(i int) api.Wide {
	var a api.Wide
	for k := range i {
		a[k/64] |= 1 << (k % 64)
	}
	return a
}

// mixed is a size of that many bits in which each bit is now 0, now 1, but the highest one, which is 1; each seed has its own.
func mixed(seed uint64, bits int) api.Wide {
	var a api.Wide
	w := seed*0x9e3779b97f4a7c15 + 1
	for i := range bits {
		w = w*6364136223846793005 + 1442695040888963407
		a[i/64] |= w >> 63 << (i % 64)
	}
	a[(bits-1)/64] |= 1 << ((bits - 1) % 64)
	return a
}

// someWides is sizes that are not 0, from the least to the greatest one.
func someWides() []api.Wide {
	return []api.Wide{
		{1}, {2}, {6}, {15}, {half}, {most}, {0, 1}, {1, 1}, power(119), ones(120), power(120), ones(121), ones(240),
		ones(256), power(360), power(511), top, mixed(1, 64), mixed(2, 119), mixed(3, 200), mixed(4, 384), mixed(5, 512),
	}
}

// someInts is 0, also as it may not be, and numbers of either sign.
func someInts() []api.Int {
	l := []api.Int{{}, bare}
	for _, mag := range someWides() {
		l = append(l, above(mag), below(mag))
	}
	return l
}

// someSpots is spots that may be, each once: of small parts, points of the grid, and the greatest ones.
func someSpots() []api.Spot {
	l := []api.Spot{told(edge, -edge, 1), told(-edge, edge, 1), told(math.MaxInt, math.MinInt, 1), told(math.MinInt, 7, half)}
	for x := -3; x <= 3; x++ {
		for y := -3; y <= 3; y++ {
			for w := 1; w <= 4; w++ {
				if isLowest(told(x, y, uint64(w))) {
					l = append(l, told(x, y, uint64(w)))
				}
			}
		}
	}
	return append(l, greatSpots()...)
}

// greatSpots is spots that may be of which one number or more has 120 bits.
func greatSpots() []api.Spot {
	var l []api.Spot
	sizes := []api.Wide{one, power(119), ones(119), ones(small), mixed(1, small), mixed(2, small)}
	for _, x := range sizes {
		for _, y := range sizes {
			for _, w := range sizes {
				a := api.Spot{X: above(x), Y: below(y), W: w}
				if !isLowest(a) || x == one && y == one && w == one {
					continue
				}
				l = append(l, a, api.Spot{X: below(x), Y: above(y), W: w})
			}
		}
	}
	return l
}

// tooLong is spots in lowest terms of which one number or more has above 120 bits.
func tooLong() []api.Spot {
	l := []api.Spot{{X: above(ones(121)), Y: below(power(120)), W: ones(121)}}
	for _, mag := range []api.Wide{power(120), ones(121), power(128), power(511), top} {
		l = append(l, api.Spot{X: above(mag), Y: above(one), W: one}, api.Spot{X: below(mag), W: one},
			api.Spot{X: above(one), Y: above(mag), W: one}, api.Spot{Y: below(mag), W: one},
			api.Spot{X: above(one), Y: above(one), W: mag}, api.Spot{X: below(one), W: mag}, api.Spot{Y: below(one), W: mag})
	}
	return l
}

// notLowest is spots that are not in lowest terms.
func notLowest() []api.Spot {
	l := []api.Spot{
		{}, told(1, 0, 0), told(0, 1, 0), told(1, 1, 0), told(-1, 2, 0), told(2, 4, 0), told(0, 0, 2), told(2, 0, 2), told(0, 2, 2),
		told(2, 2, 2), told(-2, 2, 2), told(2, -2, 2), told(-6, 9, 12), told(6, -9, 3), told(4, 2, 6), told(30, 42, 70), told(0, 9, 3),
	}
	l = append(l, api.Spot{X: bare}, api.Spot{Y: bare}, api.Spot{X: bare, Y: bare, W: one}, api.Spot{X: bare, W: one},
		api.Spot{Y: bare, W: one}, api.Spot{X: bare, Y: above(one), W: one}, api.Spot{X: above(one), Y: bare, W: one},
		api.Spot{X: bare, Y: below(one), W: api.Wide{2}}, api.Spot{X: below(one), Y: bare, W: api.Wide{2}})
	return append(l, api.Spot{X: above(power(119)), Y: below(power(119)), W: power(119)},
		api.Spot{X: above(ones(small)), Y: below(ones(60)), W: api.Wide{3}}, api.Spot{X: above(top), Y: above(top), W: top})
}

// unfit is spots that may not be.
func unfit() []api.Spot { return append(notLowest(), tooLong()...) }

// strangers is points that may not be, by X, by Y, or by both.
func strangers() []api.Pt {
	l := []api.Pt{pt(edge+1, -edge-1)}
	for _, n := range []int{edge + 1, -edge - 1, math.MaxInt, math.MinInt} {
		l = append(l, pt(n, 0), pt(0, n), pt(n, 7), pt(-7, n), pt(n, n))
	}
	return l
}

// wrongLines is lines that may not be: of one point, and those with an end, or both, that may not be.
func wrongLines() []api.Seg {
	l := []api.Seg{{}, seg(3, 4, 3, 4), seg(edge, -edge, edge, -edge)}
	for _, p := range strangers() {
		l = append(l, api.Seg{A: p, B: pt(1, 2)}, api.Seg{A: pt(1, 2), B: p}, api.Seg{A: p, B: p}, api.Seg{A: pt(0, 0), B: p})
	}
	return append(l, seg(edge+1, 0, -edge-1, 0), seg(0, math.MinInt, 0, math.MaxInt), seg(0, edge, 0, edge+1))
}

// rightLines is level, upright and slanting lines, short ones and the longest ones, each forth and back.
func rightLines() []api.Seg {
	l := []api.Seg{
		seg(0, 0, 1, 1), seg(-3, 5, 4, 5), seg(2, -7, 2, 9), seg(-6, -8, 3, 4), seg(-1, 4, 9, -2), seg(0, 0, 0, 1), seg(7, 0, 8, 0),
		seg(-edge, -edge, edge, edge), seg(-edge, edge, edge, -edge), seg(-edge, edge, edge, edge), seg(edge, -edge, edge, edge),
		seg(-edge, -edge, 1-edge, edge), seg(-edge, 0, edge, 1), seg(123456789, -345678901, -400000007, -98765),
	}
	for _, s := range slices.Clone(l) {
		l = append(l, back(s))
	}
	return l
}

// What is to be answered, in numbers without bounds.

func wideBig(a api.Wide) *big.Int {
	n := new(big.Int)
	for i := words - 1; i >= 0; i-- {
		n.Lsh(n, 64)
		n.Or(n, new(big.Int).SetUint64(a[i]))
	}
	return n
}

func intBig(a api.Int) *big.Int {
	n := wideBig(a.Mag)
	if a.Neg {
		n.Neg(n)
	}
	return n
}

func fromBig(n *big.Int) api.Int {
	a := api.Int{Neg: n.Sign() < 0}
	rest := new(big.Int).Abs(n)
	for i := range words {
		a.Mag[i] = new(big.Int).And(rest, new(big.Int).SetUint64(most)).Uint64()
		rest.Rsh(rest, 64)
	}
	return a
}

// bigCommon is what divides all three numbers of a spot.
func bigCommon(a api.Spot) *big.Int {
	both := new(big.Int).GCD(nil, nil, wideBig(a.X.Mag), wideBig(a.Y.Mag))
	return both.GCD(nil, nil, both, wideBig(a.W))
}

func isLowest(a api.Spot) bool { return bigCommon(a).Cmp(big.NewInt(1)) == 0 }

// bigLowest is a spot of a W that is not 0 in lowest terms.
func bigLowest(x, y api.Int, w api.Wide) api.Spot {
	common := bigCommon(api.Spot{X: x, Y: y, W: w})
	over := func(n *big.Int) api.Int { return fromBig(new(big.Int).Quo(n, common)) }
	return api.Spot{X: over(intBig(x)), Y: over(intBig(y)), W: over(wideBig(w)).Mag}
}

// bigParts is a spot's two parts.
func bigParts(a api.Spot) (x, y *big.Rat) {
	return new(big.Rat).SetFrac(intBig(a.X), wideBig(a.W)), new(big.Rat).SetFrac(intBig(a.Y), wideBig(a.W))
}

func bigCmp(a, b api.Spot) int {
	ax, ay := bigParts(a)
	bx, by := bigParts(b)
	if c := ax.Cmp(bx); c != 0 {
		return c
	}
	return ay.Cmp(by)
}

// bigPlace is n parts of d of the way from one number to another.
func bigPlace(n, d, from, to int) *big.Rat {
	way := new(big.Int).Sub(big.NewInt(int64(to)), big.NewInt(int64(from)))
	way.Mul(way, big.NewInt(int64(n)))
	place := new(big.Rat).SetFrac(way, big.NewInt(int64(d)))
	return place.Add(place, new(big.Rat).SetInt64(int64(from)))
}

// Sp1: Make.

func wantMake(t *testing.T, x, y api.Int, w api.Wide, want api.Spot, e api.Errno) {
	t.Helper()
	if got, gotE := spot.Make(x, y, w); got != want || gotE != e {
		t.Errorf("Make(%v, %v, %v): %v, %d; want %v, %d", x, y, w, got, gotE, want, e)
	}
}

// wantLow asks for the spot of small numbers.
func wantLow(t *testing.T, x, y int, w uint64, want api.Spot) {
	t.Helper()
	wantMake(t, sign.Of(x), sign.Of(y), api.Wide{w}, want, api.OK)
}

func TestMakeWithWhatDividesAllThree(t *testing.T) {
	wantLow(t, 2, 2, 2, told(1, 1, 1))
	wantLow(t, 6, 4, 2, told(3, 2, 1))
	wantLow(t, 6, 9, 12, told(2, 3, 4))
	wantLow(t, 30, 42, 70, told(15, 21, 35))
	wantLow(t, 60, 100, 150, told(6, 10, 15))
	wantLow(t, 5, 5, 10, told(1, 1, 2))
	wantLow(t, 7, 14, 7, told(1, 2, 1))
}

func TestMakeWithWhatDividesTwoAlone(t *testing.T) {
	wantLow(t, 2, 4, 7, told(2, 4, 7))
	wantLow(t, 4, 7, 2, told(4, 7, 2))
	wantLow(t, 7, 4, 2, told(7, 4, 2))
	wantLow(t, 6, 10, 15, told(6, 10, 15))
	wantLow(t, 5, 5, 1, told(5, 5, 1))
	wantLow(t, 9, 1, 9, told(9, 1, 9))
	wantLow(t, 1, 9, 9, told(1, 9, 9))
}

func TestMakeOnBothSidesOfNought(t *testing.T) {
	wantLow(t, -6, 9, 12, told(-2, 3, 4))
	wantLow(t, 6, -9, 12, told(2, -3, 4))
	wantLow(t, -6, -9, 12, told(-2, -3, 4))
	wantLow(t, math.MinInt, math.MinInt, half, told(-1, -1, 1))
	wantLow(t, math.MaxInt, math.MinInt, 1, told(math.MaxInt, math.MinInt, 1))
}

func TestMakeWithANought(t *testing.T) {
	for _, nought := range []api.Int{{}, bare} {
		wantMake(t, nought, sign.Of(6), api.Wide{4}, told(0, 3, 2), api.OK)
		wantMake(t, sign.Of(-6), nought, api.Wide{4}, told(-3, 0, 2), api.OK)
		wantMake(t, nought, sign.Of(-1), api.Wide{4}, told(0, -1, 4), api.OK)
		wantMake(t, sign.Of(1), nought, one, told(1, 0, 1), api.OK)
		for _, w := range someWides() {
			wantMake(t, nought, nought, w, told(0, 0, 1), api.OK)
			wantMake(t, bare, nought, w, told(0, 0, 1), api.OK)
			wantMake(t, nought, above(w), w, told(0, 1, 1), api.OK)
			wantMake(t, below(w), nought, w, told(-1, 0, 1), api.OK)
		}
	}
}

func TestMakeOverNought(t *testing.T) {
	for _, x := range someInts() {
		for _, y := range someInts() {
			wantMake(t, x, y, api.Wide{}, api.Spot{}, api.ErrArg)
		}
	}
}

func TestMakeOfTheGreatestNumbers(t *testing.T) {
	wantMake(t, above(top), below(top), top, told(1, -1, 1), api.OK)
	wantMake(t, above(top), below(top), one, api.Spot{X: above(top), Y: below(top), W: one}, api.OK)
	wantMake(t, sign.Of(1), sign.Of(-1), top, api.Spot{X: sign.Of(1), Y: sign.Of(-1), W: top}, api.OK)
	wantMake(t, above(top), below(top), power(511), api.Spot{X: above(top), Y: below(top), W: power(511)}, api.OK)
	wantMake(t, below(power(511)), above(power(510)), power(509), told(-4, 2, 1), api.OK)
	wantMake(t, above(power(509)), above(power(511)), power(511), told(1, 4, 4), api.OK)
	// What is 2^512 less 1 is 2^256 less 1 times 2^256 and 1.
	wantMake(t, above(top), below(ones(256)), ones(256), api.Spot{X: above(api.Wide{1, 0, 0, 0, 1}), Y: sign.Of(-1), W: one}, api.OK)
	wantMake(t, above(top), below(ones(256)), ones(257), api.Spot{X: above(top), Y: below(ones(256)), W: ones(257)}, api.OK)
}

func TestMakeOfAnyNumbers(t *testing.T) {
	for _, x := range someInts() {
		for _, y := range someInts() {
			for _, w := range someWides() {
				wantMake(t, x, y, w, bigLowest(x, y, w), api.OK)
			}
		}
	}
	for x := -9; x <= 9; x++ {
		for y := -9; y <= 9; y++ {
			for w := uint64(1); w <= 18; w++ {
				wantLow(t, x, y, w, bigLowest(sign.Of(x), sign.Of(y), api.Wide{w}))
			}
		}
	}
}

// Sp1: At.

func wantAt(t *testing.T, p api.Pt, want api.Spot) {
	t.Helper()
	if got := spot.At(p); got != want {
		t.Errorf("At(%v): %v; want %v", p, got, want)
	}
}

func TestAtIsThePoint(t *testing.T) {
	wantAt(t, pt(0, 0), told(0, 0, 1))
	wantAt(t, pt(3, -4), told(3, -4, 1))
	for _, x := range []int{-edge, 1 - edge, -1, 0, 1, edge - 1, edge} {
		for _, y := range []int{-edge, 1 - edge, -1, 0, 1, edge - 1, edge} {
			wantAt(t, pt(x, y), told(x, y, 1))
		}
	}
}

func TestAtOfPointsBeyondTheGrid(t *testing.T) {
	wantAt(t, pt(math.MaxInt, 0), api.Spot{X: above(api.Wide{half - 1}), W: one})
	wantAt(t, pt(0, math.MaxInt), api.Spot{Y: above(api.Wide{half - 1}), W: one})
	wantAt(t, pt(math.MinInt, 5), api.Spot{X: below(api.Wide{half}), Y: above(api.Wide{5}), W: one})
	wantAt(t, pt(-5, math.MinInt), api.Spot{X: below(api.Wide{5}), Y: below(api.Wide{half}), W: one})
	wantAt(t, pt(math.MinInt, math.MaxInt), api.Spot{X: below(api.Wide{half}), Y: above(api.Wide{half - 1}), W: one})
	for _, p := range strangers() {
		wantAt(t, p, told(p.X, p.Y, 1))
		wantMay(t, spot.At(p), true)
	}
}

// Sp1: Of.

func wantOf(t *testing.T, s api.Seg, n, d int, want api.Spot, e api.Errno) {
	t.Helper()
	if got, gotE := spot.Of(s, n, d); got != want || gotE != e {
		t.Errorf("Of(%v, %d, %d): %v, %d; want %v, %d", s, n, d, got, gotE, want, e)
	}
}

// wantPart asks of the line turned about, too.
func wantPart(t *testing.T, s api.Seg, n, d int, want api.Spot) {
	t.Helper()
	wantOf(t, s, n, d, want, api.OK)
	wantOf(t, back(s), d-n, d, want, api.OK)
}

func TestOfIsAPartOfTheWay(t *testing.T) {
	wantPart(t, seg(0, 0, 1, 1), 1, 2, told(1, 1, 2))
	wantPart(t, seg(0, 0, 1, 1), 1, 3, told(1, 1, 3))
	wantPart(t, seg(0, 0, 2, 2), 4, 8, told(1, 1, 1))
	wantPart(t, seg(-3, 4, 6, -2), 1, 3, told(0, 2, 1))
	wantPart(t, seg(-3, 4, 6, -2), 1, 2, told(3, 2, 2))
	wantPart(t, seg(-3, 4, 6, -2), 3, 4, told(15, -2, 4))
	wantPart(t, seg(1, 0, 0, 1), 1, 3, told(2, 1, 3))
	wantPart(t, seg(-1, -1, 0, 0), 1, 2, told(-1, -1, 2))
}

func TestOfAlongLevelAndUprightLines(t *testing.T) {
	wantPart(t, seg(-3, 5, 4, 5), 2, 3, told(5, 15, 3))
	wantPart(t, seg(-3, 5, 4, 5), 3, 7, told(0, 5, 1))
	wantPart(t, seg(-3, 0, 4, 0), 1, 2, told(1, 0, 2))
	wantPart(t, seg(2, -7, 2, 9), 1, 3, told(6, -5, 3))
	wantPart(t, seg(2, -7, 2, 9), 7, 16, told(2, 0, 1))
	wantPart(t, seg(0, -7, 0, 9), 1, 32, told(0, -13, 2))
}

func TestOfAtTheEnds(t *testing.T) {
	for _, s := range rightLines() {
		for _, d := range []int{1, 2, 3, 1 << 61, math.MaxInt - 1, math.MaxInt} {
			wantPart(t, s, 0, d, spot.At(s.A))
			wantPart(t, s, d, d, spot.At(s.B))
		}
	}
}

func TestOfAlongTheLongestLines(t *testing.T) {
	s := seg(-edge, -edge, edge, edge)
	wantPart(t, s, 1, 2, told(0, 0, 1))
	wantPart(t, s, 1, 4, told(-edge/2, -edge/2, 1))
	wantPart(t, s, 1, 1<<31, told(1-2*edge, 1-2*edge, 2))
	wantPart(t, seg(-edge, edge, edge, -edge), 1, 3, told(-edge, edge, 3))
	wantPart(t, seg(-edge, 0, edge, 1), 1<<30+1, 1<<31, told(1<<30, 1<<30+1, 1<<31))
	// 2^62 parts of 2^63 less 1 are more than one half by the least.
	wantPart(t, s, 1<<62, math.MaxInt, told(edge, edge, math.MaxInt))
	wantPart(t, seg(0, -edge, 1, edge), 1<<62, math.MaxInt, told(1<<62, edge, math.MaxInt))
}

func TestOfTheGreatestD(t *testing.T) {
	const d = math.MaxInt
	wantPart(t, seg(0, 0, 1, 1), 1, d, told(1, 1, d))
	wantPart(t, seg(0, 0, 1, 1), d-1, d, told(d-1, d-1, d))
	wantPart(t, seg(0, 0, -1, 1), d-1, d, told(1-d, d-1, d))
	wantPart(t, seg(0, 0, -1, 0), d/7, d, told(-1, 0, 7))
	far, near := bigTimes(edge, d, -2*edge), bigTimes(edge, d, -1)
	wantPart(t, seg(edge, edge, -edge, edge-1), 1, d, api.Spot{X: fromBig(far), Y: fromBig(near), W: api.Wide{d}})
	wantPart(t, seg(edge-1, -edge, edge, edge), d-1, d, api.Spot{X: fromBig(near), Y: fromBig(far), W: api.Wide{d}})
}

// bigTimes is a product, and what is added to it.
func bigTimes(a, b, more int) *big.Int {
	n := new(big.Int).Mul(big.NewInt(int64(a)), big.NewInt(int64(b)))
	return n.Add(n, big.NewInt(int64(more)))
}

func TestOfAlongAnyLines(t *testing.T) {
	for _, s := range rightLines() {
		for _, d := range []int{1, 2, 3, 12, 97, 1 << 31, 1<<61 - 1, 1 << 62, math.MaxInt - 1, math.MaxInt} {
			for _, n := range []int{0, 1, 2, 5, d / 3, d / 2, d/2 + 1, d - 2, d - 1, d} {
				if n < 0 || n > d {
					continue
				}
				got, e := spot.Of(s, n, d)
				if e != api.OK || !isLowest(got) || !spot.May(got) {
					t.Errorf("Of(%v, %d, %d): %v, %d", s, n, d, got, e)
					continue
				}
				x, y := bigParts(got)
				if x.Cmp(bigPlace(n, d, s.A.X, s.B.X)) != 0 || y.Cmp(bigPlace(n, d, s.A.Y, s.B.Y)) != 0 {
					t.Errorf("Of(%v, %d, %d): %v, which is %v, %v", s, n, d, got, x, y)
				}
			}
		}
	}
}

func TestOfWrongLines(t *testing.T) {
	for _, s := range wrongLines() {
		for _, n := range []int{math.MinInt, -1, 0, 1, 2, math.MaxInt} {
			for _, d := range []int{math.MinInt, -1, 0, 1, 2, math.MaxInt} {
				wantOf(t, s, n, d, api.Spot{}, api.ErrArg)
			}
		}
	}
}

func TestOfWrongParts(t *testing.T) {
	for _, s := range rightLines() {
		for _, d := range []int{1, 2, 7, math.MaxInt} {
			for _, n := range []int{-1, -2, -d, math.MinInt} {
				wantOf(t, s, n, d, api.Spot{}, api.ErrArg)
			}
		}
		for _, d := range []int{1, 2, 7, math.MaxInt - 1} {
			for _, n := range []int{d + 1, math.MaxInt} {
				wantOf(t, s, n, d, api.Spot{}, api.ErrArg)
			}
		}
		for _, d := range []int{0, -1, -2, math.MinInt} {
			for _, n := range []int{math.MinInt, -2, -1, 0, 1, 2, math.MaxInt} {
				wantOf(t, s, n, d, api.Spot{}, api.ErrArg)
			}
		}
	}
}

// Sp2: May.

func wantMay(t *testing.T, a api.Spot, want bool) {
	t.Helper()
	if got := spot.May(a); got != want {
		t.Errorf("May(%v): %t; want %t", a, got, want)
	}
}

func TestSpotsThatMayBe(t *testing.T) {
	for _, a := range someSpots() {
		wantMay(t, a, true)
	}
	for _, a := range []api.Spot{told(0, 0, 1), told(2, 4, 7), told(4, 7, 2), told(7, 4, 2), told(6, 10, 15), told(-6, 10, 15)} {
		wantMay(t, a, true)
	}
}

func TestSpotsWithTooManyBits(t *testing.T) {
	for _, a := range tooLong() {
		wantMay(t, a, false)
		if !isLowest(a) {
			t.Errorf("%v is not in lowest terms", a)
		}
	}
}

func TestMayAtTheGreatestNumberOfBits(t *testing.T) {
	for _, size := range []func(int) api.Wide{power, ones, func(i int) api.Wide { return mixed(9, i+1) }} {
		bits := small
		if size(small) != ones(small) {
			bits = small - 1
		}
		for more, may := range []bool{true, false} {
			mag := size(bits + more)
			wantMay(t, api.Spot{X: above(mag), Y: above(one), W: one}, may)
			wantMay(t, api.Spot{X: below(mag), Y: above(one), W: one}, may)
			wantMay(t, api.Spot{X: above(one), Y: above(mag), W: one}, may)
			wantMay(t, api.Spot{X: above(one), Y: below(mag), W: one}, may)
			wantMay(t, api.Spot{X: above(one), Y: above(one), W: mag}, may)
		}
	}
	wantMay(t, api.Spot{X: above(ones(120)), Y: below(power(119)), W: ones(120)}, true)
	wantMay(t, api.Spot{X: above(ones(121)), Y: below(power(119)), W: ones(120)}, false)
	wantMay(t, api.Spot{X: above(ones(120)), Y: below(power(120)), W: ones(120)}, false)
	wantMay(t, api.Spot{X: above(ones(120)), Y: below(power(119)), W: ones(121)}, false)
}

func TestSpotsThatAreNotInLowestTerms(t *testing.T) {
	for _, a := range notLowest() {
		wantMay(t, a, false)
	}
}

func TestWhatIsMadeInLowestTermsMayBeJustIfItIsSmall(t *testing.T) {
	short := func(mag api.Wide) bool { return wideBig(mag).BitLen() <= small }
	for _, x := range someInts() {
		for _, y := range someInts() {
			for _, w := range someWides() {
				a, _ := spot.Make(x, y, w)
				wantMay(t, a, short(a.X.Mag) && short(a.Y.Mag) && short(a.W))
			}
		}
	}
}

// Sp2: Cmp.

// wantCmp asks of both exchanged, too.
func wantCmp(t *testing.T, a, b api.Spot, want int) {
	t.Helper()
	oneCmp(t, a, b, want, api.OK)
	oneCmp(t, b, a, -want, api.OK)
}

func oneCmp(t *testing.T, a, b api.Spot, want int, e api.Errno) {
	t.Helper()
	if got, gotE := spot.Cmp(a, b); got != want || gotE != e {
		t.Errorf("Cmp(%v, %v): %d, %d; want %d, %d", a, b, got, gotE, want, e)
	}
}

func TestCmpByTheFirstPart(t *testing.T) {
	wantCmp(t, told(1, 1, 2), told(1, 0, 1), -1)
	wantCmp(t, told(1, 9, 3), told(1, -9, 2), -1)
	wantCmp(t, told(-1, 9, 2), told(-1, -9, 3), -1)
	wantCmp(t, told(-1, 5, 2), told(1, -5, 2), -1)
	wantCmp(t, told(-1, 5, 1), told(0, -5, 1), -1)
	wantCmp(t, told(0, 5, 1), told(1, -5, 3), -1)
	wantCmp(t, told(2, 1, 3), told(3, 1, 4), -1)
	wantCmp(t, told(10, 1, 1), told(9, 1, 1), 1)
	wantCmp(t, told(5, 1, 2), told(2, 1, 1), 1)
}

func TestCmpByTheSecondPart(t *testing.T) {
	wantCmp(t, told(1, 1, 2), told(1, 3, 2), -1)
	wantCmp(t, told(1, -1, 2), told(1, 1, 2), -1)
	wantCmp(t, told(0, -1, 2), told(0, -1, 3), -1)
	wantCmp(t, told(2, 1, 4), told(1, 1, 2), -1)
	wantCmp(t, told(3, 1, 6), told(1, 0, 2), 1)
	wantCmp(t, told(-2, 1, 2), told(-1, 0, 1), 1)
	wantCmp(t, told(0, 1, 1), told(0, 0, 1), 1)
	wantCmp(t, told(0, -1, 1), told(0, 0, 1), -1)
	wantCmp(t, told(edge, -edge, 1), told(edge, edge, 1), -1)
}

func TestCmpOfTheSame(t *testing.T) {
	for _, a := range someSpots() {
		wantCmp(t, a, a, 0)
	}
}

func TestCmpOfTheGreatestThatMayBe(t *testing.T) {
	all, less := ones(120), ones(120)
	less[0]--
	// By the least that two fractions of 120 bits can differ.
	near := api.Spot{X: above(less), Y: above(one), W: all}
	wantCmp(t, near, api.Spot{X: above(all), Y: below(one), W: power(119)}, -1)
	wantCmp(t, near, told(1, 0, 1), -1)
	wantCmp(t, api.Spot{X: above(mixed(1, 120)), W: one}, api.Spot{X: above(mixed(1, 120)), Y: above(one), W: one}, -1)
	before := less
	before[0]--
	wantCmp(t, api.Spot{X: above(before), Y: above(all), W: less}, near, -1)
	wantCmp(t, api.Spot{X: below(before), Y: below(all), W: less}, api.Spot{X: below(less), Y: above(all), W: all}, 1)
	wantCmp(t, api.Spot{X: above(one), Y: below(all), W: less}, api.Spot{X: above(one), Y: above(all), W: all}, 1)
	// Of one first part the second ones alone tell.
	wantCmp(t, api.Spot{Y: above(before), W: less}, api.Spot{Y: above(less), W: all}, -1)
	wantCmp(t, api.Spot{Y: below(before), W: less}, api.Spot{Y: below(less), W: all}, 1)
}

func TestCmpOfAnySpots(t *testing.T) {
	l := someSpots()
	for _, a := range l {
		for _, b := range l {
			oneCmp(t, a, b, bigCmp(a, b), api.OK)
		}
	}
}

func TestCmpOfSpotsThatMayNotBe(t *testing.T) {
	right := []api.Spot{told(0, 0, 1), told(1, 1, 2), told(-3, 7, 1), {X: above(ones(120)), Y: below(power(119)), W: ones(120)}}
	for _, a := range unfit() {
		for _, b := range right {
			oneCmp(t, a, b, 0, api.ErrArg)
			oneCmp(t, b, a, 0, api.ErrArg)
		}
		for _, b := range unfit() {
			oneCmp(t, a, b, 0, api.ErrArg)
		}
	}
}

// Sp2: Grid.

func wantGrid(t *testing.T, a api.Spot, want api.Pt, there bool) {
	t.Helper()
	if got, ok := spot.Grid(a); got != want || ok != there {
		t.Errorf("Grid(%v): %v, %t; want %v, %t", a, got, ok, want, there)
	}
}

func TestGridOfPointsOfTheGrid(t *testing.T) {
	wantGrid(t, told(0, 0, 1), pt(0, 0), true)
	wantGrid(t, told(3, -4, 1), pt(3, -4), true)
	for _, x := range []int{-edge, 1 - edge, -1, 0, 1, edge - 1, edge} {
		for _, y := range []int{-edge, 1 - edge, -1, 0, 1, edge - 1, edge} {
			wantGrid(t, told(x, y, 1), pt(x, y), true)
		}
	}
}

func TestGridOfPointsBeyondIt(t *testing.T) {
	for _, p := range strangers() {
		wantGrid(t, spot.At(p), api.Pt{}, false)
	}
	for _, n := range []int{edge + 1, -edge - 1} {
		wantGrid(t, told(n, 3, 1), api.Pt{}, false)
		wantGrid(t, told(3, n, 1), api.Pt{}, false)
		wantGrid(t, told(n, edge, 1), api.Pt{}, false)
	}
	// Beyond what an int holds, with a low word that would do.
	for _, mag := range []api.Wide{{half}, {0, 1}, {5, 1}, {most, 1}, {0, 1 << 55}, ones(64), ones(120)} {
		wantGrid(t, api.Spot{X: above(mag), Y: above(one), W: one}, api.Pt{}, false)
		wantGrid(t, api.Spot{X: below(mag), W: one}, api.Pt{}, false)
		wantGrid(t, api.Spot{X: above(one), Y: above(mag), W: one}, api.Pt{}, false)
		wantGrid(t, api.Spot{Y: below(mag), W: one}, api.Pt{}, false)
		wantGrid(t, api.Spot{X: above(mag), Y: below(mag), W: one}, api.Pt{}, false)
	}
}

func TestGridOfFractions(t *testing.T) {
	for _, a := range []api.Spot{told(1, 1, 2), told(2, 1, 2), told(1, 2, 2), told(0, 1, 2), told(1, 0, 2), told(-3, 6, 4), told(0, 1, edge)} {
		wantGrid(t, a, api.Pt{}, false)
	}
	wantGrid(t, api.Spot{X: above(one), Y: above(one), W: api.Wide{1, 1}}, api.Pt{}, false)
	wantGrid(t, api.Spot{X: above(one), W: power(119)}, api.Pt{}, false)
}

func TestGridOfSpotsThatMayNotBe(t *testing.T) {
	for _, a := range unfit() {
		wantGrid(t, a, api.Pt{}, false)
	}
	wantGrid(t, told(4, 6, 2), api.Pt{}, false)
}

func TestGridIsWhatAtIsMadeOf(t *testing.T) {
	for _, s := range rightLines() {
		wantGrid(t, spot.At(s.A), s.A, true)
		if a, _ := spot.Of(s, 3, 3); a != spot.At(s.B) {
			t.Errorf("Of(%v, 3, 3): %v", s, a)
		}
	}
}

// Sp2: Sort.

// wantSort asks for a list that is new, and for the one that was handed in as it was.
func wantSort(t *testing.T, l, want []api.Spot, e api.Errno) {
	t.Helper()
	was := slices.Clone(l)
	got, gotE := spot.Sort(l)
	if !slices.Equal(got, want) || gotE != e {
		t.Errorf("Sort(%v): %v, %d; want %v, %d", was, got, gotE, want, e)
	}
	if !slices.Equal(l, was) {
		t.Errorf("Sort(%v) left %v", was, l)
	}
	for i := range got {
		got[i] = told(99, 98, 97)
	}
	if !slices.Equal(l, was) {
		t.Errorf("Sort(%v) answers what was handed in", was)
	}
}

func TestSortOfNoneAndOfOne(t *testing.T) {
	wantSort(t, nil, nil, api.OK)
	wantSort(t, []api.Spot{}, nil, api.OK)
	wantSort(t, make([]api.Spot, 0, 5), nil, api.OK)
	for _, a := range []api.Spot{told(0, 0, 1), told(-1, 2, 3), {X: above(ones(120)), Y: below(power(119)), W: ones(120)}} {
		wantSort(t, []api.Spot{a}, []api.Spot{a}, api.OK)
	}
}

// rising is spots in order.
func rising() []api.Spot {
	return []api.Spot{
		{X: below(ones(120)), W: one}, told(-edge, edge, 1), told(-2, 9, 1), told(-3, 9, 2), told(-1, -9, 1), told(-1, 0, 2), told(-1, 1, 3),
		told(0, -7, 2), told(0, 0, 1), told(0, 1, 3), told(0, 1, 2), told(1, -5, 2), told(1, 5, 2), told(2, -9, 3), told(1, -9, 1), told(1, -1, 1),
		told(4, 1, 4), told(1, 1, 1), told(3, -7, 2), told(edge, -1, 1), told(edge, 0, 1), {X: above(ones(120)), Y: below(one), W: one},
	}
}

func TestSortOfRisingAndFallingOnes(t *testing.T) {
	l := rising()
	wantSort(t, l, rising(), api.OK)
	slices.Reverse(l)
	wantSort(t, l, rising(), api.OK)
	for n := range l {
		wantSort(t, rising()[:n], rising()[:n], api.OK)
		wantSort(t, l[len(l)-n:], rising()[:n], api.OK)
	}
}

func TestSortOfMixedOnes(t *testing.T) {
	l := rising()
	// Steps of 5, 7 and 9 pass all 22 places.
	for _, step := range []int{5, 7, 9} {
		var jumped []api.Spot
		for i := range l {
			jumped = append(jumped, l[i*step%len(l)])
		}
		wantSort(t, jumped, l, api.OK)
		wantSort(t, append(jumped, jumped...), l, api.OK)
	}
}

func TestSortOfTheSameOnes(t *testing.T) {
	a, b, c := told(-1, 1, 2), told(1, 0, 1), told(1, 3, 1)
	wantSort(t, []api.Spot{a, a}, []api.Spot{a}, api.OK)
	wantSort(t, []api.Spot{a, a, a, a, a}, []api.Spot{a}, api.OK)
	wantSort(t, []api.Spot{b, a, b}, []api.Spot{a, b}, api.OK)
	wantSort(t, []api.Spot{c, b, c, a, b, b, c, a, a}, []api.Spot{a, b, c}, api.OK)
	wantSort(t, []api.Spot{a, b, c, a, b, c}, []api.Spot{a, b, c}, api.OK)
}

func TestSortOfAnySpots(t *testing.T) {
	l := someSpots()
	want := slices.Clone(l)
	slices.SortFunc(want, bigCmp)
	wantSort(t, l, want, api.OK)
	slices.Reverse(l)
	wantSort(t, append(l, l[3:90]...), want, api.OK)
}

func TestSortWithOneThatMayNotBe(t *testing.T) {
	for _, wrong := range unfit() {
		wantSort(t, []api.Spot{wrong}, nil, api.ErrArg)
		wantSort(t, []api.Spot{wrong, wrong}, nil, api.ErrArg)
		for _, at := range []int{0, 1, len(rising()) / 2, len(rising()) - 1, len(rising())} {
			wantSort(t, slices.Insert(rising(), at, wrong), nil, api.ErrArg)
		}
	}
}

// Sp2: Text.

func wantText(t *testing.T, a api.Spot, want string) {
	t.Helper()
	if got := spot.Text(a); got != want {
		t.Errorf("Text(%v): %q; want %q", a, got, want)
	}
}

func TestTextIsDigitsWithBlanks(t *testing.T) {
	wantText(t, told(1, 1, 2), "1 1 2")
	wantText(t, told(0, 0, 1), "0 0 1")
	wantText(t, told(-3, 40, 7), "-3 40 7")
	wantText(t, told(3, -40, 100), "3 -40 100")
	wantText(t, told(-1, -1, 1), "-1 -1 1")
	wantText(t, told(edge, -edge, 1), "536870912 -536870912 1")
	wantText(t, told(math.MinInt, math.MaxInt, most), "-9223372036854775808 9223372036854775807 18446744073709551615")
}

func TestTextOfTheGreatestNumbers(t *testing.T) {
	digits := "1329227995784915872903807060280344575"
	wantText(t, api.Spot{X: above(ones(120)), Y: below(ones(120)), W: ones(120)}, digits+" -"+digits+" "+digits)
	for _, x := range someInts() {
		for _, y := range []api.Int{above(top), below(mixed(3, 300))} {
			for _, w := range someWides() {
				want := intBig(x).String() + " " + intBig(y).String() + " " + wideBig(w).String()
				wantText(t, api.Spot{X: x, Y: y, W: w}, want)
			}
		}
	}
}

func TestTextOfSpotsThatMayNotBe(t *testing.T) {
	wantText(t, api.Spot{}, "0 0 0")
	wantText(t, told(2, -4, 6), "2 -4 6")
	wantText(t, told(-5, 5, 0), "-5 5 0")
	wantText(t, api.Spot{X: bare, Y: bare, W: one}, "0 0 1")
	wantText(t, api.Spot{X: bare, Y: above(one), W: one}, "0 1 1")
	wantText(t, api.Spot{X: above(one), Y: bare, W: one}, "1 0 1")
}

// Sp3: what follows.

func TestSpotsThatAreTheSamePointAreTheSame(t *testing.T) {
	for x := -4; x <= 4; x++ {
		for y := -4; y <= 4; y++ {
			for w := 1; w <= 6; w++ {
				a, _ := spot.Make(sign.Of(x), sign.Of(y), api.Wide{uint64(w)})
				for _, k := range []int{2, 3, 10, 1 << 40} {
					wantLow(t, k*x, k*y, uint64(k*w), a)
				}
			}
		}
	}
}

func TestSpotsCompareAsTheSameJustIfTheyAre(t *testing.T) {
	l := someSpots()
	for _, a := range l {
		for _, b := range l {
			if c, e := spot.Cmp(a, b); e != api.OK || (c == 0) != (a == b) {
				t.Errorf("Cmp(%v, %v): %d, %d", a, b, c, e)
			}
		}
	}
}

// TestOneSpotOnBothLines holds the spot along one line against the one along another line that it meets.
func TestOneSpotOnBothLines(t *testing.T) {
	met := 0
	for _, s := range rightLines() {
		for _, u := range rightLines() {
			m := meet.Of(s, u)
			if m.Kind != api.MeetPoint {
				continue
			}
			met++
			a, e := spot.Of(s, m.N, m.D)
			b, f := spot.Of(u, m.M, m.D)
			if a != b || e != api.OK || f != api.OK {
				t.Errorf("%v and %v meet at %v and at %v, %d, %d", s, u, a, b, e, f)
			}
			p, whole := meet.Whole(m, s)
			if q, ok := spot.Grid(a); q != p || ok != whole {
				t.Errorf("%v and %v meet at %v, %t; Grid: %v, %t", s, u, p, whole, q, ok)
			}
		}
	}
	if met < 100 {
		t.Errorf("no more than %d meetings", met)
	}
}

func TestTheSamePartsOfMore(t *testing.T) {
	for _, s := range rightLines() {
		for d := 1; d <= 9; d++ {
			for n := 0; n <= d; n++ {
				a, _ := spot.Of(s, n, d)
				for _, k := range []int{2, 7, 1 << 31, math.MaxInt / d} {
					wantPart(t, s, k*n, k*d, a)
				}
			}
		}
	}
}

// wantWay asks for spots in order along a line, forth or back.
func wantWay(t *testing.T, s api.Seg, d int, parts []int) {
	t.Helper()
	order := 1
	if point.Less(s.A, s.B) {
		order = -1
	}
	var way []api.Spot
	for _, n := range parts {
		a, _ := spot.Of(s, n, d)
		for _, b := range way {
			wantCmp(t, b, a, order)
		}
		way = append(way, a)
	}
	if order > 0 {
		slices.Reverse(way)
	}
	wantSort(t, way, slices.Clone(way), api.OK)
}

func TestTheWayAlongALineIsInOrder(t *testing.T) {
	for _, s := range rightLines() {
		for d := 1; d <= 12; d++ {
			var parts []int
			for n := range d + 1 {
				parts = append(parts, n)
			}
			wantWay(t, s, d, parts)
		}
		for _, d := range []int{1 << 61, math.MaxInt - 1, math.MaxInt} {
			wantWay(t, s, d, []int{0, 1, 2, d/3 - 1, d / 3, d/2 - 1, d / 2, d/2 + 1, d - 2, d - 1, d})
		}
	}
}
