package point_test

import (
	"math"
	"math/big"
	"testing"

	"snicket/api"
	"snicket/point"
)

const edge = 1 << 29

// pt is a point, seg is a line.
func pt(x, y int) api.Pt { return api.Pt{X: x, Y: y} }

func seg(ax, ay, bx, by int) api.Seg { return api.Seg{A: pt(ax, ay), B: pt(bx, by)} }

// somePoints is points that may be, each one once: small ones, the corners and the edges' middles of the grid, those beside them, and
// mixed ones.
func somePoints() []api.Pt {
	l := []api.Pt{pt(1, 0), pt(0, 1), pt(-1, 0), pt(0, -1), pt(3, 4), pt(-7, 2), pt(5, -9), pt(-6, -8)}
	for _, x := range []int{-edge, 0, edge} {
		for _, y := range []int{-edge, 0, edge} {
			l = append(l, pt(x, y))
		}
	}
	return append(l, pt(edge-1, edge), pt(1-edge, edge-1), pt(123456789, -345678901), pt(-400000007, -98765), pt(77, 499999999))
}

// strangers is points that may not be, by X, by Y, or by both.
func strangers() []api.Pt {
	l := []api.Pt{pt(edge+1, -edge-1)}
	for _, n := range []int{edge + 1, -edge - 1, math.MaxInt, math.MinInt} {
		l = append(l, pt(n, 0), pt(0, n), pt(n, 7), pt(-7, n), pt(n, n))
	}
	return l
}

// someLines is lines that may be, in every direction, level and upright, short, and as long as may be.
func someLines() []api.Seg {
	l := []api.Seg{seg(-edge, -edge, edge, edge), seg(edge, -edge, -edge, edge), seg(-edge, 0, edge, 0), seg(0, edge, 0, -edge)}
	for _, at := range []api.Pt{pt(0, 0), pt(2, 1), pt(-3, 4), pt(edge-5, 5-edge)} {
		for _, by := range []api.Pt{pt(3, 2), pt(-3, 2), pt(-1, -4), pt(2, -5), pt(1, 0), pt(-2, 0), pt(0, 3), pt(0, -1)} {
			l = append(l, api.Seg{A: at, B: pt(at.X+by.X, at.Y+by.Y)})
		}
	}
	return l
}

// wrongLines is lines that may not be: of one point, and those with an end, or both, that may not be.
func wrongLines() []api.Seg {
	l := []api.Seg{{}, seg(3, 4, 3, 4), seg(edge, -edge, edge, -edge)}
	for _, p := range strangers() {
		l = append(l, api.Seg{A: p, B: pt(1, 2)}, api.Seg{A: pt(1, 2), B: p}, api.Seg{A: p, B: p})
	}
	return append(l, seg(edge+1, 0, -edge-1, 0), seg(0, math.MinInt, 0, math.MaxInt))
}

// Pt1: May.

func wantMay(t *testing.T, p api.Pt, want bool) {
	t.Helper()
	if got := point.May(p); got != want {
		t.Errorf("May(%v): %v, not %v", p, got, want)
	}
}

func TestPointsThatMayBe(t *testing.T) {
	for _, p := range somePoints() {
		wantMay(t, p, true)
	}
	for _, p := range strangers() {
		wantMay(t, p, false)
	}
}

func TestMayAtTheEdges(t *testing.T) {
	ends := []struct {
		n   int
		may bool
	}{
		{0, true}, {-edge, true}, {edge, true}, {-edge - 1, false}, {edge + 1, false},
		{math.MinInt, false}, {math.MaxInt, false}, {math.MinInt + 1, false},
		{1 << 32, false}, {-1 << 32, false}, {1 << 62, false},
	}
	for _, x := range ends {
		for _, y := range ends {
			wantMay(t, pt(x.n, y.n), x.may && y.may)
		}
	}
}

// Pt1: Line.

func wantLine(t *testing.T, s api.Seg, want bool) {
	t.Helper()
	if got := point.Line(s); got != want {
		t.Errorf("Line(%v): %v, not %v", s, got, want)
	}
}

func TestLinesThatMayBe(t *testing.T) {
	for _, s := range someLines() {
		wantLine(t, s, true)
	}
	for _, s := range wrongLines() {
		wantLine(t, s, false)
	}
}

func TestLinesOfAllPoints(t *testing.T) {
	points := somePoints()
	for i, a := range points {
		for k, b := range points {
			wantLine(t, api.Seg{A: a, B: b}, i != k)
		}
	}
}

func TestLinesUnlikeByOneAlone(t *testing.T) {
	wantLine(t, seg(5, 6, 5, 7), true)
	wantLine(t, seg(5, 6, 4, 6), true)
	wantLine(t, seg(5, 6, 6, 5), true)
	wantLine(t, seg(-5, 6, 5, 6), true)
	wantLine(t, seg(5, 6, 5, 6), false)
}

// Pt1: Cross, Dot and Far.

// product is (b - a)(d - c).
func product(a, b, c, d int) *big.Int {
	u := new(big.Int).Sub(big.NewInt(int64(b)), big.NewInt(int64(a)))
	v := new(big.Int).Sub(big.NewInt(int64(d)), big.NewInt(int64(c)))
	return u.Mul(u, v)
}

// bigCross and bigDot are what Cross and Dot are to answer, in numbers without bounds.
func bigCross(a, b, c api.Pt) *big.Int {
	return new(big.Int).Sub(product(a.X, b.X, a.Y, c.Y), product(a.Y, b.Y, a.X, c.X))
}

func bigDot(a, b, c api.Pt) *big.Int {
	return new(big.Int).Add(product(a.X, b.X, a.X, c.X), product(a.Y, b.Y, a.Y, c.Y))
}

func wantThree(t *testing.T, a, b, c api.Pt, cross, dot int) {
	t.Helper()
	if got := point.Cross(a, b, c); got != cross {
		t.Errorf("Cross(%v, %v, %v): %d, not %d", a, b, c, got, cross)
	}
	if got := point.Dot(a, b, c); got != dot {
		t.Errorf("Dot(%v, %v, %v): %d, not %d", a, b, c, got, dot)
	}
}

func wantFar(t *testing.T, a, b api.Pt, want int) {
	t.Helper()
	if got := point.Far(a, b); got != want {
		t.Errorf("Far(%v, %v): %d, not %d", a, b, got, want)
	}
}

func TestCrossAndDotOfSmallPoints(t *testing.T) {
	wantThree(t, pt(0, 0), pt(1, 0), pt(0, 1), 1, 0)
	wantThree(t, pt(0, 0), pt(0, 1), pt(1, 0), -1, 0)
	wantThree(t, pt(1, 1), pt(4, 3), pt(2, 6), 13, 13)
	wantThree(t, pt(4, 3), pt(2, 6), pt(1, 1), 13, 0)
	wantThree(t, pt(1, 2), pt(3, 5), pt(9, 14), 0, 52)
	wantThree(t, pt(1, 2), pt(3, 5), pt(-3, -4), 0, -26)
	wantThree(t, pt(2, 3), pt(2, 3), pt(7, 9), 0, 0)
	wantThree(t, pt(2, 3), pt(7, 9), pt(2, 3), 0, 0)
}

func TestGreatestAreas(t *testing.T) {
	low, high := pt(-edge, -edge), pt(edge, edge)
	right, left := pt(edge, -edge), pt(-edge, edge)
	wantThree(t, low, right, left, 1<<60, 0)
	wantThree(t, low, left, right, -1<<60, 0)
	wantThree(t, low, right, high, 1<<60, 1<<60)
	wantThree(t, high, right, left, -1<<60, 0)
	wantThree(t, low, high, high, 0, 1<<61)
	wantThree(t, pt(0, 0), high, low, 0, -1<<59)
	wantThree(t, pt(0, 0), right, high, 1<<59, 0)
	wantFar(t, low, high, 1<<61)
	wantFar(t, left, right, 1<<61)
}

func TestCrossDotAndFarOfAllPoints(t *testing.T) {
	points := somePoints()
	for _, a := range points {
		for _, b := range points {
			wantFar(t, a, b, int(bigDot(a, b, b).Int64()))
			for _, c := range points {
				wantThree(t, a, b, c, int(bigCross(a, b, c).Int64()), int(bigDot(a, b, c).Int64()))
			}
		}
	}
}

func TestFarOfSmallPoints(t *testing.T) {
	wantFar(t, pt(0, 0), pt(3, 4), 25)
	wantFar(t, pt(3, 4), pt(0, 0), 25)
	wantFar(t, pt(-1, -2), pt(4, 10), 169)
	wantFar(t, pt(6, 6), pt(6, 9), 9)
}

func TestCrossDotAndFarOfStrangers(t *testing.T) {
	a, b := pt(2, 9), pt(-5, 3)
	for _, p := range strangers() {
		wantThree(t, p, a, b, 0, 0)
		wantThree(t, a, p, b, 0, 0)
		wantThree(t, a, b, p, 0, 0)
		wantThree(t, p, p, p, 0, 0)
		wantThree(t, a, p, p, 0, 0)
		wantFar(t, p, a, 0)
		wantFar(t, a, p, 0)
		wantFar(t, p, pt(-p.Y, p.X), 0)
	}
}

// Pt1: Less.

func wantLess(t *testing.T, a, b api.Pt, want bool) {
	t.Helper()
	if got := point.Less(a, b); got != want {
		t.Errorf("Less(%v, %v): %v, not %v", a, b, got, want)
	}
}

func TestLessByX(t *testing.T) {
	wantLess(t, pt(1, 9), pt(2, 3), true)
	wantLess(t, pt(2, 3), pt(1, 9), false)
	wantLess(t, pt(-2, 5), pt(1, 5), true)
	wantLess(t, pt(1, 5), pt(-2, 5), false)
	wantLess(t, pt(-edge, edge), pt(edge, -edge), true)
	wantLess(t, pt(edge, -edge), pt(-edge, edge), false)
}

func TestLessByYAlone(t *testing.T) {
	wantLess(t, pt(4, -1), pt(4, 0), true)
	wantLess(t, pt(4, 0), pt(4, -1), false)
	wantLess(t, pt(edge, -edge), pt(edge, edge), true)
	wantLess(t, pt(edge, edge), pt(edge, -edge), false)
}

func TestLessIsAnOrder(t *testing.T) {
	points := somePoints()
	for _, a := range points {
		wantLess(t, a, a, false)
		for _, b := range points {
			if a != b && point.Less(a, b) == point.Less(b, a) {
				t.Errorf("%v and %v are ahead of each other, or neither is", a, b)
			}
			for _, c := range points {
				if point.Less(a, b) && point.Less(b, c) {
					wantLess(t, a, c, true)
				}
			}
		}
	}
}

func TestLessOfStrangers(t *testing.T) {
	for _, p := range strangers() {
		for _, a := range somePoints() {
			wantLess(t, p, a, false)
			wantLess(t, a, p, false)
		}
		for _, q := range strangers() {
			wantLess(t, p, q, false)
		}
	}
}

// Pt2: Box.

func wantBox(t *testing.T, s api.Seg, low, high api.Pt) {
	t.Helper()
	if l, h := point.Box(s); l != low || h != high {
		t.Errorf("Box(%v): %v and %v, not %v and %v", s, l, h, low, high)
	}
}

func TestBoxesInEveryDirection(t *testing.T) {
	wantBox(t, seg(1, 2, 5, 9), pt(1, 2), pt(5, 9))
	wantBox(t, seg(5, 9, 1, 2), pt(1, 2), pt(5, 9))
	wantBox(t, seg(1, 9, 5, 2), pt(1, 2), pt(5, 9))
	wantBox(t, seg(5, 2, 1, 9), pt(1, 2), pt(5, 9))
	wantBox(t, seg(-3, 8, 4, -6), pt(-3, -6), pt(4, 8))
	wantBox(t, seg(edge, -edge, -edge, edge), pt(-edge, -edge), pt(edge, edge))
}

func TestBoxesLevelOrUpright(t *testing.T) {
	wantBox(t, seg(7, 3, -2, 3), pt(-2, 3), pt(7, 3))
	wantBox(t, seg(-2, 3, 7, 3), pt(-2, 3), pt(7, 3))
	wantBox(t, seg(-4, 5, -4, -1), pt(-4, -1), pt(-4, 5))
	wantBox(t, seg(-4, -1, -4, 5), pt(-4, -1), pt(-4, 5))
}

func TestBoxesOfWrongLines(t *testing.T) {
	for _, s := range wrongLines() {
		wantBox(t, s, api.Pt{}, api.Pt{})
	}
}

// Pt2: Apart.

// wantApart asks both ways, and with each line turned about.
func wantApart(t *testing.T, s, u api.Seg, want bool) {
	t.Helper()
	for _, a := range []api.Seg{s, {A: s.B, B: s.A}} {
		for _, b := range []api.Seg{u, {A: u.B, B: u.A}} {
			if got := point.Apart(a, b); got != want {
				t.Errorf("Apart(%v, %v): %v, not %v", a, b, got, want)
			}
			if got := point.Apart(b, a); got != want {
				t.Errorf("Apart(%v, %v): %v, not %v", b, a, got, want)
			}
		}
	}
}

func TestBoxesApart(t *testing.T) {
	s := seg(0, 0, 4, 3)
	wantApart(t, s, seg(5, 1, 8, 2), true)
	wantApart(t, s, seg(-6, 1, -1, 2), true)
	wantApart(t, s, seg(1, 4, 2, 7), true)
	wantApart(t, s, seg(1, -5, 2, -1), true)
	wantApart(t, s, seg(5, 4, 9, 9), true)
	wantApart(t, s, seg(5, -1, 9, -9), true)
	wantApart(t, seg(-edge, -edge, -edge, edge), seg(edge, -edge, edge, edge), true)
}

func TestBoxesThatLieInEachOther(t *testing.T) {
	s := seg(0, 0, 9, 9)
	wantApart(t, s, s, false)
	wantApart(t, s, seg(7, 1, 8, 2), false)
	wantApart(t, s, seg(4, -3, 5, 20), false)
	wantApart(t, s, seg(-4, 7, 2, 12), false)
	wantApart(t, seg(-edge, -edge, edge, edge), s, false)
}

func TestBoxesWithAnEdgeInCommon(t *testing.T) {
	s := seg(0, 0, 4, 3)
	wantApart(t, s, seg(4, 1, 8, 2), false)
	wantApart(t, s, seg(-6, 1, 0, 2), false)
	wantApart(t, s, seg(1, 3, 2, 7), false)
	wantApart(t, s, seg(1, -5, 2, 0), false)
	wantApart(t, s, seg(4, 0, 4, 3), false)
	wantApart(t, s, seg(-5, 3, 9, 3), false)
}

func TestBoxesWithACornerInCommon(t *testing.T) {
	s := seg(0, 0, 4, 3)
	wantApart(t, s, seg(4, 3, 8, 9), false)
	wantApart(t, s, seg(4, 0, 8, -9), false)
	wantApart(t, s, seg(0, 3, -8, 9), false)
	wantApart(t, s, seg(0, 0, -8, -9), false)
}

func TestBoxesLevelAndUprightApart(t *testing.T) {
	wantApart(t, seg(0, 2, 5, 2), seg(6, 2, 9, 2), true)
	wantApart(t, seg(0, 2, 5, 2), seg(5, 2, 9, 2), false)
	wantApart(t, seg(0, 2, 5, 2), seg(1, 3, 4, 3), true)
	wantApart(t, seg(2, 0, 2, 5), seg(2, 6, 2, 9), true)
	wantApart(t, seg(2, 0, 2, 5), seg(2, 5, 2, 9), false)
	wantApart(t, seg(0, 2, 5, 2), seg(3, 0, 3, 9), false)
	wantApart(t, seg(0, 2, 5, 2), seg(3, 3, 3, 9), true)
}

func TestApartOfAllSmallBoxes(t *testing.T) {
	s := seg(1, 1, 2, 3)
	for x := range 4 {
		for y := range 5 {
			for w := range 4 {
				for h := range 5 {
					if w != 0 || h != 0 {
						u := seg(x, y, x+w, y+h)
						wantApart(t, s, u, !shared(s, u))
					}
				}
			}
		}
	}
}

// shared tells whether a point of the small grid is in the boxes of both lines, whose ends A are their boxes' least ones.
func shared(s, u api.Seg) bool {
	for x := range 10 {
		for y := range 10 {
			inS := s.A.X <= x && x <= s.B.X && s.A.Y <= y && y <= s.B.Y
			inU := u.A.X <= x && x <= u.B.X && u.A.Y <= y && y <= u.B.Y
			if inS && inU {
				return true
			}
		}
	}
	return false
}

func TestApartOfWrongLines(t *testing.T) {
	for _, s := range wrongLines() {
		for _, u := range someLines() {
			wantApart(t, s, u, false)
		}
		for _, u := range wrongLines() {
			wantApart(t, s, u, false)
		}
	}
}

// Pt2: Turned.

func wantTurned(t *testing.T, p api.Pt, quarters int, want api.Pt) {
	t.Helper()
	if got := point.Turned(p, quarters); got != want {
		t.Errorf("Turned(%v, %d): %v, not %v", p, quarters, got, want)
	}
}

func TestTurned(t *testing.T) {
	wantTurned(t, pt(1, 0), 1, pt(0, 1))
	wantTurned(t, pt(3, 4), 0, pt(3, 4))
	wantTurned(t, pt(3, 4), 1, pt(-4, 3))
	wantTurned(t, pt(3, 4), 2, pt(-3, -4))
	wantTurned(t, pt(3, 4), 3, pt(4, -3))
	wantTurned(t, pt(3, 4), 4, pt(3, 4))
	wantTurned(t, pt(3, 4), 5, pt(-4, 3))
	wantTurned(t, pt(0, 0), 3, pt(0, 0))
	wantTurned(t, pt(edge, -edge), 1, pt(edge, edge))
	wantTurned(t, pt(-edge, edge-1), 2, pt(edge, 1-edge))
}

func TestTurnedTheOtherWay(t *testing.T) {
	wantTurned(t, pt(3, 4), -1, pt(4, -3))
	wantTurned(t, pt(3, 4), -2, pt(-3, -4))
	wantTurned(t, pt(3, 4), -3, pt(-4, 3))
	wantTurned(t, pt(3, 4), -4, pt(3, 4))
	wantTurned(t, pt(3, 4), -5, pt(4, -3))
}

func TestTurnedByManyQuarters(t *testing.T) {
	wantTurned(t, pt(3, 4), math.MinInt, pt(3, 4))
	wantTurned(t, pt(3, 4), math.MinInt+1, pt(-4, 3))
	wantTurned(t, pt(3, 4), math.MaxInt, pt(4, -3))
	wantTurned(t, pt(3, 4), math.MaxInt-1, pt(-3, -4))
	wantTurned(t, pt(3, 4), 1<<40+1, pt(-4, 3))
}

func TestTurnedStepByStep(t *testing.T) {
	for _, p := range somePoints() {
		for quarters := -9; quarters <= 9; quarters++ {
			next := point.Turned(p, quarters)
			wantTurned(t, next, 1, point.Turned(p, quarters+1))
			wantMay(t, next, true)
		}
	}
}

func TestTurnedOfStrangers(t *testing.T) {
	for _, p := range strangers() {
		for _, quarters := range []int{0, 1, 2, 3, 4, -1, math.MinInt, math.MaxInt} {
			wantTurned(t, p, quarters, api.Pt{})
		}
	}
}

// Pt3: what follows.

func TestCrossWithPointsExchanged(t *testing.T) {
	points := somePoints()
	for _, a := range points {
		for _, b := range points {
			for _, c := range points {
				want := -point.Cross(a, b, c)
				for _, got := range []int{point.Cross(b, a, c), point.Cross(a, c, b), point.Cross(c, b, a)} {
					if got != want {
						t.Errorf("Cross of %v, %v, %v with two of them exchanged: %d, not %d", a, b, c, got, want)
					}
				}
			}
		}
	}
}

func TestCrossOfTurnedPoints(t *testing.T) {
	points := somePoints()
	for _, quarters := range []int{1, 2, 3, 4, -1, -6, math.MinInt, math.MaxInt} {
		for i, a := range points {
			b, c := points[(i+3)%len(points)], points[(i*5+1)%len(points)]
			cross, dot := point.Cross(a, b, c), point.Dot(a, b, c)
			wantThree(t, point.Turned(a, quarters), point.Turned(b, quarters), point.Turned(c, quarters), cross, dot)
		}
	}
}

func TestFarIsZeroOfOnePointAlone(t *testing.T) {
	points := somePoints()
	for i, a := range points {
		for k, b := range points {
			if far := point.Far(a, b); (far == 0) != (i == k) || far < 0 {
				t.Errorf("Far(%v, %v): %d", a, b, far)
			}
			wantFar(t, b, a, point.Far(a, b))
		}
	}
}
