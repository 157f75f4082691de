package orient_test

import (
	"math"
	"math/big"
	"testing"

	"snicket/api"
	"snicket/orient"
)

const edge = 1 << 29

// pt is a point, seg is a line, back is a line turned about.
func pt(x, y int) api.Pt { return api.Pt{X: x, Y: y} }

func seg(ax, ay, bx, by int) api.Seg { return api.Seg{A: pt(ax, ay), B: pt(bx, by)} }

func back(s api.Seg) api.Seg { return api.Seg{A: s.B, B: s.A} }

// farPoints is points that may be, each one once: the corners and the edges' middles of the grid, those beside them, and mixed ones.
func farPoints() []api.Pt {
	l := []api.Pt{pt(1, 1), pt(3, 4), pt(-7, 2), pt(-6, -8), pt(edge-1, edge), pt(1-edge, 1-edge), pt(edge-1, edge-1), pt(edge, edge-1)}
	for _, x := range []int{-edge, 0, edge} {
		for _, y := range []int{-edge, 0, edge} {
			l = append(l, pt(x, y))
		}
	}
	return append(l, pt(123456789, -345678901), pt(-400000007, -98765), pt(-123456789, 345678901))
}

// smallPoints is the points of a small square, each one once, and the origin among them not as a corner.
func smallPoints() []api.Pt {
	var l []api.Pt
	for x := -1; x <= 2; x++ {
		for y := -1; y <= 2; y++ {
			l = append(l, pt(x, y))
		}
	}
	return l
}

// linesOf is all lines between points, in both directions.
func linesOf(points []api.Pt) []api.Seg {
	var l []api.Seg
	for _, a := range points {
		for _, b := range points {
			if a != b {
				l = append(l, api.Seg{A: a, B: b})
			}
		}
	}
	return l
}

// strangers is points that may not be, by X, by Y, or by both.
func strangers() []api.Pt {
	l := []api.Pt{pt(edge+1, -edge-1)}
	for _, n := range []int{edge + 1, -edge - 1, math.MaxInt, math.MinInt} {
		l = append(l, pt(n, 0), pt(0, n), pt(n, 7), pt(-7, n), pt(n, n))
	}
	return l
}

// wrongLines is lines that may not be: of one point, and those with an end, or both, that may not be.
func wrongLines() []api.Seg {
	l := []api.Seg{{}, seg(3, 4, 3, 4), seg(edge, -edge, edge, -edge)}
	for _, p := range strangers() {
		l = append(l, api.Seg{A: p, B: pt(1, 2)}, api.Seg{A: pt(1, 2), B: p}, api.Seg{A: p, B: p}, api.Seg{A: pt(0, 0), B: p})
	}
	return append(l, seg(edge+1, 0, -edge-1, 0), seg(0, math.MinInt, 0, math.MaxInt), seg(0, edge, 0, edge+1))
}

// What is to be answered, in numbers without bounds.

// bigStep is what leads from one point to another.
func bigStep(from, to api.Pt) (x, y *big.Int) {
	x = new(big.Int).Sub(big.NewInt(int64(to.X)), big.NewInt(int64(from.X)))
	y = new(big.Int).Sub(big.NewInt(int64(to.Y)), big.NewInt(int64(from.Y)))
	return x, y
}

// bigCross is the cross product of the step from a to b, and that from c to d.
func bigCross(a, b, c, d api.Pt) *big.Int {
	ux, uy := bigStep(a, b)
	vx, vy := bigStep(c, d)
	return ux.Sub(ux.Mul(ux, vy), uy.Mul(uy, vx))
}

// between tells whether n is from one end to the other one.
func between(n, a, b int) bool { return min(a, b) <= n && n <= max(a, b) }

func bigOn(s api.Seg, p api.Pt) bool {
	return bigCross(s.A, s.B, s.A, p).Sign() == 0 && between(p.X, s.A.X, s.B.X) && between(p.Y, s.A.Y, s.B.Y)
}

func bigAlong(s, u api.Seg) bool {
	return bigCross(s.A, s.B, s.A, u.A).Sign() == 0 && bigCross(s.A, s.B, u.A, u.B).Sign() == 0
}

// bigTouch reckons how far along each line the straight lines meet.
func bigTouch(s, u api.Seg) bool {
	if bigAlong(s, u) {
		return bigOn(s, u.A) || bigOn(s, u.B) || bigOn(u, s.A)
	}
	d := bigCross(s.A, s.B, u.A, u.B)
	return d.Sign() != 0 && share(bigCross(s.A, u.A, u.A, u.B), d) && share(bigCross(s.A, u.A, s.A, s.B), d)
}

// share tells whether n parts of d are from 0 to 1.
func share(n, d *big.Int) bool {
	return n.Sign()*d.Sign() >= 0 && n.CmpAbs(d) <= 0
}

// bigOrder goes by the greater of a line's X and Y parts.
func bigOrder(s api.Seg, p, q api.Pt) int {
	if !bigOn(s, p) || !bigOn(s, q) {
		return 0
	}
	if s.A.X != s.B.X {
		return sign(p.X-q.X) * sign(s.B.X-s.A.X)
	}
	return sign(p.Y-q.Y) * sign(s.B.Y-s.A.Y)
}

func sign(n int) int {
	switch {
	case n < 0:
		return -1
	case n > 0:
		return 1
	}
	return 0
}

// Or1: Side.

// wantSide asks with each two points exchanged, too, and with all of them moved on.
func wantSide(t *testing.T, a, b, c api.Pt, want int) {
	t.Helper()
	oneSide(t, a, b, c, want)
	oneSide(t, b, c, a, want)
	oneSide(t, c, a, b, want)
	oneSide(t, b, a, c, -want)
	oneSide(t, a, c, b, -want)
	oneSide(t, c, b, a, -want)
}

func oneSide(t *testing.T, a, b, c api.Pt, want int) {
	t.Helper()
	if got := orient.Side(a, b, c); got != want {
		t.Errorf("Side(%v, %v, %v): %d, not %d", a, b, c, got, want)
	}
}

func TestSideLeftOnAndRight(t *testing.T) {
	wantSide(t, pt(0, 0), pt(2, 2), pt(0, 2), 1)
	wantSide(t, pt(0, 0), pt(2, 2), pt(2, 0), -1)
	wantSide(t, pt(0, 0), pt(2, 2), pt(1, 1), 0)
	wantSide(t, pt(0, 0), pt(2, 2), pt(5, 5), 0)
	wantSide(t, pt(0, 0), pt(2, 2), pt(-3, -3), 0)
	wantSide(t, pt(2, 2), pt(0, 0), pt(0, 2), -1)
	wantSide(t, pt(2, 2), pt(0, 0), pt(2, 0), 1)
	wantSide(t, pt(-4, 3), pt(5, -2), pt(100, 100), 1)
	wantSide(t, pt(-4, 3), pt(5, -2), pt(-100, -100), -1)
}

func TestSideOfLevelAndUprightWays(t *testing.T) {
	wantSide(t, pt(1, 3), pt(6, 3), pt(-9, 4), 1)
	wantSide(t, pt(1, 3), pt(6, 3), pt(9, 2), -1)
	wantSide(t, pt(1, 3), pt(6, 3), pt(9, 3), 0)
	wantSide(t, pt(2, -1), pt(2, 4), pt(1, 8), 1)
	wantSide(t, pt(2, -1), pt(2, 4), pt(3, -8), -1)
	wantSide(t, pt(2, -1), pt(2, 4), pt(2, -8), 0)
}

func TestSideOfPointsThatAreTheSame(t *testing.T) {
	wantSide(t, pt(3, 5), pt(3, 5), pt(7, -2), 0)
	wantSide(t, pt(edge, -edge), pt(edge, -edge), pt(-edge, edge), 0)
	wantSide(t, pt(3, 5), pt(3, 5), pt(3, 5), 0)
}

func TestSideAsFarAsMayBe(t *testing.T) {
	low, high, left, right := pt(-edge, -edge), pt(edge, edge), pt(-edge, edge), pt(edge, -edge)
	wantSide(t, low, high, left, 1)
	wantSide(t, low, high, right, -1)
	wantSide(t, low, high, pt(0, 0), 0)
	wantSide(t, low, high, pt(0, 1), 1)
	wantSide(t, low, high, pt(1, 0), -1)
	wantSide(t, right, left, pt(0, 0), 0)
	wantSide(t, right, left, low, 1)
	wantSide(t, right, left, high, -1)
}

func TestSideByTheLeastArea(t *testing.T) {
	a, b := pt(-edge, -edge), pt(edge, edge-1)
	wantSide(t, a, b, pt(1-edge, 1-edge), 1)
	wantSide(t, a, b, pt(edge-1, edge-2), -1)
	wantSide(t, a, b, pt(1-edge, -edge), -1)
	wantSide(t, a, b, pt(edge-1, edge-1), 1)
}

func TestSideOfAllPoints(t *testing.T) {
	points := append(farPoints(), pt(0, 1), pt(-1, 0))
	for _, a := range points {
		for _, b := range points {
			for _, c := range points {
				wantSide(t, a, b, c, bigCross(a, b, a, c).Sign())
			}
		}
	}
}

func TestSideOfStrangers(t *testing.T) {
	a, b := pt(2, 9), pt(-5, 3)
	for _, p := range strangers() {
		wantSide(t, p, a, b, 0)
		wantSide(t, p, p, a, 0)
		wantSide(t, p, p, p, 0)
		wantSide(t, p, pt(-p.Y, p.X), a, 0)
	}
}

// Or1: On and Inside. Or3: of a line turned about it is the same.

// wantOn asks of the line turned about, too.
func wantOn(t *testing.T, s api.Seg, p api.Pt, on, inside bool) {
	t.Helper()
	for _, u := range []api.Seg{s, back(s)} {
		if got := orient.On(u, p); got != on {
			t.Errorf("On(%v, %v): %v, not %v", u, p, got, on)
		}
		if got := orient.Inside(u, p); got != inside {
			t.Errorf("Inside(%v, %v): %v, not %v", u, p, got, inside)
		}
	}
}

func TestOnASlantedLine(t *testing.T) {
	s := seg(0, 0, 2, 2)
	wantOn(t, s, pt(1, 1), true, true)
	wantOn(t, s, pt(0, 0), true, false)
	wantOn(t, s, pt(2, 2), true, false)
	wantOn(t, s, pt(3, 3), false, false)
	wantOn(t, s, pt(-1, -1), false, false)
	wantOn(t, s, pt(1, 0), false, false)
	wantOn(t, s, pt(0, 1), false, false)
	wantOn(t, s, pt(1, 2), false, false)
	wantOn(t, seg(-3, 4, 6, -2), pt(3, 0), true, true)
	wantOn(t, seg(-3, 4, 6, -2), pt(9, -4), false, false)
	wantOn(t, seg(-3, 4, 6, -2), pt(-6, 6), false, false)
}

func TestOnALevelLine(t *testing.T) {
	s := seg(-2, 3, 4, 3)
	wantOn(t, s, pt(-2, 3), true, false)
	wantOn(t, s, pt(-1, 3), true, true)
	wantOn(t, s, pt(3, 3), true, true)
	wantOn(t, s, pt(4, 3), true, false)
	wantOn(t, s, pt(5, 3), false, false)
	wantOn(t, s, pt(-3, 3), false, false)
	wantOn(t, s, pt(1, 4), false, false)
	wantOn(t, s, pt(1, 2), false, false)
	wantOn(t, s, pt(4, 4), false, false)
}

func TestOnAnUprightLine(t *testing.T) {
	s := seg(5, -1, 5, 3)
	wantOn(t, s, pt(5, -1), true, false)
	wantOn(t, s, pt(5, 0), true, true)
	wantOn(t, s, pt(5, 2), true, true)
	wantOn(t, s, pt(5, 3), true, false)
	wantOn(t, s, pt(5, 4), false, false)
	wantOn(t, s, pt(5, -2), false, false)
	wantOn(t, s, pt(4, 1), false, false)
	wantOn(t, s, pt(6, 1), false, false)
	wantOn(t, s, pt(6, 3), false, false)
}

func TestOnAShortLine(t *testing.T) {
	s := seg(7, -7, 8, -7)
	wantOn(t, s, s.A, true, false)
	wantOn(t, s, s.B, true, false)
	wantOn(t, s, pt(6, -7), false, false)
	wantOn(t, s, pt(9, -7), false, false)
}

func TestOnTheLongestLines(t *testing.T) {
	for _, s := range []api.Seg{seg(-edge, -edge, edge, edge), seg(edge, -edge, -edge, edge)} {
		wantOn(t, s, s.A, true, false)
		wantOn(t, s, s.B, true, false)
		wantOn(t, s, pt(0, 0), true, true)
		wantOn(t, s, pt(s.B.X/2, s.B.Y/2), true, true)
		wantOn(t, s, pt(0, 1), false, false)
		wantOn(t, s, pt(s.B.X, s.A.Y), false, false)
		wantOn(t, s, pt(s.B.X, s.B.Y-1), false, false)
	}
	s := seg(-edge, edge, edge, edge)
	wantOn(t, s, pt(edge-1, edge), true, true)
	wantOn(t, s, pt(edge-1, edge-1), false, false)
	wantOn(t, s, pt(edge+1, edge), false, false)
	wantOn(t, seg(-edge, -edge, edge, edge-1), pt(1-edge, 1-edge), false, false)
	wantOn(t, seg(-edge, -edge, edge, edge-1), pt(0, 0), false, false)
}

func TestOnAllLines(t *testing.T) {
	for _, points := range [][]api.Pt{smallPoints(), farPoints()} {
		for _, s := range linesOf(points) {
			for _, p := range points {
				on := bigOn(s, p)
				wantOn(t, s, p, on, on && p != s.A && p != s.B)
			}
		}
	}
}

func TestOnOfStrangers(t *testing.T) {
	for _, p := range strangers() {
		for _, s := range linesOf(farPoints()) {
			wantOn(t, s, p, false, false)
		}
	}
	for _, s := range wrongLines() {
		for _, p := range append(farPoints(), s.A, s.B, pt(0, 0), pt(1, 2), pt(3, 4)) {
			wantOn(t, s, p, false, false)
		}
	}
}

// Or2: Along and Touch. Or3: touching goes either way.

// wantTwo asks both ways, and with each line turned about.
func wantTwo(t *testing.T, s, u api.Seg, along, touch bool) {
	t.Helper()
	for _, a := range []api.Seg{s, back(s)} {
		for _, b := range []api.Seg{u, back(u)} {
			oneTwo(t, a, b, along, touch)
			oneTwo(t, b, a, along, touch)
		}
	}
}

func oneTwo(t *testing.T, s, u api.Seg, along, touch bool) {
	t.Helper()
	if got := orient.Along(s, u); got != along {
		t.Errorf("Along(%v, %v): %v, not %v", s, u, got, along)
	}
	if got := orient.Touch(s, u); got != touch {
		t.Errorf("Touch(%v, %v): %v, not %v", s, u, got, touch)
	}
}

func TestLinesOnOneStraightLine(t *testing.T) {
	s := seg(2, 1, 8, 4)
	wantTwo(t, s, seg(10, 5, 12, 6), true, false)
	wantTwo(t, s, seg(-4, -2, 0, 0), true, false)
	wantTwo(t, s, seg(8, 4, 12, 6), true, true)
	wantTwo(t, s, seg(-4, -2, 2, 1), true, true)
	wantTwo(t, s, seg(6, 3, 10, 5), true, true)
	wantTwo(t, s, seg(0, 0, 4, 2), true, true)
	wantTwo(t, s, seg(4, 2, 6, 3), true, true)
	wantTwo(t, s, seg(2, 1, 6, 3), true, true)
	wantTwo(t, s, seg(4, 2, 8, 4), true, true)
	wantTwo(t, s, seg(-2, -1, 20, 10), true, true)
	wantTwo(t, s, s, true, true)
}

func TestLevelLinesOnOneStraightLine(t *testing.T) {
	s := seg(-3, 5, 2, 5)
	wantTwo(t, s, seg(3, 5, 9, 5), true, false)
	wantTwo(t, s, seg(2, 5, 9, 5), true, true)
	wantTwo(t, s, seg(1, 5, 9, 5), true, true)
	wantTwo(t, s, seg(-1, 5, 0, 5), true, true)
	wantTwo(t, s, s, true, true)
}

func TestUprightLinesOnOneStraightLine(t *testing.T) {
	s := seg(4, -3, 4, 2)
	wantTwo(t, s, seg(4, 3, 4, 9), true, false)
	wantTwo(t, s, seg(4, 2, 4, 9), true, true)
	wantTwo(t, s, seg(4, 1, 4, 9), true, true)
	wantTwo(t, s, seg(4, -9, 4, 9), true, true)
	wantTwo(t, s, s, true, true)
}

func TestLinesThatCross(t *testing.T) {
	wantTwo(t, seg(0, 0, 2, 2), seg(0, 2, 2, 0), false, true)
	wantTwo(t, seg(0, 0, 3, 1), seg(1, 1, 2, 0), false, true)
	wantTwo(t, seg(-5, 2, 5, 2), seg(0, -3, 0, 9), false, true)
	wantTwo(t, seg(-5, 2, 5, 2), seg(-1, 1, 4, 3), false, true)
	wantTwo(t, seg(0, 0, 100, 1), seg(0, 1, 100, 0), false, true)
}

func TestLinesThatTouchByAnEnd(t *testing.T) {
	wantTwo(t, seg(0, 0, 4, 4), seg(2, 2, 2, 9), false, true)
	wantTwo(t, seg(0, 0, 4, 4), seg(3, 3, -1, 5), false, true)
	wantTwo(t, seg(-5, 2, 5, 2), seg(0, 2, 1, -7), false, true)
	wantTwo(t, seg(3, -5, 3, 5), seg(3, 0, 9, 0), false, true)
}

func TestLinesWithAnEndInCommonAlone(t *testing.T) {
	wantTwo(t, seg(0, 0, 4, 4), seg(4, 4, 4, 0), false, true)
	wantTwo(t, seg(0, 0, 4, 4), seg(0, 0, 4, 3), false, true)
	wantTwo(t, seg(0, 0, 4, 4), seg(0, 0, -4, -3), false, true)
	wantTwo(t, seg(1, 2, 7, 2), seg(1, 2, 1, 8), false, true)
}

func TestLinesThatMissEachOther(t *testing.T) {
	wantTwo(t, seg(0, 0, 2, 2), seg(2, 1, 3, 0), false, false)
	wantTwo(t, seg(0, 0, 4, 4), seg(2, 1, 4, 0), false, false)
	wantTwo(t, seg(0, 0, 4, 4), seg(4, 3, 3, 2), false, false)
	wantTwo(t, seg(0, 0, 5, 5), seg(0, 4, 1, 2), false, false)
	wantTwo(t, seg(0, 0, 5, 0), seg(2, 1, 3, 7), false, false)
	wantTwo(t, seg(0, 0, 5, 0), seg(6, 0, 9, 4), false, false)
	wantTwo(t, seg(0, 0, 5, 0), seg(9, 4, 9, -4), false, false)
	wantTwo(t, seg(0, 0, 9, 9), seg(8, 7, 9, 2), false, false)
}

func TestParallelLines(t *testing.T) {
	wantTwo(t, seg(0, 0, 4, 4), seg(1, 0, 5, 4), false, false)
	wantTwo(t, seg(0, 0, 6, 3), seg(2, 0, 4, 1), false, false)
	wantTwo(t, seg(0, 0, 5, 0), seg(0, 1, 5, 1), false, false)
	wantTwo(t, seg(3, 0, 3, 5), seg(4, 0, 4, 5), false, false)
	wantTwo(t, seg(-edge, -edge, edge, edge-1), seg(-edge, 1-edge, edge, edge), false, false)
}

func TestTheLongestLinesTogether(t *testing.T) {
	s := seg(-edge, -edge, edge, edge)
	wantTwo(t, s, seg(-edge, edge, edge, -edge), false, true)
	wantTwo(t, s, seg(edge, edge, edge-1, edge-1), true, true)
	wantTwo(t, s, seg(edge, -edge, 1, 0), false, false)
	wantTwo(t, s, seg(edge, -edge, 0, 0), false, true)
	wantTwo(t, s, seg(edge, edge, edge, -edge), false, true)
	wantTwo(t, s, seg(edge, edge-1, edge, -edge), false, false)
	wantTwo(t, seg(-edge, -edge, -1, -1), seg(0, 0, edge, edge), true, false)
	wantTwo(t, seg(-edge, edge, 0, edge), seg(1, edge, edge, edge), true, false)
}

func TestLongLinesThatMissByTheLeastArea(t *testing.T) {
	s := seg(-edge, -edge, edge, edge-1)
	wantTwo(t, s, seg(1-edge, 1-edge, -edge, edge), false, false)
	wantTwo(t, s, seg(edge-1, edge-2, edge, -edge), false, false)
	wantTwo(t, s, seg(1-edge, 1-edge, edge, -edge), false, true)
	wantTwo(t, s, seg(edge-1, edge-2, -edge, edge), false, true)
	wantTwo(t, s, seg(1-edge, 1-edge, edge-1, edge-2), false, true)
	wantTwo(t, s, seg(-edge, -edge, edge-1, edge-2), false, true)
}

func TestAllLinesTogether(t *testing.T) {
	for _, points := range [][]api.Pt{smallPoints(), farPoints()} {
		lines := linesOf(points)
		for _, s := range lines {
			for _, u := range lines {
				oneTwo(t, s, u, bigAlong(s, u), bigTouch(s, u))
			}
		}
	}
}

func TestAlongAndTouchOfWrongLines(t *testing.T) {
	right := append(linesOf(smallPoints()), seg(0, -edge, 0, edge), seg(-edge, 0, edge, 0), seg(-edge, -edge, edge, edge))
	for _, s := range wrongLines() {
		wantTwo(t, s, s, false, false)
		for _, u := range right {
			wantTwo(t, s, u, false, false)
		}
		for _, u := range wrongLines() {
			oneTwo(t, s, u, false, false)
		}
	}
}

// Or2: Order.

// wantOrder asks of the points exchanged, and of the line turned about, too.
func wantOrder(t *testing.T, s api.Seg, p, q api.Pt, want int) {
	t.Helper()
	oneOrder(t, s, p, q, want)
	oneOrder(t, s, q, p, -want)
	oneOrder(t, back(s), p, q, -want)
	oneOrder(t, back(s), q, p, want)
}

func oneOrder(t *testing.T, s api.Seg, p, q api.Pt, want int) {
	t.Helper()
	if got := orient.Order(s, p, q); got != want {
		t.Errorf("Order(%v, %v, %v): %d, not %d", s, p, q, got, want)
	}
}

func TestOrderAlongALine(t *testing.T) {
	s := seg(8, -2, 0, 2)
	wantOrder(t, s, s.A, s.B, -1)
	wantOrder(t, s, s.A, pt(6, -1), -1)
	wantOrder(t, s, pt(6, -1), pt(2, 1), -1)
	wantOrder(t, s, pt(2, 1), pt(4, 0), 1)
	wantOrder(t, s, s.B, pt(2, 1), 1)
}

func TestOrderOfOnePoint(t *testing.T) {
	s := seg(8, -2, 0, 2)
	wantOrder(t, s, pt(4, 0), pt(4, 0), 0)
	wantOrder(t, s, s.A, s.A, 0)
	wantOrder(t, s, s.B, s.B, 0)
}

func TestOrderOfPointsThatAreNotOnTheLine(t *testing.T) {
	s := seg(0, 0, 4, 4)
	for _, p := range []api.Pt{pt(5, 5), pt(-1, -1), pt(1, 2), pt(4, 3), pt(0, 7)} {
		wantOrder(t, s, s.A, p, 0)
		wantOrder(t, s, s.B, p, 0)
		wantOrder(t, s, pt(2, 2), p, 0)
		wantOrder(t, s, p, pt(9, 9), 0)
		wantOrder(t, s, p, p, 0)
	}
}

func TestOrderAlongLevelAndUprightLines(t *testing.T) {
	wantOrder(t, seg(-2, 3, 4, 3), pt(0, 3), pt(1, 3), -1)
	wantOrder(t, seg(4, 3, -2, 3), pt(0, 3), pt(1, 3), 1)
	wantOrder(t, seg(5, -1, 5, 3), pt(5, 2), pt(5, 0), 1)
	wantOrder(t, seg(5, 3, 5, -1), pt(5, 2), pt(5, 0), -1)
}

func TestOrderAlongTheLongestLines(t *testing.T) {
	for _, s := range []api.Seg{seg(-edge, -edge, edge, edge), seg(edge, -edge, -edge, edge)} {
		near := pt(s.B.X/edge*(edge-1), s.B.Y/edge*(edge-1))
		wantOrder(t, s, s.A, s.B, -1)
		wantOrder(t, s, near, s.B, -1)
		wantOrder(t, s, pt(0, 0), near, -1)
		wantOrder(t, s, s.A, near, -1)
		wantOrder(t, s, pt(0, 0), pt(0, 1), 0)
	}
}

func TestOrderOfAllPoints(t *testing.T) {
	for _, points := range [][]api.Pt{smallPoints(), farPoints()} {
		for _, s := range linesOf(points) {
			for _, p := range points {
				for _, q := range points {
					oneOrder(t, s, p, q, bigOrder(s, p, q))
				}
			}
		}
	}
}

func TestOrderOfStrangers(t *testing.T) {
	for _, p := range strangers() {
		for _, s := range []api.Seg{seg(0, -3, 0, 5), seg(-3, 0, 5, 0), seg(-edge, -edge, edge, edge)} {
			wantOrder(t, s, s.A, p, 0)
			wantOrder(t, s, s.B, p, 0)
			wantOrder(t, s, p, p, 0)
		}
	}
	for _, s := range wrongLines() {
		wantOrder(t, s, s.A, s.B, 0)
		wantOrder(t, s, s.A, pt(1, 2), 0)
		wantOrder(t, s, pt(0, 0), pt(1, 2), 0)
		wantOrder(t, s, pt(1, 2), s.B, 0)
	}
}
