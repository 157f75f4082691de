package meet_test

import (
	"math"
	"math/big"
	"testing"

	"snicket/api"
	"snicket/meet"
	"snicket/orient"
)

const edge = 1 << 29

// pt is a point, seg is a line, back is a line turned about.
func pt(x, y int) api.Pt { return api.Pt{X: x, Y: y} }

func seg(ax, ay, bx, by int) api.Seg { return api.Seg{A: pt(ax, ay), B: pt(bx, by)} }

func back(s api.Seg) api.Seg { return api.Seg{A: s.B, B: s.A} }

// cross is a meeting at a point, over is one of lines on each other.
func cross(n, m, d int) api.Meet { return api.Meet{Kind: api.MeetPoint, N: n, M: m, D: d} }

func over(px, py, qx, qy int) api.Meet {
	return api.Meet{Kind: api.MeetOver, P: pt(px, py), Q: pt(qx, qy)}
}

// farPoints is points that may be, each one once: the corners and the edges' middles of the grid, those beside them, and mixed ones.
func farPoints() []api.Pt {
	l := []api.Pt{pt(1, 1), pt(3, 4), pt(-6, -8), pt(edge-1, edge), pt(1-edge, 1-edge), pt(edge-1, edge-1), pt(edge, edge-1)}
	for _, x := range []int{-edge, 0, edge} {
		for _, y := range []int{-edge, 0, edge} {
			l = append(l, pt(x, y))
		}
	}
	return append(l, pt(123456789, -345678901), pt(-400000007, -98765), pt(-123456789, 345678901))
}

// smallPoints is the points of a small square, each one once, and the origin among them not as a corner.
func smallPoints() []api.Pt {
	var l []api.Pt
	for x := -1; x <= 2; x++ {
		for y := -1; y <= 2; y++ {
			l = append(l, pt(x, y))
		}
	}
	return l
}

// linesOf is all lines between points, in both directions.
func linesOf(points []api.Pt) []api.Seg {
	var l []api.Seg
	for _, a := range points {
		for _, b := range points {
			if a != b {
				l = append(l, api.Seg{A: a, B: b})
			}
		}
	}
	return l
}

// strangers is points that may not be, by X, by Y, or by both.
func strangers() []api.Pt {
	l := []api.Pt{pt(edge+1, -edge-1)}
	for _, n := range []int{edge + 1, -edge - 1, math.MaxInt, math.MinInt} {
		l = append(l, pt(n, 0), pt(0, n), pt(n, 7), pt(-7, n), pt(n, n))
	}
	return l
}

// wrongLines is lines that may not be: of one point, and those with an end, or both, that may not be.
func wrongLines() []api.Seg {
	l := []api.Seg{{}, seg(3, 4, 3, 4), seg(edge, -edge, edge, -edge)}
	for _, p := range strangers() {
		l = append(l, api.Seg{A: p, B: pt(1, 2)}, api.Seg{A: pt(1, 2), B: p}, api.Seg{A: p, B: p}, api.Seg{A: pt(0, 0), B: p})
	}
	return append(l, seg(edge+1, 0, -edge-1, 0), seg(0, math.MinInt, 0, math.MaxInt), seg(0, edge, 0, edge+1))
}

// What is to be answered, in numbers without bounds.

// bigStep is what leads from one point to another.
func bigStep(from, to api.Pt) (x, y *big.Int) {
	x = new(big.Int).Sub(big.NewInt(int64(to.X)), big.NewInt(int64(from.X)))
	y = new(big.Int).Sub(big.NewInt(int64(to.Y)), big.NewInt(int64(from.Y)))
	return x, y
}

// bigCross is the cross product of the step from a to b, and that from c to d.
func bigCross(a, b, c, d api.Pt) *big.Int {
	ux, uy := bigStep(a, b)
	vx, vy := bigStep(c, d)
	return ux.Sub(ux.Mul(ux, vy), uy.Mul(uy, vx))
}

// bigDot is how far two steps go in one direction, times how long they are.
func bigDot(a, b, c, d api.Pt) *big.Int {
	ux, uy := bigStep(a, b)
	vx, vy := bigStep(c, d)
	return ux.Add(ux.Mul(ux, vx), uy.Mul(uy, vy))
}

// bigMeet reckons how far along each line the straight lines meet.
func bigMeet(s, u api.Seg) api.Meet {
	d := bigCross(s.A, s.B, u.A, u.B)
	n, m := bigCross(s.A, u.A, u.A, u.B), bigCross(s.A, u.A, s.A, s.B)
	if d.Sign() == 0 {
		if n.Sign() != 0 {
			return api.Meet{}
		}
		return bigStraight(s, u)
	}
	if d.Sign() < 0 {
		d, n, m = d.Neg(d), n.Neg(n), m.Neg(m)
	}
	if n.Sign() < 0 || m.Sign() < 0 || n.Cmp(d) > 0 || m.Cmp(d) > 0 {
		return api.Meet{}
	}
	return cross(int(n.Int64()), int(m.Int64()), int(d.Int64()))
}

// bigStraight is how lines along one straight line meet: each point of it is told by how far it is along s, of which A is 0.
func bigStraight(s, u api.Seg) api.Meet {
	first, last := s.A, s.B
	low, high := u.A, u.B
	if bigDot(s.A, s.B, u.A, u.B).Sign() < 0 {
		low, high = high, low
	}
	if bigDot(s.A, s.B, first, low).Sign() > 0 {
		first = low
	}
	if bigDot(s.A, s.B, last, high).Sign() < 0 {
		last = high
	}
	switch bigDot(s.A, s.B, first, last).Sign() {
	case -1:
		return api.Meet{}
	case 1:
		return api.Meet{Kind: api.MeetOver, P: first, Q: last}
	}
	n, m := 0, 0
	if first == s.B {
		n = 1
	}
	if first == u.B {
		m = 1
	}
	return cross(n, m, 1)
}

// bigPlace is n parts of d of the way from one number to another.
func bigPlace(n, d, from, to int) *big.Rat {
	way := new(big.Int).Sub(big.NewInt(int64(to)), big.NewInt(int64(from)))
	way.Mul(way, big.NewInt(int64(n)))
	place := new(big.Rat).SetFrac(way, big.NewInt(int64(d)))
	return place.Add(place, new(big.Rat).SetInt64(int64(from)))
}

func bigWhole(n, d int, s api.Seg) (api.Pt, bool) {
	x, y := bigPlace(n, d, s.A.X, s.B.X), bigPlace(n, d, s.A.Y, s.B.Y)
	if !x.IsInt() || !y.IsInt() {
		return api.Pt{}, false
	}
	return pt(int(x.Num().Int64()), int(y.Num().Int64())), true
}

// Me1: Of. Me3: of the lines exchanged it is the other way round.

// wantMeet asks of the lines exchanged, and of each line turned about, too.
func wantMeet(t *testing.T, s, u api.Seg, want api.Meet) {
	t.Helper()
	oneMeet(t, s, u, want)
	oneMeet(t, u, s, exchanged(s, u, want))
	oneMeet(t, back(s), u, firstTurned(want))
	oneMeet(t, u, back(s), exchanged(back(s), u, firstTurned(want)))
	oneMeet(t, s, back(u), secondTurned(want))
	oneMeet(t, back(u), s, exchanged(s, back(u), secondTurned(want)))
	oneMeet(t, back(s), back(u), firstTurned(secondTurned(want)))
}

func oneMeet(t *testing.T, s, u api.Seg, want api.Meet) {
	t.Helper()
	if got := meet.Of(s, u); got != want {
		t.Errorf("Of(%v, %v): %+v, not %+v", s, u, got, want)
	}
}

// exchanged is how u and s meet, if s and u meet so: lines on each other in one direction have the same point ahead.
func exchanged(s, u api.Seg, m api.Meet) api.Meet {
	if m.Kind == api.MeetOver && bigDot(s.A, s.B, u.A, u.B).Sign() < 0 {
		m.P, m.Q = m.Q, m.P
	}
	m.N, m.M = m.M, m.N
	return m
}

// firstTurned is how lines meet of which the first one is turned about.
func firstTurned(m api.Meet) api.Meet {
	m.N = m.D - m.N
	m.P, m.Q = m.Q, m.P
	return m
}

// secondTurned is how lines meet of which the second one is turned about.
func secondTurned(m api.Meet) api.Meet {
	m.M = m.D - m.M
	return m
}

func TestLinesThatCrossInsideBoth(t *testing.T) {
	wantMeet(t, seg(0, 0, 2, 2), seg(0, 2, 2, 0), cross(4, 4, 8))
	wantMeet(t, seg(0, 0, 3, 1), seg(1, 1, 2, 0), cross(2, 2, 4))
	wantMeet(t, seg(-5, 2, 5, 2), seg(0, -3, 0, 9), cross(60, 50, 120))
	wantMeet(t, seg(-5, 2, 5, 2), seg(-1, 1, 4, 3), cross(13, 10, 20))
	wantMeet(t, seg(0, 0, 100, 1), seg(0, 1, 100, 0), cross(100, 100, 200))
	wantMeet(t, seg(0, 0, 1, 2), seg(1, 0, 0, 1), cross(1, 2, 3))
	wantMeet(t, seg(0, 0, 6, 0), seg(1, -1, 2, 3), cross(5, 6, 24))
}

func TestLinesThatTouchByAnEnd(t *testing.T) {
	wantMeet(t, seg(0, 0, 4, 4), seg(2, 2, 2, 9), cross(14, 0, 28))
	wantMeet(t, seg(0, 0, 4, 4), seg(3, 3, -1, 5), cross(18, 0, 24))
	wantMeet(t, seg(-5, 2, 5, 2), seg(1, -7, 0, 2), cross(45, 90, 90))
	wantMeet(t, seg(3, -5, 3, 5), seg(3, 0, 9, 0), cross(30, 0, 60))
	wantMeet(t, seg(3, -5, 3, 5), seg(9, 4, 3, 4), cross(54, 60, 60))
}

func TestLinesWithAnEndInCommonAlone(t *testing.T) {
	wantMeet(t, seg(0, 0, 4, 4), seg(4, 4, 4, 0), cross(16, 0, 16))
	wantMeet(t, seg(0, 0, 4, 4), seg(0, 0, 4, 3), cross(0, 0, 4))
	wantMeet(t, seg(0, 0, 4, 4), seg(0, 0, -4, -3), cross(0, 0, 4))
	wantMeet(t, seg(0, 0, 4, 4), seg(1, 7, 4, 4), cross(24, 24, 24))
	wantMeet(t, seg(1, 2, 7, 2), seg(1, 8, 1, 2), cross(0, 36, 36))
}

func TestAnEndInCommonAlongOneStraightLine(t *testing.T) {
	wantMeet(t, seg(2, 1, 8, 4), seg(8, 4, 12, 6), cross(1, 0, 1))
	wantMeet(t, seg(2, 1, 8, 4), seg(12, 6, 8, 4), cross(1, 1, 1))
	wantMeet(t, seg(2, 1, 8, 4), seg(2, 1, -4, -2), cross(0, 0, 1))
	wantMeet(t, seg(2, 1, 8, 4), seg(-4, -2, 2, 1), cross(0, 1, 1))
	wantMeet(t, seg(-3, 5, 2, 5), seg(2, 5, 9, 5), cross(1, 0, 1))
	wantMeet(t, seg(4, -3, 4, 2), seg(4, -8, 4, -3), cross(0, 1, 1))
	wantMeet(t, seg(-edge, -edge, 0, 0), seg(0, 0, edge, edge), cross(1, 0, 1))
}

func TestLinesThatMissEachOther(t *testing.T) {
	for _, u := range []api.Seg{seg(2, 1, 4, 0), seg(4, 3, 3, 2), seg(5, 4, 9, 9), seg(5, 5, 9, 8), seg(2, 1, 1, 0), seg(0, -1, 1, -5)} {
		wantMeet(t, seg(0, 0, 4, 4), u, api.Meet{})
	}
	for _, u := range []api.Seg{seg(2, 1, 3, 7), seg(6, 0, 9, 4), seg(9, 4, 9, -4), seg(-1, 0, -1, 1), seg(5, -1, 6, 1)} {
		wantMeet(t, seg(0, 0, 5, 0), u, api.Meet{})
	}
	wantMeet(t, seg(2, 1, 8, 4), seg(10, 5, 12, 6), api.Meet{})
	wantMeet(t, seg(2, 1, 8, 4), seg(-4, -2, 0, 0), api.Meet{})
	wantMeet(t, seg(4, -3, 4, 2), seg(4, 3, 4, 9), api.Meet{})
	wantMeet(t, seg(-3, 5, 2, 5), seg(3, 5, 9, 5), api.Meet{})
}

func TestParallelLines(t *testing.T) {
	wantMeet(t, seg(0, 0, 4, 4), seg(1, 0, 5, 4), api.Meet{})
	wantMeet(t, seg(0, 0, 6, 3), seg(2, 0, 4, 1), api.Meet{})
	wantMeet(t, seg(0, 0, 5, 0), seg(0, 1, 5, 1), api.Meet{})
	wantMeet(t, seg(3, 0, 3, 5), seg(4, 0, 4, 5), api.Meet{})
	wantMeet(t, seg(-edge, -edge, edge, edge-1), seg(-edge, 1-edge, edge, edge), api.Meet{})
}

func TestLinesOnEachOtherInPart(t *testing.T) {
	s := seg(2, 1, 8, 4)
	wantMeet(t, s, seg(6, 3, 10, 5), over(6, 3, 8, 4))
	wantMeet(t, s, seg(10, 5, 6, 3), over(6, 3, 8, 4))
	wantMeet(t, s, seg(0, 0, 4, 2), over(2, 1, 4, 2))
	wantMeet(t, s, seg(4, 2, 0, 0), over(2, 1, 4, 2))
	wantMeet(t, back(s), seg(6, 3, 10, 5), over(8, 4, 6, 3))
	wantMeet(t, seg(0, 0, 2, 2), seg(1, 1, 5, 5), over(1, 1, 2, 2))
}

func TestLinesOfWhichOneIsOnTheOther(t *testing.T) {
	s := seg(2, 1, 8, 4)
	wantMeet(t, s, seg(4, 2, 6, 3), over(4, 2, 6, 3))
	wantMeet(t, s, seg(6, 3, 4, 2), over(4, 2, 6, 3))
	wantMeet(t, s, seg(2, 1, 6, 3), over(2, 1, 6, 3))
	wantMeet(t, s, seg(8, 4, 4, 2), over(4, 2, 8, 4))
	wantMeet(t, s, seg(-2, -1, 20, 10), over(2, 1, 8, 4))
	wantMeet(t, s, s, over(2, 1, 8, 4))
	wantMeet(t, s, back(s), over(2, 1, 8, 4))
	wantMeet(t, back(s), s, over(8, 4, 2, 1))
}

func TestLevelAndUprightLinesOnEachOther(t *testing.T) {
	wantMeet(t, seg(-3, 5, 2, 5), seg(1, 5, 9, 5), over(1, 5, 2, 5))
	wantMeet(t, seg(2, 5, -3, 5), seg(-1, 5, 0, 5), over(0, 5, -1, 5))
	wantMeet(t, seg(4, -3, 4, 2), seg(4, 1, 4, 9), over(4, 1, 4, 2))
	wantMeet(t, seg(4, 2, 4, -3), seg(4, -9, 4, 9), over(4, 2, 4, -3))
}

func TestTheGreatestD(t *testing.T) {
	wantMeet(t, seg(-edge, -edge, edge, edge), seg(-edge, edge, edge, -edge), cross(1<<60, 1<<60, 1<<61))
	wantMeet(t, seg(-edge, -edge, edge, edge), seg(edge, -edge, -edge, edge), cross(1<<60, 1<<60, 1<<61))
}

func TestTheLongestLinesTogether(t *testing.T) {
	s := seg(-edge, -edge, edge, edge)
	wantMeet(t, s, s, over(-edge, -edge, edge, edge))
	wantMeet(t, s, seg(edge, edge, edge-1, edge-1), over(edge-1, edge-1, edge, edge))
	wantMeet(t, s, seg(edge, -edge, 0, 0), cross(1<<59, 1<<60, 1<<60))
	wantMeet(t, s, seg(edge, -edge, 1, 0), api.Meet{})
	wantMeet(t, s, seg(edge, edge, edge, -edge), cross(1<<60, 0, 1<<60))
	wantMeet(t, s, seg(edge, edge-1, edge, -edge), api.Meet{})
	wantMeet(t, seg(-edge, edge, edge, edge), seg(0, edge, 0, -edge), cross(1<<59, 0, 1<<60))
	wantMeet(t, seg(-edge, -edge, -1, -1), seg(0, 0, edge, edge), api.Meet{})
	wantMeet(t, seg(-edge, edge, 0, edge), seg(1, edge, edge, edge), api.Meet{})
}

func TestLongLinesThatMissByTheLeastArea(t *testing.T) {
	s := seg(-edge, -edge, edge, edge-1)
	wantMeet(t, s, seg(1-edge, 1-edge, -edge, edge), api.Meet{})
	wantMeet(t, s, seg(edge-1, edge-2, edge, -edge), api.Meet{})
}

func TestLongLinesThatMeetByTheLeastArea(t *testing.T) {
	s := seg(-edge, -edge, edge, edge-1)
	wantMeet(t, s, seg(1-edge, 1-edge, 1-edge, -edge), cross(1, 1, 1<<30))
	// All but along one straight line: the D of 1 is that of the directions.
	wantMeet(t, s, seg(-edge, -edge, edge-1, edge-2), cross(0, 0, 1))
	wantMeet(t, s, seg(2-edge, 2-edge, -edge, -edge), cross(0, 2, 2))
}

func TestAllLinesTogether(t *testing.T) {
	for _, points := range [][]api.Pt{smallPoints(), farPoints()} {
		lines := linesOf(points)
		for _, s := range lines {
			for _, u := range lines {
				oneMeet(t, s, u, bigMeet(s, u))
			}
		}
	}
}

func TestOfWrongLines(t *testing.T) {
	right := append(linesOf(smallPoints()), seg(0, -edge, 0, edge), seg(-edge, 0, edge, 0), seg(-edge, -edge, edge, edge))
	for _, s := range wrongLines() {
		oneMeet(t, s, s, api.Meet{})
		oneMeet(t, s, back(s), api.Meet{})
		for _, u := range right {
			oneMeet(t, s, u, api.Meet{})
			oneMeet(t, u, s, api.Meet{})
		}
		for _, u := range wrongLines() {
			oneMeet(t, s, u, api.Meet{})
		}
	}
}

// Me3: what follows.

func TestLinesMeetJustIfTheyTouch(t *testing.T) {
	for _, points := range [][]api.Pt{smallPoints(), farPoints()} {
		lines := append(linesOf(points), wrongLines()...)
		for _, s := range lines {
			for _, u := range lines {
				if got := meet.Of(s, u).Kind != api.MeetNone; got != orient.Touch(s, u) {
					t.Errorf("Of(%v, %v): meet: %v, though it is %v that they touch", s, u, got, !got)
				}
			}
		}
	}
}

func TestSeenFromTheOtherLine(t *testing.T) {
	for _, points := range [][]api.Pt{smallPoints(), farPoints()} {
		lines := linesOf(points)
		for _, s := range lines {
			for _, u := range lines {
				wantMeet(t, s, u, meet.Of(s, u))
			}
		}
	}
}

// TestOnePlaceOnBothLines holds the place along s against the one along t.
func TestOnePlaceOnBothLines(t *testing.T) {
	lines := linesOf(farPoints())
	for _, s := range lines {
		for _, u := range lines {
			m := meet.Of(s, u)
			if m.Kind != api.MeetPoint {
				continue
			}
			if m.D < 1 || m.N < 0 || m.N > m.D || m.M < 0 || m.M > m.D {
				t.Errorf("Of(%v, %v): %+v", s, u, m)
				continue
			}
			if bigPlace(m.N, m.D, s.A.X, s.B.X).Cmp(bigPlace(m.M, m.D, u.A.X, u.B.X)) != 0 {
				t.Errorf("Of(%v, %v): %+v: places with unlike X", s, u, m)
			}
			if bigPlace(m.N, m.D, s.A.Y, s.B.Y).Cmp(bigPlace(m.M, m.D, u.A.Y, u.B.Y)) != 0 {
				t.Errorf("Of(%v, %v): %+v: places with unlike Y", s, u, m)
			}
		}
	}
}

// Me1: Whole.

func wantWhole(t *testing.T, m api.Meet, s api.Seg, want api.Pt, whole bool) {
	t.Helper()
	if got, ok := meet.Whole(m, s); got != want || ok != whole {
		t.Errorf("Whole(%+v, %v): %v, %v, not %v, %v", m, s, got, ok, want, whole)
	}
}

func wantNoWhole(t *testing.T, m api.Meet, s api.Seg) {
	t.Helper()
	wantWhole(t, m, s, api.Pt{}, false)
}

func TestPlacesThatArePointsOfTheGrid(t *testing.T) {
	wantWhole(t, cross(4, 4, 8), seg(0, 0, 2, 2), pt(1, 1), true)
	wantWhole(t, cross(1, 0, 3), seg(-3, 4, 6, -2), pt(0, 2), true)
	wantWhole(t, cross(2, 0, 3), seg(6, -2, -3, 4), pt(0, 2), true)
	wantWhole(t, cross(60, 50, 120), seg(-5, 2, 5, 2), pt(0, 2), true)
	wantWhole(t, cross(3, 0, 4), seg(4, 9, 4, -3), pt(4, 0), true)
	wantWhole(t, cross(7, 0, 7), seg(0, 5, 3, 4), pt(3, 4), true)
	wantWhole(t, cross(0, 7, 7), seg(0, 5, 3, 4), pt(0, 5), true)
}

func TestPlacesThatAreNoPointsOfTheGrid(t *testing.T) {
	wantNoWhole(t, cross(1, 2, 3), seg(0, 0, 1, 2))
	wantNoWhole(t, cross(1, 1, 2), seg(0, 0, 3, 2))
	wantNoWhole(t, cross(1, 1, 2), seg(0, 0, 2, 3))
	wantNoWhole(t, cross(1, 1, 2), seg(0, 0, 3, 0))
	wantNoWhole(t, cross(1, 1, 2), seg(0, 0, 0, -3))
	wantNoWhole(t, cross(1, 1, 2), seg(3, 3, 0, 0))
	wantNoWhole(t, cross(13, 10, 21), seg(-5, 2, 5, 2))
}

func TestWholeOfTheOtherKinds(t *testing.T) {
	s := seg(0, 0, 2, 2)
	wantNoWhole(t, api.Meet{}, s)
	wantNoWhole(t, over(1, 1, 2, 2), s)
	for _, kind := range []int{api.MeetNone, api.MeetOver, 3, -1, math.MaxInt, math.MinInt} {
		wantNoWhole(t, api.Meet{Kind: kind, N: 4, M: 4, D: 8}, s)
		wantNoWhole(t, api.Meet{Kind: kind, N: 0, M: 1, D: 1}, s)
		wantNoWhole(t, api.Meet{Kind: kind, N: 1, M: 1, D: 2, P: pt(1, 1), Q: pt(1, 1)}, s)
	}
}

func TestWholeOfADThatMayNotBe(t *testing.T) {
	s := seg(0, 0, 2, 2)
	for _, d := range []int{0, -1, -2, -8, math.MinInt} {
		for _, n := range []int{0, 1, 2, -1, -8, d, math.MaxInt, math.MinInt} {
			wantNoWhole(t, cross(n, 0, d), s)
			wantNoWhole(t, cross(n, n, d), back(s))
		}
	}
}

func TestWholeOfAnNThatMayNotBe(t *testing.T) {
	s := seg(0, 0, 2, 2)
	for _, n := range []int{-1, -4, -8, 9, 12, 16, math.MaxInt, math.MinInt} {
		wantNoWhole(t, cross(n, 4, 8), s)
	}
	wantNoWhole(t, cross(-1, 0, 1), s)
	wantNoWhole(t, cross(2, 0, 1), s)
	wantNoWhole(t, cross(-2, 0, math.MaxInt), s)
	wantWhole(t, cross(0, 4, 8), s, pt(0, 0), true)
	wantWhole(t, cross(8, 4, 8), s, pt(2, 2), true)
	wantWhole(t, cross(0, 0, 1), s, pt(0, 0), true)
	wantWhole(t, cross(1, 0, 1), s, pt(2, 2), true)
}

// TestWholeGoesByNAndDAlone: of a place along s no more is asked.
func TestWholeGoesByNAndDAlone(t *testing.T) {
	s := seg(0, 0, 2, 2)
	for _, m := range []int{0, 3, 8, 9, -1, math.MaxInt, math.MinInt} {
		wantWhole(t, cross(4, m, 8), s, pt(1, 1), true)
		wantNoWhole(t, cross(3, m, 8), s)
	}
	wantWhole(t, api.Meet{Kind: api.MeetPoint, N: 4, M: 4, D: 8, P: pt(7, 7), Q: pt(9, 9)}, s, pt(1, 1), true)
}

func TestWholeOfNumbersTooGreatForLines(t *testing.T) {
	s := seg(-edge, edge, edge, -edge)
	wantWhole(t, cross(1<<61, 0, 1<<62), s, pt(0, 0), true)
	wantWhole(t, cross(math.MaxInt, 0, math.MaxInt), s, pt(edge, -edge), true)
	wantWhole(t, cross(0, 0, math.MaxInt), s, pt(-edge, edge), true)
	wantNoWhole(t, cross(math.MaxInt-1, 0, math.MaxInt), s)
	wantNoWhole(t, cross(1, 0, math.MaxInt), s)
	wantNoWhole(t, cross(1<<62, 0, math.MaxInt), s)
	wantWhole(t, cross(math.MaxInt/7*3, 0, math.MaxInt), seg(-7, 0, 0, 14), pt(-4, 6), true)
	wantNoWhole(t, cross(math.MaxInt/7*3, 0, math.MaxInt), seg(-7, 0, 0, 13))
	wantNoWhole(t, cross(math.MaxInt/7*3+1, 0, math.MaxInt), seg(-7, 0, 0, 14))
	wantWhole(t, cross(1<<60, 1<<60, 1<<61), s, pt(0, 0), true)
	wantWhole(t, cross(1<<31, 0, 1<<61), s, pt(1-edge, edge-1), true)
	wantNoWhole(t, cross(1<<31-1, 0, 1<<61), s)
}

func TestWholeAlongTheLongestLines(t *testing.T) {
	s := seg(-edge, -edge, edge, edge-1)
	wantWhole(t, cross(0, 0, 1), s, s.A, true)
	wantWhole(t, cross(1, 0, 1), s, s.B, true)
	wantNoWhole(t, cross(1, 0, 2), s)
	wantNoWhole(t, cross(1, 0, 1<<30), s)
	wantWhole(t, cross(5, 0, 1<<30), seg(-edge, edge, edge, edge), pt(5-edge, edge), true)
	wantWhole(t, cross(5, 0, 1<<30), seg(edge, edge, edge, -edge), pt(edge, edge-5), true)
}

func TestWholeOfWrongLines(t *testing.T) {
	for _, s := range wrongLines() {
		for _, m := range []api.Meet{{}, cross(0, 0, 1), cross(1, 1, 1), cross(1, 1, 2), cross(0, 1, 1<<61), over(0, 0, 1, 2)} {
			wantNoWhole(t, m, s)
			wantNoWhole(t, m, back(s))
		}
	}
}

func TestWholeOfAllPlaces(t *testing.T) {
	for _, points := range [][]api.Pt{smallPoints(), farPoints()} {
		for _, s := range linesOf(points) {
			for d := 1; d <= 12; d++ {
				for n := 0; n <= d; n++ {
					p, whole := bigWhole(n, d, s)
					wantWhole(t, cross(n, d-n, d), s, p, whole)
				}
			}
		}
	}
}

func TestWholeOfAllMeetings(t *testing.T) {
	for _, points := range [][]api.Pt{smallPoints(), farPoints()} {
		lines := linesOf(points)
		for _, s := range lines {
			for _, u := range lines {
				m := bigMeet(s, u)
				if m.Kind == api.MeetPoint {
					p, whole := bigWhole(m.N, m.D, s)
					wantWhole(t, m, s, p, whole)
					wantWhole(t, meet.Turn(m), u, p, whole)
				}
			}
		}
	}
}

// Me2: Turn.

func wantTurn(t *testing.T, m, want api.Meet) {
	t.Helper()
	if got := meet.Turn(m); got != want {
		t.Errorf("Turn(%+v): %+v, not %+v", m, got, want)
	}
}

func TestTurnOfNone(t *testing.T) { wantTurn(t, api.Meet{}, api.Meet{}) }

func TestTurnOfAPoint(t *testing.T) {
	wantTurn(t, cross(3, 5, 8), cross(5, 3, 8))
	wantTurn(t, cross(0, 1, 1), cross(1, 0, 1))
	wantTurn(t, cross(4, 4, 8), cross(4, 4, 8))
	wantTurn(t, cross(0, 1<<61, 1<<61), cross(1<<61, 0, 1<<61))
	wantTurn(t, cross(math.MinInt, math.MaxInt, -1), cross(math.MaxInt, math.MinInt, -1))
}

func TestTurnOfLinesOnEachOther(t *testing.T) {
	wantTurn(t, over(1, 1, 2, 2), over(1, 1, 2, 2))
	wantTurn(t, over(edge, edge, -edge, 7), over(edge, edge, -edge, 7))
	m := api.Meet{Kind: api.MeetOver, N: 1, M: 2, D: 3, P: pt(4, 5), Q: pt(6, 7)}
	wantTurn(t, m, m)
}

func TestTurnIsTheMeetingOfTheLinesExchanged(t *testing.T) {
	for _, points := range [][]api.Pt{smallPoints(), farPoints()} {
		lines := linesOf(points)
		for _, s := range lines {
			for _, u := range lines {
				if m := meet.Of(s, u); m.Kind == api.MeetOver {
					wantTurn(t, m, m)
				} else {
					wantTurn(t, m, meet.Of(u, s))
				}
			}
		}
	}
}
