package roads_test

import (
	"fmt"
	"math"
	"slices"
	"testing"

	"snicket/api"
	"snicket/roads"
)

const (
	edge      = 1 << 29
	heaviest  = 1 << 31
	greatest  = 1 << 20
	mostRoads = 200
	mostPts   = 100
	mostLines = 400
)

// pt is a point.
func pt(x, y int) api.Pt { return api.Pt{X: x, Y: y} }

// path is that many points, none the same as the one ahead of it; each seed has its own.
func path(seed, n int) []api.Pt {
	var l []api.Pt
	for i := range n {
		l = append(l, pt(seed+3*i, 5*(i%2)-seed))
	}
	return l
}

// loads is that many weights; each seed has its own.
func loads(seed, n int) []int {
	var l []int
	for i := range n {
		l = append(l, 1000*seed+i)
	}
	return l
}

// road is a road of so many points that may be; every other one is gone along in one direction alone.
func road(id, points int) api.Road {
	return api.Road{Id: id, Pts: path(id, points), Ws: loads(id, points-1), Oneway: id%2 == 0}
}

// listed is roads of two points of these Ids.
func listed(ids ...int) []api.Road {
	var l []api.Road
	for _, id := range ids {
		l = append(l, road(id, 2))
	}
	return l
}

// counted is so many roads of two points, of the Ids 2, 4, 6 and so on.
func counted(n int) []api.Road {
	var l []api.Road
	for i := range n {
		l = append(l, road(2*i+2, 2))
	}
	return l
}

// long is so many roads that have so many lines each, of the Ids 2, 4, 6 and so on.
func long(n, lines int) []api.Road {
	var l []api.Road
	for i := range n {
		l = append(l, road(2*i+2, lines+1))
	}
	return l
}

// mixed is roads of unlike length, one of which comes back to where it began.
func mixed() []api.Road {
	round := api.Road{Id: 9, Pts: []api.Pt{pt(0, 0), pt(4, 0), pt(4, 4), pt(0, 0)}, Ws: []int{0, heaviest, 7}, Oneway: true}
	return []api.Road{road(1, 2), road(4, 5), round, road(700, 3), road(greatest, 2)}
}

// someLists is lists of roads that may be.
func someLists() [][]api.Road {
	return [][]api.Road{nil, {}, listed(1), listed(greatest), listed(3, 4, 9), mixed(), counted(9), counted(mostRoads - 1), long(3, 99)}
}

// wrongList is roads that may not be, and why.
type wrongList struct {
	l []api.Road
	e api.Errno
}

// wrongLists is lists of roads that may not be, for each reason, the wrong road being the first, a middle or the last one.
func wrongLists() []wrongList {
	l := []wrongList{
		{counted(mostRoads + 1), api.ErrFull},
		{long(5, 81), api.ErrFull},
		{listed(3, 3), api.ErrArg},
		{listed(3, 5, 4), api.ErrArg},
	}
	for i := range 3 {
		for _, f := range faults() {
			bad := listed(3, 5, 7)
			f.do(&bad[i])
			l = append(l, wrongList{bad, f.e})
		}
	}
	return l
}

// fault is what makes a road of four points one that may not be, and the error of it.
type fault struct {
	name string
	do   func(x *api.Road)
	e    api.Errno
}

// faults is one fault of each kind, in the order in which they are told.
func faults() []fault {
	return []fault{
		{"Id", func(x *api.Road) { x.Id = -x.Id }, api.ErrArg},
		{"weights", func(x *api.Road) { x.Ws = append(slices.Clone(x.Ws), 1) }, api.ErrArg},
		{"point", func(x *api.Road) { x.Pts[len(x.Pts)-1].Y = edge + 1 }, api.ErrRange},
		{"same", func(x *api.Road) { x.Pts = slices.Insert(x.Pts, 1, x.Pts[0]); x.Ws = append(x.Ws, 1) }, api.ErrArg},
		{"weight", func(x *api.Road) { x.Ws[0] = -1 }, api.ErrWeight},
	}
}

// tell is roads as a text: nothing and an empty list are told alike.
func tell(l []api.Road) string { return fmt.Sprint(l) }

// own is roads of which nothing is shared.
func own(l []api.Road) []api.Road {
	var copies []api.Road
	for _, x := range l {
		copies = append(copies, ownRoad(x))
	}
	return copies
}

func ownRoad(x api.Road) api.Road {
	x.Pts, x.Ws = append([]api.Pt(nil), x.Pts...), append([]int(nil), x.Ws...)
	return x
}

// roomy is the same roads with room behind each list, which is filled.
func roomy(l []api.Road) []api.Road {
	room := append(own(l), api.Road{Id: 77}, api.Road{Id: 78})
	for i := range l {
		room[i].Pts = append(room[i].Pts, pt(-7, -7), pt(-8, -8))[:len(room[i].Pts)]
		room[i].Ws = append(room[i].Ws, -7, -8)[:len(room[i].Ws)]
	}
	return room[:len(l)]
}

// whole is all that roads hold, with what lies behind each list.
func whole(l []api.Road) string {
	all := own(l[:cap(l)])
	for i, x := range l[:cap(l)] {
		all[i].Pts, all[i].Ws = x.Pts[:cap(x.Pts)], x.Ws[:cap(x.Ws)]
	}
	return tell(all)
}

// spoil writes over all that roads hold, and puts more behind each list.
func spoil(l []api.Road) {
	for i := range l {
		spoilRoad(l[i])
		l[i].Id, l[i].Oneway = -1, !l[i].Oneway
	}
	_ = append(l, api.Road{Id: -9})
}

func spoilRoad(x api.Road) {
	for k := range x.Pts {
		x.Pts[k] = pt(-99, 99)
	}
	for k := range x.Ws {
		x.Ws[k] = -99
	}
	_, _ = append(x.Pts, pt(-98, 98)), append(x.Ws, -98)
}

// Ro1: Check.

func wantCheck(t *testing.T, x api.Road, want api.Errno) {
	t.Helper()
	before := tell([]api.Road{x})
	if got := roads.Check(x); got != want {
		t.Errorf("Check(%v): %d; want %d", x, got, want)
	}
	if after := tell([]api.Road{x}); after != before {
		t.Errorf("Check turned %s to %s", before, after)
	}
}

func TestCheckOfIds(t *testing.T) {
	for _, id := range []int{1, 2, 17, greatest - 1, greatest} {
		x := road(3, 4)
		x.Id = id
		wantCheck(t, x, api.OK)
	}
	for _, id := range []int{0, -1, -2, -greatest, math.MinInt, greatest + 1, 1 << 21, 1 << 32, 1<<32 + 5, math.MaxInt} {
		x := road(3, 4)
		x.Id = id
		wantCheck(t, x, api.ErrArg)
	}
}

func TestCheckOfHowManyPoints(t *testing.T) {
	wantCheck(t, api.Road{}, api.ErrArg)
	wantCheck(t, api.Road{Id: 1}, api.ErrArg)
	wantCheck(t, api.Road{Id: 1, Pts: []api.Pt{}, Ws: []int{}}, api.ErrArg)
	wantCheck(t, api.Road{Id: 1, Ws: []int{5}}, api.ErrArg)
	wantCheck(t, api.Road{Id: 1, Pts: path(1, 1)}, api.ErrArg)
	wantCheck(t, api.Road{Id: 1, Pts: path(1, 1), Ws: []int{}}, api.ErrArg)
	wantCheck(t, api.Road{Id: 1, Pts: path(1, 1), Ws: []int{5}}, api.ErrArg)
	for _, n := range []int{2, 3, 50, mostPts - 1, mostPts} {
		wantCheck(t, road(1, n), api.OK)
		wantCheck(t, road(2, n), api.OK)
	}
	for _, n := range []int{mostPts + 1, mostPts + 2, 2 * mostPts, 100000} {
		wantCheck(t, road(1, n), api.ErrArg)
	}
}

func TestCheckOfHowManyWeights(t *testing.T) {
	for _, n := range []int{2, 3, 50, mostPts} {
		for _, ws := range []int{0, n - 2, n, n + 1, 2*n + 1} {
			wantCheck(t, api.Road{Id: 1, Pts: path(1, n), Ws: loads(1, ws)}, api.ErrArg)
		}
	}
}

func TestCheckOfPointsThatMayNotBe(t *testing.T) {
	for _, n := range []int{2, 3, 5, mostPts} {
		for _, at := range []int{0, n / 2, n - 1} {
			for _, off := range []int{edge + 1, -edge - 1, math.MaxInt, math.MinInt} {
				for _, p := range []api.Pt{pt(off, 0), pt(0, off), pt(off, off)} {
					x := road(6, n)
					x.Pts[at] = p
					wantCheck(t, x, api.ErrRange)
				}
			}
		}
	}
}

func TestCheckOfPointsAtTheGridsEdge(t *testing.T) {
	for _, p := range []api.Pt{pt(edge, edge), pt(-edge, edge), pt(edge, -edge), pt(-edge, -edge), pt(edge, 0), pt(0, -edge)} {
		for at := range 3 {
			x := road(6, 3)
			x.Pts[at] = p
			wantCheck(t, x, api.OK)
		}
	}
	wantCheck(t, api.Road{Id: 1, Pts: []api.Pt{pt(-edge, -edge), pt(edge, edge)}, Ws: []int{0}}, api.OK)
}

func TestCheckOfPointsThatAreTheSame(t *testing.T) {
	for _, n := range []int{2, 3, 5, mostPts} {
		for _, at := range []int{1, n / 2, n - 1} {
			x := road(6, n)
			x.Pts[at] = x.Pts[at-1]
			wantCheck(t, x, api.ErrArg)
		}
	}
	wantCheck(t, api.Road{Id: 1, Pts: make([]api.Pt, 4), Ws: loads(1, 3)}, api.ErrArg)
}

func TestCheckOfTheSamePointsFartherApart(t *testing.T) {
	for _, n := range []int{3, 4, 7, mostPts} {
		for at := 2; at < n; at++ {
			x := road(6, n)
			x.Pts[at] = x.Pts[at-2]
			if at+1 < n && x.Pts[at] == x.Pts[at+1] {
				continue
			}
			wantCheck(t, x, api.OK)
		}
		x := road(6, n)
		x.Pts[n-1] = x.Pts[0]
		wantCheck(t, x, api.OK)
	}
}

func TestCheckOfPointsUnlikeByOnePart(t *testing.T) {
	wantCheck(t, api.Road{Id: 1, Pts: []api.Pt{pt(5, 6), pt(5, 7)}, Ws: []int{1}}, api.OK)
	wantCheck(t, api.Road{Id: 1, Pts: []api.Pt{pt(5, 6), pt(4, 6)}, Ws: []int{1}}, api.OK)
	wantCheck(t, api.Road{Id: 1, Pts: []api.Pt{pt(5, 6), pt(6, 5)}, Ws: []int{1}}, api.OK)
	wantCheck(t, api.Road{Id: 1, Pts: []api.Pt{pt(5, 6), pt(-5, -6)}, Ws: []int{1}}, api.OK)
}

func TestCheckOfWeights(t *testing.T) {
	for _, n := range []int{2, 3, 5, mostPts} {
		for _, at := range []int{0, (n - 1) / 2, n - 2} {
			for _, w := range []int{0, 1, heaviest - 1, heaviest} {
				x := road(6, n)
				x.Ws[at] = w
				wantCheck(t, x, api.OK)
			}
			for _, w := range []int{-1, -heaviest, math.MinInt, heaviest + 1, 1 << 40, math.MaxInt} {
				x := road(6, n)
				x.Ws[at] = w
				wantCheck(t, x, api.ErrWeight)
			}
		}
	}
}

func TestCheckInEitherDirection(t *testing.T) {
	for _, oneway := range []bool{false, true} {
		x := road(5, 4)
		x.Oneway = oneway
		wantCheck(t, x, api.OK)
		for _, f := range faults() {
			y := ownRoad(x)
			f.do(&y)
			wantCheck(t, y, f.e)
		}
	}
}

// TestCheckOfSeveralFaults asks of any faults together: the one that is named first is told.
func TestCheckOfSeveralFaults(t *testing.T) {
	all := faults()
	for some := range 1 << len(all) {
		x, want := road(5, 4), api.OK
		for i := len(all) - 1; i >= 0; i-- {
			if some>>i&1 == 1 {
				all[i].do(&x)
				want = all[i].e
			}
		}
		wantCheck(t, x, want)
	}
}

func TestCheckOfFaultsWhereverTheyStand(t *testing.T) {
	far, twice := pt(edge+1, 0), pt(1, 1)
	wantCheck(t, api.Road{Id: 1, Pts: []api.Pt{far}}, api.ErrArg)
	wantCheck(t, api.Road{Id: 1, Pts: []api.Pt{far, far}, Ws: []int{0}}, api.ErrRange)
	wantCheck(t, api.Road{Id: 1, Pts: []api.Pt{twice, twice, far}, Ws: []int{0, 0}}, api.ErrRange)
	wantCheck(t, api.Road{Id: 1, Pts: []api.Pt{far, twice, twice}, Ws: []int{0, 0}}, api.ErrRange)
	wantCheck(t, api.Road{Id: 1, Pts: []api.Pt{pt(0, 0), pt(1, 0), far}, Ws: []int{-1, 0}}, api.ErrRange)
	wantCheck(t, api.Road{Id: 1, Pts: []api.Pt{pt(0, 0), twice, twice}, Ws: []int{-1, 0}}, api.ErrArg)
	wantCheck(t, api.Road{Id: 1, Pts: []api.Pt{twice, twice, pt(0, 0)}, Ws: []int{0, heaviest + 1}}, api.ErrArg)
}

// Ro1: All.

func wantAll(t *testing.T, l []api.Road, want api.Errno) {
	t.Helper()
	before := tell(l)
	if got := roads.All(l); got != want {
		t.Errorf("All(%v): %d; want %d", l, got, want)
	}
	if after := tell(l); after != before {
		t.Errorf("All turned %s to %s", before, after)
	}
}

func TestAllOfRoadsThatMayBe(t *testing.T) {
	for _, l := range someLists() {
		wantAll(t, l, api.OK)
	}
}

func TestAllOfHowManyRoads(t *testing.T) {
	wantAll(t, counted(mostRoads-1), api.OK)
	wantAll(t, counted(mostRoads), api.OK)
	wantAll(t, counted(mostRoads+1), api.ErrFull)
	wantAll(t, counted(mostRoads+2), api.ErrFull)
	wantAll(t, make([]api.Road, 5000), api.ErrFull)
}

func TestAllOfIdsThatDoNotRise(t *testing.T) {
	wantAll(t, listed(1, 2, 3), api.OK)
	wantAll(t, listed(1, greatest), api.OK)
	wantAll(t, listed(1, 1), api.ErrArg)
	wantAll(t, listed(2, 1), api.ErrArg)
	wantAll(t, listed(1, 1, 2), api.ErrArg)
	wantAll(t, listed(1, 2, 2), api.ErrArg)
	wantAll(t, listed(2, 1, 3), api.ErrArg)
	wantAll(t, listed(1, 3, 2), api.ErrArg)
	wantAll(t, listed(1, 5, 3, 7), api.ErrArg)
	wantAll(t, listed(greatest, 1), api.ErrArg)
	falling := counted(mostRoads)
	slices.Reverse(falling)
	wantAll(t, falling, api.ErrArg)
}

func TestAllOfHowManyLines(t *testing.T) {
	wantAll(t, long(4, 99), api.OK)
	wantAll(t, long(5, 80), api.OK)
	wantAll(t, long(mostRoads, 2), api.OK)
	wantAll(t, long(5, 99), api.ErrFull)
	wantAll(t, append(long(5, 79), road(50, 6)), api.OK)
	wantAll(t, append(long(5, 79), road(50, 7)), api.ErrFull)
	wantAll(t, append([]api.Road{road(1, 3)}, long(mostRoads-1, 2)...), api.OK)
	wantAll(t, append([]api.Road{road(1, 4)}, long(mostRoads-1, 2)...), api.ErrFull)
	wantAll(t, long(mostRoads, 99), api.ErrFull)
}

func TestAllOfAWrongRoad(t *testing.T) {
	for _, w := range wrongLists() {
		wantAll(t, w.l, w.e)
	}
	for i := range mostRoads {
		l := counted(mostRoads)
		l[i].Ws[0] = -1
		wantAll(t, l, api.ErrWeight)
	}
}

func TestAllTellsTheFirstWrongRoad(t *testing.T) {
	for _, f := range faults() {
		for _, g := range faults() {
			for _, at := range [][2]int{{0, 1}, {0, 2}, {1, 2}} {
				l := listed(3, 5, 7)
				f.do(&l[at[0]])
				g.do(&l[at[1]])
				wantAll(t, l, f.e)
			}
		}
	}
}

// TestAllOfSeveralFaults asks of any faults together: the one that is named first is told.
func TestAllOfSeveralFaults(t *testing.T) {
	for some := range 16 {
		n, lines, want := 3, 1, api.OK
		if some&1 != 0 {
			n = mostRoads + 1
		}
		if some&2 != 0 {
			lines, want = 99, api.ErrFull
		}
		l := long(max(n, 5), lines)
		if some&4 != 0 {
			l[1].Id, want = l[0].Id, api.ErrArg
		}
		if some&8 != 0 {
			l[2].Ws[0], want = heaviest+1, api.ErrWeight
		}
		if some&1 != 0 {
			want = api.ErrFull
		}
		wantAll(t, l, want)
	}
}

// Ro2: Add.

func wantAdd(t *testing.T, l []api.Road, x api.Road, want []api.Road, e api.Errno) {
	t.Helper()
	lBefore, xBefore := tell(l), tell([]api.Road{x})
	got, gotE := roads.Add(l, x)
	if tell(got) != tell(want) || gotE != e || e != api.OK && got != nil {
		t.Errorf("Add(%v, %v): %v, %d; want %v, %d", l, x, got, gotE, want, e)
	}
	if tell(l) != lBefore || tell([]api.Road{x}) != xBefore {
		t.Errorf("Add turned %s, %s to %v, %v", lBefore, xBefore, l, x)
	}
}

func TestAddInItsPlace(t *testing.T) {
	wantAdd(t, nil, road(5, 3), []api.Road{road(5, 3)}, api.OK)
	wantAdd(t, []api.Road{}, road(6, 2), []api.Road{road(6, 2)}, api.OK)
	wantAdd(t, listed(3, 5, 9), road(2, 4), append([]api.Road{road(2, 4)}, listed(3, 5, 9)...), api.OK)
	wantAdd(t, listed(3, 5, 9), road(4, 4), []api.Road{road(3, 2), road(4, 4), road(5, 2), road(9, 2)}, api.OK)
	wantAdd(t, listed(3, 5, 9), road(7, 4), []api.Road{road(3, 2), road(5, 2), road(7, 4), road(9, 2)}, api.OK)
	wantAdd(t, listed(3, 5, 9), road(10, 4), append(listed(3, 5, 9), road(10, 4)), api.OK)
	wantAdd(t, listed(1, greatest), road(2, 2), listed(1, 2, greatest), api.OK)
	wantAdd(t, listed(greatest), road(1, 2), listed(1, greatest), api.OK)
	wantAdd(t, listed(1), road(greatest, 2), listed(1, greatest), api.OK)
}

func TestAddInEachPlaceOfMany(t *testing.T) {
	for i := range mostRoads {
		l := counted(mostRoads - 1)
		want := slices.Insert(counted(mostRoads-1), i, road(2*i+1, 2))
		wantAdd(t, l, road(2*i+1, 2), want, api.OK)
	}
}

func TestAddOneByOneInAnyOrder(t *testing.T) {
	var l []api.Road
	for i := range 101 {
		next, e := roads.Add(l, road(i*37%101+1, 2))
		if e != api.OK {
			t.Fatalf("Add of %d: %d", i*37%101+1, e)
		}
		l = next
	}
	var want []api.Road
	for i := range 101 {
		want = append(want, road(i+1, 2))
	}
	if tell(l) != tell(want) {
		t.Errorf("%v, not %v", l, want)
	}
}

func TestAddOfAnIdThatIsThere(t *testing.T) {
	for _, l := range someLists() {
		for _, x := range l {
			wantAdd(t, l, x, nil, api.ErrThere)
			wantAdd(t, l, api.Road{Id: x.Id, Pts: path(900, 6), Ws: loads(900, 5)}, nil, api.ErrThere)
		}
	}
}

func TestAddOfARoadThatMayNotBe(t *testing.T) {
	for _, l := range someLists() {
		for _, f := range faults() {
			x := road(8, 4)
			f.do(&x)
			wantAdd(t, l, x, nil, f.e)
		}
		wantAdd(t, l, api.Road{}, nil, api.ErrArg)
		wantAdd(t, l, api.Road{Id: greatest + 1, Pts: path(1, 2), Ws: loads(1, 1)}, nil, api.ErrArg)
	}
}

func TestAddToRoadsThatMayNotBe(t *testing.T) {
	for _, w := range wrongLists() {
		wantAdd(t, w.l, road(8, 4), nil, w.e)
		wantAdd(t, w.l, road(3, 2), nil, w.e)
		for _, f := range faults() {
			x := road(8, 4)
			f.do(&x)
			wantAdd(t, w.l, x, nil, w.e)
		}
	}
}

func TestAddOfOneRoadTooMany(t *testing.T) {
	wantAdd(t, counted(mostRoads-1), road(1, 2), append(listed(1), counted(mostRoads-1)...), api.OK)
	for _, id := range []int{1, 3, 201, 399, 401, greatest} {
		wantAdd(t, counted(mostRoads), road(id, 2), nil, api.ErrFull)
	}
}

func TestAddOfOneLineTooMany(t *testing.T) {
	wantAdd(t, long(4, 99), road(1, 5), append([]api.Road{road(1, 5)}, long(4, 99)...), api.OK)
	wantAdd(t, long(4, 99), road(99, 5), append(long(4, 99), road(99, 5)), api.OK)
	wantAdd(t, long(4, 99), road(1, 6), nil, api.ErrFull)
	wantAdd(t, long(4, 99), road(3, 6), nil, api.ErrFull)
	wantAdd(t, long(4, 99), road(99, 6), nil, api.ErrFull)
	wantAdd(t, long(5, 80), road(99, 2), nil, api.ErrFull)
	wantAdd(t, long(mostRoads-1, 2), road(1, 4), nil, api.ErrFull)
}

func TestAddOfSeveralFaults(t *testing.T) {
	full := long(mostRoads, 2)
	wantAdd(t, full, road(8, 100), nil, api.ErrThere)
	wantAdd(t, full, road(400, 2), nil, api.ErrThere)
	wantAdd(t, full, road(401, 2), nil, api.ErrFull)
	for _, id := range []int{8, 401} {
		for _, f := range faults() {
			x := road(id, 4)
			f.do(&x)
			wantAdd(t, full, x, nil, f.e)
		}
	}
}

func TestAddLeavesWhatWasHandedIn(t *testing.T) {
	for _, id := range []int{2, 8, 500, greatest - 1} {
		l, x := roomy(mixed()), roomy([]api.Road{road(id, 4)})
		lBefore, xBefore := whole(l), whole(x)
		got, _ := roads.Add(l, x[0])
		want := tell(got)
		spoil(got)
		if whole(l) != lBefore || whole(x) != xBefore {
			t.Errorf("Add of %d, or what is written to its answer, turns what was handed in", id)
		}
		got, _ = roads.Add(l, x[0])
		spoil(l)
		spoil(x)
		if tell(got) != want {
			t.Errorf("Add of %d keeps what was handed in: %v, not %s", id, got, want)
		}
	}
}

func TestAddOfPointsThatARoadHas(t *testing.T) {
	l := mixed()
	got, e := roads.Add(l, api.Road{Id: 2, Pts: l[1].Pts, Ws: l[1].Ws})
	if e != api.OK {
		t.Fatalf("Add: %d", e)
	}
	apart(t, got)
}

// apart asks that no two lists of roads share anything: each is written over, and no other one turns.
func apart(t *testing.T, l []api.Road) {
	t.Helper()
	want := own(l)
	for i, x := range l {
		spoilRoad(x)
		for k := i + 1; k < len(l); k++ {
			if tell(l[k:k+1]) != tell(want[k:k+1]) {
				t.Errorf("what is written to the road %d turns the road %d", i, k)
			}
		}
		for k := range i {
			if l[k].Pts[0] != pt(-99, 99) || l[k].Ws[0] != -99 {
				t.Errorf("what is written to the road %d turns the road %d", i, k)
			}
		}
	}
}

// Ro2: Drop.

func wantDrop(t *testing.T, l []api.Road, id int, want []api.Road, e api.Errno) {
	t.Helper()
	before := tell(l)
	got, gotE := roads.Drop(l, id)
	if tell(got) != tell(want) || gotE != e || e != api.OK && got != nil {
		t.Errorf("Drop(%v, %d): %v, %d; want %v, %d", l, id, got, gotE, want, e)
	}
	if tell(l) != before {
		t.Errorf("Drop turned %s to %v", before, l)
	}
}

func TestDropOfOneThatIsThere(t *testing.T) {
	wantDrop(t, listed(7), 7, nil, api.OK)
	wantDrop(t, listed(3, 5, 9), 3, listed(5, 9), api.OK)
	wantDrop(t, listed(3, 5, 9), 5, listed(3, 9), api.OK)
	wantDrop(t, listed(3, 5, 9), 9, listed(3, 5), api.OK)
	wantDrop(t, listed(1, greatest), 1, listed(greatest), api.OK)
	wantDrop(t, listed(1, greatest), greatest, listed(1), api.OK)
	wantDrop(t, []api.Road{road(3, 4), road(4, 6), road(6, 5)}, 4, []api.Road{road(3, 4), road(6, 5)}, api.OK)
}

func TestDropOfEach(t *testing.T) {
	for _, l := range append(someLists(), counted(mostRoads), long(mostRoads, 2)) {
		for i, x := range l {
			wantDrop(t, l, x.Id, slices.Delete(own(l), i, i+1), api.OK)
		}
	}
}

func TestDropOfOneThatIsNotThere(t *testing.T) {
	for _, id := range []int{2, 4, 8, 10, 0, -3, greatest, greatest + 1, math.MinInt, math.MaxInt} {
		wantDrop(t, listed(3, 5, 9), id, nil, api.ErrNone)
		wantDrop(t, nil, id, nil, api.ErrNone)
		wantDrop(t, []api.Road{}, id, nil, api.ErrNone)
	}
}

func TestDropOfRoadsThatMayNotBe(t *testing.T) {
	for _, w := range wrongLists() {
		for _, id := range []int{3, 5, 7, 2, 0, -3, greatest + 1} {
			wantDrop(t, w.l, id, nil, w.e)
		}
	}
}

func TestDropLeavesWhatWasHandedIn(t *testing.T) {
	for _, id := range []int{1, 4, 9, 700, greatest} {
		l := roomy(mixed())
		before := whole(l)
		got, _ := roads.Drop(l, id)
		want := tell(got)
		spoil(got)
		if whole(l) != before {
			t.Errorf("Drop of %d, or what is written to its answer, turns what was handed in", id)
		}
		got, _ = roads.Drop(l, id)
		spoil(l)
		if tell(got) != want {
			t.Errorf("Drop of %d keeps what was handed in: %v, not %s", id, got, want)
		}
	}
}

func TestDropFromRoadsThatShare(t *testing.T) {
	pts, ws := path(1, 4), loads(1, 3)
	l := []api.Road{{Id: 1, Pts: pts, Ws: ws}, {Id: 2, Pts: pts, Ws: ws}, {Id: 3, Pts: pts, Ws: ws}}
	got, e := roads.Drop(l, 2)
	if e != api.OK {
		t.Fatalf("Drop: %d", e)
	}
	apart(t, got)
}

// Ro2: Find.

func wantFind(t *testing.T, l []api.Road, id int, want api.Road, there bool) {
	t.Helper()
	before := tell(l)
	got, ok := roads.Find(l, id)
	if tell([]api.Road{got}) != tell([]api.Road{want}) || ok != there || !there && (got.Pts != nil || got.Ws != nil) {
		t.Errorf("Find(%v, %d): %v, %v; want %v, %v", l, id, got, ok, want, there)
	}
	if tell(l) != before {
		t.Errorf("Find turned %s to %v", before, l)
	}
}

func TestFindOfEach(t *testing.T) {
	wantFind(t, listed(3, 5, 9), 3, road(3, 2), true)
	wantFind(t, listed(3, 5, 9), 5, road(5, 2), true)
	wantFind(t, listed(3, 5, 9), 9, road(9, 2), true)
	for _, l := range append(someLists(), counted(mostRoads), long(4, 99)) {
		for _, x := range own(l) {
			wantFind(t, l, x.Id, x, true)
		}
	}
}

func TestFindOfOneThatIsNotThere(t *testing.T) {
	for _, id := range []int{2, 4, 8, 10, 0, -3, greatest, greatest + 1, math.MinInt, math.MaxInt} {
		wantFind(t, listed(3, 5, 9), id, api.Road{}, false)
		wantFind(t, nil, id, api.Road{}, false)
		wantFind(t, []api.Road{}, id, api.Road{}, false)
	}
}

func TestFindOfRoadsThatMayNotBe(t *testing.T) {
	for _, w := range wrongLists() {
		for _, x := range w.l {
			wantFind(t, w.l, x.Id, api.Road{}, false)
		}
		wantFind(t, w.l, 999, api.Road{}, false)
	}
}

func TestFindLeavesWhatWasHandedIn(t *testing.T) {
	for _, x := range mixed() {
		l := roomy(mixed())
		before := whole(l)
		got, _ := roads.Find(l, x.Id)
		spoilRoad(got)
		if whole(l) != before {
			t.Errorf("what is written to the road %d that was found turns what was handed in", x.Id)
		}
		got, _ = roads.Find(l, x.Id)
		spoil(l)
		if tell([]api.Road{got}) != tell([]api.Road{x}) {
			t.Errorf("the road %d that was found turns with what was handed in: %v", x.Id, got)
		}
	}
}

// Ro2: Strips.

func wantStrips(t *testing.T, l []api.Road, want []api.Strip, e api.Errno) {
	t.Helper()
	before := tell(l)
	got, gotE := roads.Strips(l)
	if !slices.Equal(got, want) || gotE != e || e != api.OK && got != nil {
		t.Errorf("Strips(%v): %v, %d; want %v, %d", l, got, gotE, want, e)
	}
	if tell(l) != before {
		t.Errorf("Strips turned %s to %v", before, l)
	}
}

// lineOf is a strip.
func lineOf(road, place int, from, to api.Pt, weight int, oneway bool) api.Strip {
	return api.Strip{Road: road, Place: place, Seg: api.Seg{A: from, B: to}, Weight: weight, Oneway: oneway}
}

func TestStripsOfNone(t *testing.T) {
	wantStrips(t, nil, nil, api.OK)
	wantStrips(t, []api.Road{}, nil, api.OK)
}

func TestStripsOfOneLine(t *testing.T) {
	x := api.Road{Id: 8, Pts: []api.Pt{pt(3, 4), pt(-1, 2)}, Ws: []int{6}}
	wantStrips(t, []api.Road{x}, []api.Strip{lineOf(8, 0, pt(3, 4), pt(-1, 2), 6, false)}, api.OK)
	x.Oneway = true
	wantStrips(t, []api.Road{x}, []api.Strip{lineOf(8, 0, pt(3, 4), pt(-1, 2), 6, true)}, api.OK)
	y := api.Road{Id: 9, Pts: []api.Pt{pt(-1, 2), pt(3, 4)}, Ws: []int{0}}
	want := []api.Strip{lineOf(8, 0, pt(3, 4), pt(-1, 2), 6, true), lineOf(9, 0, pt(-1, 2), pt(3, 4), 0, false)}
	wantStrips(t, []api.Road{x, y}, want, api.OK)
}

func TestStripsOfManyLines(t *testing.T) {
	a, b, c, d := pt(0, 0), pt(9, -1), pt(4, 7), pt(-edge, edge)
	x := api.Road{Id: 2, Pts: []api.Pt{a, b, c, a, d}, Ws: []int{5, 0, heaviest, 5}, Oneway: true}
	y := api.Road{Id: 30, Pts: []api.Pt{d, a, b}, Ws: []int{1, 2}}
	z := api.Road{Id: greatest, Pts: []api.Pt{b, a, b}, Ws: []int{3, 4}, Oneway: true}
	wantStrips(t, []api.Road{x, y, z}, []api.Strip{
		lineOf(2, 0, a, b, 5, true), lineOf(2, 1, b, c, 0, true), lineOf(2, 2, c, a, heaviest, true), lineOf(2, 3, a, d, 5, true),
		lineOf(30, 0, d, a, 1, false), lineOf(30, 1, a, b, 2, false),
		lineOf(greatest, 0, b, a, 3, true), lineOf(greatest, 1, a, b, 4, true),
	}, api.OK)
}

func TestStripsOfAll(t *testing.T) {
	for _, l := range append(someLists(), counted(mostRoads), long(4, 99), long(5, 80), long(mostRoads, 2)) {
		var want []api.Strip
		for _, x := range l {
			for i := 1; i < len(x.Pts); i++ {
				want = append(want, lineOf(x.Id, i-1, x.Pts[i-1], x.Pts[i], x.Ws[i-1], x.Oneway))
			}
		}
		wantStrips(t, l, want, api.OK)
	}
}

func TestStripsOfRoadsThatMayNotBe(t *testing.T) {
	for _, w := range wrongLists() {
		wantStrips(t, w.l, nil, w.e)
	}
}

func TestStripsLeaveWhatWasHandedIn(t *testing.T) {
	l := roomy(mixed())
	before := whole(l)
	got, _ := roads.Strips(l)
	want := slices.Clone(got)
	clear(got)
	if whole(l) != before {
		t.Error("Strips, or what is written to their answer, turn what was handed in")
	}
	got, _ = roads.Strips(l)
	spoil(l)
	if !slices.Equal(got, want) {
		t.Errorf("Strips keep what was handed in: %v, not %v", got, want)
	}
}

// Ro2: Same.

// wantSame asks both ways.
func wantSame(t *testing.T, a, b []api.Road, want bool) {
	t.Helper()
	aBefore, bBefore := tell(a), tell(b)
	if got := roads.Same(a, b); got != want {
		t.Errorf("Same(%v, %v): %v", a, b, got)
	}
	if got := roads.Same(b, a); got != want {
		t.Errorf("Same(%v, %v): %v", b, a, got)
	}
	if tell(a) != aBefore || tell(b) != bBefore {
		t.Errorf("Same turned %s, %s to %v, %v", aBefore, bBefore, a, b)
	}
}

func TestSameOfNone(t *testing.T) {
	wantSame(t, nil, nil, true)
	wantSame(t, nil, []api.Road{}, true)
	wantSame(t, []api.Road{}, []api.Road{}, true)
	wantSame(t, nil, listed(1), false)
	wantSame(t, []api.Road{}, listed(1), false)
	wantSame(t, nil, []api.Road{{}}, false)
	wantSame(t, make([]api.Road, 0, 5), own(nil), true)
}

func TestSameOfAlikeRoads(t *testing.T) {
	for i, l := range someLists() {
		wantSame(t, l, l, true)
		wantSame(t, l, own(l), true)
		wantSame(t, l, roomy(l), true)
		for k, other := range someLists() {
			wantSame(t, l, other, i == k || len(l)+len(other) == 0)
		}
	}
}

func TestSameOfHowManyRoads(t *testing.T) {
	for n := 1; n <= 5; n++ {
		wantSame(t, mixed(), mixed()[:n], n == 5)
		wantSame(t, mixed(), mixed()[5-n:], n == 5)
	}
	wantSame(t, listed(1, 2), listed(2, 1), false)
	wantSame(t, listed(1, 1), listed(1), false)
}

// changes is what makes a road of three points or more another one by one thing alone.
func changes() []func(x *api.Road) {
	return []func(x *api.Road){
		func(x *api.Road) { x.Id++ },
		func(x *api.Road) { x.Oneway = !x.Oneway },
		func(x *api.Road) { x.Pts[0].X++ },
		func(x *api.Road) { x.Pts[1].Y-- },
		func(x *api.Road) { x.Pts[len(x.Pts)-1].X-- },
		func(x *api.Road) { x.Pts[len(x.Pts)-1].Y++ },
		func(x *api.Road) { x.Pts = x.Pts[:len(x.Pts)-1] },
		func(x *api.Road) { x.Pts = append(x.Pts, pt(0, 0)) },
		func(x *api.Road) { x.Pts = append(x.Pts, pt(0, 0)); x.Ws = append(x.Ws, 0) },
		func(x *api.Road) { x.Pts, x.Ws = x.Pts[1:], x.Ws[1:] },
		func(x *api.Road) { x.Pts[0], x.Pts[1] = x.Pts[1], x.Pts[0] },
		func(x *api.Road) { x.Ws[0]++ },
		func(x *api.Road) { x.Ws[len(x.Ws)-1]-- },
		func(x *api.Road) { x.Ws = x.Ws[:len(x.Ws)-1] },
		func(x *api.Road) { x.Ws = append(x.Ws, 0) },
		func(x *api.Road) { x.Ws[0], x.Ws[1] = x.Ws[1], x.Ws[0] },
	}
}

func TestSameOfRoadsThatDifferByOneThing(t *testing.T) {
	l := []api.Road{road(3, 3), road(6, 4), road(9, 5)}
	for i := range l {
		for _, change := range changes() {
			other := own(l)
			change(&other[i])
			wantSame(t, l, other, false)
			wantSame(t, other, own(other), true)
		}
	}
}

func TestSameOfRoadsThatMayNotBe(t *testing.T) {
	wantSame(t, make([]api.Road, 2), make([]api.Road, 2), true)
	wantSame(t, make([]api.Road, 2), make([]api.Road, 3), false)
	wantSame(t, []api.Road{{Id: 1, Pts: []api.Pt{}, Ws: nil}}, []api.Road{{Id: 1, Pts: nil, Ws: []int{}}}, true)
	wantSame(t, []api.Road{{Id: 1, Pts: path(1, 1)}}, []api.Road{{Id: 1, Pts: path(1, 1)}}, true)
	wantSame(t, []api.Road{{Id: -1}}, []api.Road{{Id: -2}}, false)
	wrong := wrongLists()
	for _, w := range wrong {
		wantSame(t, w.l, own(w.l), true)
		wantSame(t, w.l, own(w.l)[1:], false)
		for _, l := range someLists() {
			wantSame(t, w.l, l, false)
		}
	}
	for i := range wrong {
		for k := range i {
			wantSame(t, wrong[i].l, wrong[k].l, false)
		}
	}
}

// Ro3: what follows.

func wantSameText(t *testing.T, got, want []api.Road) {
	t.Helper()
	if tell(got) != tell(want) || !roads.Same(got, want) {
		t.Errorf("%v, not %v", got, want)
	}
}

func TestAddedAndDropped(t *testing.T) {
	for _, l := range someLists() {
		for _, x := range []api.Road{road(2, 3), road(7, 2), road(66, 50), road(greatest-1, 4)} {
			if _, there := roads.Find(l, x.Id); there {
				continue
			}
			with, e := roads.Add(l, x)
			if e != api.OK {
				t.Fatalf("Add(%v, %v): %d", l, x, e)
			}
			wantFind(t, with, x.Id, x, true)
			wantAll(t, with, api.OK)
			without, e := roads.Drop(with, x.Id)
			if e != api.OK {
				t.Fatalf("Drop(%v, %d): %d", with, x.Id, e)
			}
			wantSameText(t, without, l)
		}
	}
}

func TestDroppedAndAdded(t *testing.T) {
	for _, l := range append(someLists(), counted(mostRoads), long(4, 99)) {
		for _, x := range own(l) {
			without, e := roads.Drop(l, x.Id)
			if e != api.OK {
				t.Fatalf("Drop(%v, %d): %d", l, x.Id, e)
			}
			wantFind(t, without, x.Id, api.Road{}, false)
			with, e := roads.Add(without, x)
			if e != api.OK {
				t.Fatalf("Add(%v, %v): %d", without, x, e)
			}
			wantSameText(t, with, l)
		}
	}
}

func TestManyAddedAndDroppedInAnyOrder(t *testing.T) {
	l := listed(50, 150)
	ids := slices.DeleteFunc(slices.Collect(steps(211, 89)), func(id int) bool { return id == 50 || id == 150 || id > 199 })
	for _, id := range ids {
		l, _ = roads.Add(l, road(id, 2))
	}
	if len(l) != 199 {
		t.Fatalf("%d roads, not 199", len(l))
	}
	slices.Reverse(ids[40:])
	for _, id := range ids {
		l, _ = roads.Drop(l, id)
	}
	wantSameText(t, l, listed(50, 150))
}

// steps is the numbers from 1 to one less than a prime, each once, in an order of its own.
func steps(prime, by int) func(func(int) bool) {
	return func(more func(int) bool) {
		for i := 1; i < prime; i++ {
			if !more(i * by % prime) {
				return
			}
		}
	}
}
