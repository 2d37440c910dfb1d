package echo_test

import (
	"math"
	"math/rand"
	"reflect"
	"testing"

	"oyez/api"
	"oyez/echo"
)

// P10.4

func TestShows(t *testing.T) {
	five := texts(0, list(5))
	heard := echo.Echo{Texts: lists(list(5)), Heard: list(5)}
	other := echo.Echo{Texts: lists(list(5)), Heard: list(6)}
	both := echo.Echo{Texts: lists(list(5), list(6, 6)), Heard: list(6)}
	for i, x := range []struct {
		e    echo.Echo
		p    echo.Pair
		m    [][][]int
		n    int
		want api.Errno
	}{
		{five, pair(0, 0), [][][]int{lists(list(0, 1), list(1, 2))}, 2, api.OK},
		{five, pair(0, 0), [][][]int{lists(list(0, 0), list(0, 0))}, 0, api.OK},
		{five, pair(0, 0), [][][]int{lists(list(0, 1), list(0, 1))}, 1, api.OK},
		{five, pair(0, 0), [][][]int{lists(list(0, 1), list(1, 0))}, 0, api.OK},
		{five, pair(0, 0), [][][]int{lists(list(1, 1), list(1, 1))}, 0, api.ErrFalse},
		{five, pair(0, 0), [][][]int{lists(list(0, 2), list(1, 2))}, 0, api.ErrFalse},
		{five, pair(0, 0), [][][]int{lists(list(0, 1), list(2, 2))}, 0, api.ErrFalse},
		{five, pair(0, 0), [][][]int{lists(list(0, 1), list(1, 3))}, 0, api.ErrFalse},
		{five, pair(0, 0), [][][]int{lists(list(0, 0), list(1, 2))}, 0, api.ErrFalse},
		{five, pair(0, 0), [][][]int{lists(list(0, 1), list(0, 2))}, 0, api.ErrFalse},
		{five, pair(0, 0), [][][]int{lists(list(0, 1), list(1, 99))}, 0, api.ErrFalse},
		{five, pair(0, 0), [][][]int{lists(list(0, 1), list(1, 100))}, 0, api.ErrRange},
		{five, pair(0, 0), [][][]int{lists(list(99, 99), list(99, -1))}, 0, api.ErrRange},
		{five, pair(0, 0), [][][]int{lists(list(-1, 0), list(0, 1))}, 0, api.ErrRange},
		{five, pair(0, 0), [][][]int{lists(list(0, math.MinInt), list(0, 1))}, 0, api.ErrRange},
		{five, pair(0, 0), [][][]int{lists(list(0, 1), list(math.MaxInt, 1))}, 0, api.ErrRange},
		{five, pair(0, 0), nil, 0, api.ErrCount},
		{five, pair(0, 0), [][][]int{nil}, 0, api.ErrCount},
		{five, pair(0, 0), [][][]int{lists(nil, nil)}, 0, api.ErrCount},
		{five, pair(0, 0), [][][]int{lists(list(0, 1))}, 0, api.ErrCount},
		{five, pair(0, 0), [][][]int{lists(list(0, 1), list(1, 2), list(2, 3))}, 0, api.ErrCount},
		{five, pair(0, 0), [][][]int{lists(list(0, 1), list(1))}, 0, api.ErrCount},
		{five, pair(0, 0), [][][]int{lists(list(0, 1, 2), list(1, 2))}, 0, api.ErrCount},
		{five, pair(0, 0), [][][]int{lists(list(0, 1), list(1, 2)), lists(list(1, 2), list(2, 3))}, 0, api.ErrCount},
		{five, pair(0, 0), [][][]int{lists(list(-1, 100), list(1))}, 0, api.ErrCount},
		{heard, pair(0, 0), [][][]int{lists(list(0, 1), list(1, 2)), lists(list(1, 0), list(0, 1))}, 1, api.OK},
		{heard, pair(0, 0), [][][]int{lists(list(0, 1), list(1, 2)), lists(list(1, 0), list(1, 1))}, 0, api.ErrFalse},
		{heard, pair(0, 0), [][][]int{lists(list(0, 1), list(1, 2)), lists(list(1, 1), list(0, 1))}, 0, api.ErrFalse},
		{heard, pair(0, 0), [][][]int{lists(list(0, 1), list(1, 2)), lists(list(2, 0), list(0, 1))}, 0, api.ErrFalse},
		{heard, pair(0, 0), [][][]int{lists(list(0, 0), list(1, 1)), lists(list(0, 0), list(0, 1))}, 0, api.ErrFalse},
		{heard, pair(0, 0), [][][]int{lists(list(0, 1), list(1, 0)), lists(list(0, 0), list(0, 1))}, 1, api.OK},
		{heard, pair(0, 0), [][][]int{lists(list(0, 1), list(0, 0)), lists(list(0, 0), list(0, 1))}, 0, api.ErrFalse},
		{heard, pair(0, 0), [][][]int{lists(list(0, 0), list(1, 0)), lists(list(0, 0), list(0, 1))}, 0, api.ErrFalse},
		{other, pair(0, 0), [][][]int{lists(list(0, 1), list(1, 2)), lists(list(1, 2), list(2, 3))}, 3, api.OK},
		{other, pair(0, 0), [][][]int{lists(list(0, 1), list(1, 1)), lists(list(1, 2), list(2, 3))}, 0, api.ErrFalse},
		{both, pair(0, 1), [][][]int{lists(list(0, 1, 2), list(1, 2, 3)), lists(list(1, 0, 1), list(2, 1, 2))}, 2, api.OK},
		{both, pair(0, 1), [][][]int{lists(list(0, 1, 2), list(1, 2, 3)), lists(list(1, 1, 1), list(2, 1, 2))}, 0, api.ErrFalse},
		{both, pair(1, 0), [][][]int{lists(list(0, 1), list(1, 2), list(2, 3)), lists(list(1, 2), list(0, 1), list(1, 2))}, 2, api.OK},
		{both, pair(1, 0), [][][]int{lists(list(0, 1, 2), list(1, 2, 3)), lists(list(1, 0, 1), list(2, 1, 2))}, 0, api.ErrCount},
		{crossed(3, 0), pair(0, 1), goodMarks(), 2, api.OK},
		{crossed(3, 0), pair(1, 0), goodMarks(), 0, api.ErrCount},
		{crossed(2, 0), pair(0, 1), goodMarks(), 0, api.ErrCount},
		{crossed(2, 0), pair(0, 1), goodMarks()[:3], 3, api.OK},
	} {
		if n, e := echo.Shows(x.e, x.p, x.m); n != x.n || e != x.want || errorOfMarks(x.e, x.p, x.m) != x.want {
			t.Error(i, n, e)
		}
	}
}

func TestMarksOfAnyEcho(t *testing.T) {
	someEchoes(t, 1500, echo.MaxHeard, func(r *rand.Rand, e echo.Echo) {
		p := somePair(r, e)
		least, f := echo.Least(e, p)
		m, g := echo.Marks(e, p)
		n, h := echo.Shows(e, p, m)
		if errorOfMarks(e, p, m) != api.OK || lastOf(m) != least || n != least {
			t.Error(p, m, least, n)
		}
		if f != api.OK || g != api.OK || h != api.OK {
			t.Error(p, f, g, h)
		}
	})
	if m, e := echo.Marks(crossed(3, 0), pair(0, 1)); !reflect.DeepEqual(m, goodMarks()) || e != api.OK {
		t.Error(m, e)
	}
	m, e := echo.Marks(largest(), pair(0, 1))
	if n, f := echo.Shows(largest(), pair(0, 1), m); n != 2 || e != api.OK || f != api.OK {
		t.Error(n, e, f)
	}
}

// changedMark returns marks of which one is another one.
func changedMark(r *rand.Rand, m [][][]int) [][][]int {
	m = copiedMarks(m)
	plane := m[r.Intn(len(m))]
	row := plane[r.Intn(len(plane))]
	at := r.Intn(len(row))
	row[at] += 1 - 2*r.Intn(2)
	return m
}

// lowest returns as many marks, all of which are 0.
func lowest(m [][][]int) [][][]int {
	m = copiedMarks(m)
	for _, plane := range m {
		for _, row := range plane {
			clear(row)
		}
	}
	return m
}

func TestShowsOfAnyMarks(t *testing.T) {
	count := map[api.Errno]int{}
	someEchoes(t, 400, echo.MaxHeard, func(r *rand.Rand, e echo.Echo) {
		p := somePair(r, e)
		least, _ := echo.Least(e, p)
		m, _ := echo.Marks(e, p)
		if r.Intn(2) == 0 {
			m = lowest(m)
		}
		for range 60 {
			x := changedMark(r, m)
			want := errorOfMarks(e, p, x)
			n, f := echo.Shows(e, p, x)
			count[f]++
			if f != want || f == api.OK && (n != lastOf(x) || n > least) || f != api.OK && n != 0 {
				t.Error(p, x, n, f, want)
			}
			// marks that hold are changed again
			if want == api.OK {
				m = x
			}
		}
	})
	if count[api.OK] < 3000 || count[api.ErrFalse] < 3000 || count[api.ErrRange] < 100 || len(count) != 3 {
		t.Error("too few marks of a kind:", count)
	}
}
