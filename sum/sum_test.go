package sum_test

import (
	"math"
	"math/big"
	"slices"
	"testing"

	"outrigger/api"
	"outrigger/sum"
)

const (
	one  = api.One
	half = api.One / 2
	lim  = api.Lim
	many = api.MaxList

	// The square of lim + 1 is that of lim and 2 * lim + 1 more: the square of side is no more than 2 * lim, that of side + 1 is.
	side = 759250124
)

// times is a list of a number, so many times.
func times(count, n int) []int { return slices.Repeat([]int{n}, count) }

// join is a list of all the lists' numbers.
func join(lists ...[]int) []int { return slices.Concat(lists...) }

// around is numbers with their neighbours, of both signs; what goes beyond int wraps round.
func around(numbers ...int) []int {
	var all []int
	for _, n := range numbers {
		all = append(all, n-1, n, n+1, -n-1, -n, -n+1)
	}
	return all
}

// edges is numbers at which an answer changes its kind, alone or with others of them.
func edges() []int {
	all := around(0, 3, half, one, one+half, 1<<45, side, lim/2, lim, 2*lim, 1<<62)
	return append(all, math.MinInt, math.MinInt+1, math.MaxInt-1, math.MaxInt)
}

// spread is numbers of all sizes and both signs, the same ones at each run.
func spread(count int) []int {
	all := make([]int, 0, count)
	x := uint64(1)
	for i := range count {
		x ^= x << 13
		x ^= x >> 7
		x ^= x << 17
		all = append(all, int(x)>>(i%64))
	}
	return all
}

// lengths is how many numbers a list may have at which what counts of it changes.
func lengths() []int {
	return []int{0, 1, 2, 3, 5, 7, 31, 32, 33, 62, 63, 64, 65, 66, 127, 128, 129, 200}
}

// lists is lists of all kinds: of values alone and of numbers beyond them, of one size and of all.
func lists() [][]int {
	all := [][]int{nil, {}}
	for _, length := range lengths() {
		for _, n := range edges() {
			all = append(all, times(length, n))
		}
		s := spread(64 * 16)
		// Cut down by so much, what was no value is one, or all of them are small.
		for _, cut := range []uint{0, 4, 5, 6, 12, 32, 50} {
			for from := 0; from+length <= len(s); from += 37 {
				l := slices.Clone(s[from : from+length])
				for i := range l {
					l[i] >>= cut
				}
				all = append(all, l)
			}
		}
	}
	for _, a := range edges() {
		for _, b := range edges() {
			all = append(all, []int{a, b}, join(times(32, a), times(32, b)), join(times(63, a), times(1, b)))
		}
	}
	return all
}

// What follows tells the document's words once more, by whole numbers without an end.

func number(n int) *big.Int { return big.NewInt(int64(n)) }

// clamp is what a number counts as, and whether that is another one.
func clamp(n *big.Int) (int, bool) {
	if n.CmpAbs(number(lim)) <= 0 {
		return int(n.Int64()), false
	}
	return n.Sign() * lim, true
}

// rounded is the greatest whole number that is no greater than n by d, which is above 0, and a half more.
func rounded(n, d *big.Int) *big.Int {
	twice := new(big.Int).Lsh(n, 1)
	// Of a divisor above 0, Div goes down.
	return twice.Div(twice.Add(twice, d), new(big.Int).Lsh(d, 1))
}

// wantedSum is the sum of the products of the first count numbers of both lists, and whether one of them was clamped.
func wantedSum(a, b []int, count int) (*big.Int, bool) {
	all, clamped := new(big.Int), false
	for i := 0; i < count && i < 64; i++ {
		x, xOut := clamp(number(a[i]))
		y, yOut := clamp(number(b[i]))
		all.Add(all, new(big.Int).Mul(number(x), number(y)))
		clamped = clamped || xOut || yOut
	}
	return all, clamped
}

func wantedTotal(l []int) (int, bool) {
	all, out := wantedSum(l, times(len(l), 1), len(l))
	n, nOut := clamp(all)
	return n, out || nOut
}

func wantedMean(l []int) (int, bool) {
	if len(l) == 0 {
		return 0, false
	}
	all, out := wantedSum(l, times(len(l), 1), len(l))
	n, nOut := clamp(rounded(all, number(min(len(l), 64))))
	return n, out || nOut
}

func wantedDot(a, b []int) (int, bool) {
	all, out := wantedSum(a, b, min(len(a), len(b)))
	n, nOut := clamp(rounded(all, number(one)))
	return n, out || nOut
}

func wantedNorm(l []int) (int, bool) {
	all, out := wantedSum(l, l, len(l))
	n, nOut := clamp(new(big.Int).Sqrt(all))
	return n, out || nOut
}

// told is a list as a fault tells it: its length and its first numbers.
func told(l []int) (int, []int) { return len(l), l[:min(len(l), 5)] }

func sameOne(t *testing.T, name string, call, wanted func([]int) (int, bool), l []int) {
	t.Helper()
	want, wantOut := wanted(l)
	if n, out := call(l); n != want || out != wantOut {
		length, head := told(l)
		t.Errorf("%s of %d numbers, %v first, = %d, %t; want %d, %t", name, length, head, n, out, want, wantOut)
	}
}

func sameDot(t *testing.T, a, b []int) {
	t.Helper()
	want, wantOut := wantedDot(a, b)
	if n, out := sum.Dot(a, b); n != want || out != wantOut {
		aLength, aHead := told(a)
		bLength, bHead := told(b)
		t.Errorf("Dot of %d numbers, %v first, and %d numbers, %v first, = %d, %t; want %d, %t", aLength, aHead, bLength, bHead, n, out, want, wantOut)
	}
}

// row is a list, and what is wanted of it.
type row struct {
	l    []int
	want int
	out  bool
}

func holds(t *testing.T, name string, call func([]int) (int, bool), rows []row) {
	t.Helper()
	for i, x := range rows {
		if n, out := call(x.l); n != x.want || out != x.out {
			length, head := told(x.l)
			t.Errorf("row %d: %s of %d numbers, %v first, = %d, %t; want %d, %t", i, name, length, head, n, out, x.want, x.out)
		}
	}
}

// P6.1

func TestTotalTable(t *testing.T) {
	holds(t, "Total", sum.Total, []row{
		{nil, 0, false}, {[]int{}, 0, false}, {[]int{0}, 0, false}, {[]int{1}, 1, false}, {[]int{-1}, -1, false}, {[]int{7 * one}, 7 * one, false},
		{[]int{1, 2}, 3, false}, {[]int{-1, -2}, -3, false}, {[]int{5, -3, 0, 1}, 3, false}, {[]int{one, -half}, half, false},
		// At 64 numbers, and behind them.
		{times(63, 3), 189, false}, {times(64, 3), 192, false}, {times(65, 3), 192, false}, {times(1000, -3), -192, false},
		{join(times(63, 0), []int{5}), 5, false}, {join(times(64, 0), []int{5}), 0, false}, {join(times(64, 1), times(100, lim)), 64, false},
		{join(times(63, 1), []int{math.MaxInt}), lim, true}, {join(times(64, 1), []int{math.MaxInt}), 64, false}, {join(times(64, 1), times(9, math.MinInt)), 64, false},
		// By the result alone.
		{[]int{lim}, lim, false}, {[]int{-lim}, -lim, false}, {[]int{lim - 1, 1}, lim, false}, {[]int{lim, 1}, lim, true}, {[]int{1, lim}, lim, true}, {[]int{-lim + 1, -1}, -lim, false}, {[]int{-lim, -1}, -lim, true},
		{times(2, lim/2), lim, false}, {times(64, lim/64), lim, false}, {join(times(63, lim/64), []int{lim/64 + 1}), lim, true}, {times(64, -lim/64), -lim, false}, {join(times(63, -lim/64), []int{-lim/64 - 1}), -lim, true},
		{times(16, lim), lim, true}, {times(31, lim), lim, true}, {times(32, lim), lim, true}, {times(33, lim), lim, true}, {times(64, lim), lim, true}, {times(31, -lim), -lim, true}, {times(32, -lim), -lim, true}, {times(33, -lim), -lim, true}, {times(64, -lim), -lim, true},
		// What comes back from beyond an end before it ends.
		{[]int{lim, lim, -lim}, lim, false}, {[]int{lim, 5, -7}, lim - 2, false}, {[]int{-lim, -5, 7}, -lim + 2, false}, {[]int{-lim, -lim, lim, lim, 9}, 9, false}, {join(times(32, lim), times(32, -lim)), 0, false}, {join(times(32, -lim), times(32, lim)), 0, false}, {join(times(32, lim), times(31, -lim), []int{-1}), lim - 1, false}, {join(times(32, -lim), times(31, lim), []int{1}), -lim + 1, false},
		// By a number alone: it counts as the end that is nearest.
		{[]int{lim + 1}, lim, true}, {[]int{-lim - 1}, -lim, true}, {[]int{lim + 1, -1}, lim - 1, true}, {[]int{-1, lim + 1}, lim - 1, true}, {[]int{lim + 1, -lim}, 0, true}, {[]int{-lim, 0, lim + 1}, 0, true}, {[]int{lim + 1, -lim - 1}, 0, true},
		{[]int{math.MaxInt}, lim, true}, {[]int{math.MinInt}, -lim, true}, {[]int{math.MaxInt, -lim}, 0, true}, {[]int{math.MinInt, lim}, 0, true}, {[]int{math.MinInt, math.MaxInt}, 0, true}, {times(64, math.MinInt), -lim, true}, {times(64, math.MaxInt), lim, true},
		{[]int{0, math.MaxInt, -lim, 0}, 0, true}, {join([]int{math.MinInt, lim}, times(62, 0)), 0, true}, {join(times(62, 0), []int{lim, math.MinInt}), 0, true},
	})
}

func TestMeanTable(t *testing.T) {
	holds(t, "Mean", sum.Mean, []row{
		{nil, 0, false}, {[]int{}, 0, false}, {[]int{0}, 0, false}, {[]int{1}, 1, false}, {[]int{-1}, -1, false}, {[]int{7 * one}, 7 * one, false}, {[]int{lim}, lim, false}, {[]int{-lim}, -lim, false},
		// A half goes up, whatever the sign.
		{[]int{1, 2}, 2, false}, {[]int{-1, -2}, -1, false}, {[]int{0, 1}, 1, false}, {[]int{0, -1}, 0, false}, {[]int{-3, 0}, -1, false}, {[]int{3, 0}, 2, false}, {[]int{-3, 2}, 0, false}, {[]int{3, -2}, 1, false}, {[]int{5, 0, 0, 1}, 2, false}, {[]int{-5, 0, 0, -1}, -1, false},
		{[]int{1, 1, 2}, 1, false}, {[]int{1, 2, 2}, 2, false}, {[]int{-1, -1, -2}, -1, false}, {[]int{-1, -2, -2}, -2, false}, {[]int{1, 0, 0}, 0, false}, {[]int{1, 1, 0}, 1, false}, {[]int{-1, 0, 0}, 0, false}, {[]int{-1, -1, 0}, -1, false},
		// At 64 numbers, and behind them: those do not count, nor as how many there are.
		{times(63, 3), 3, false}, {times(64, 3), 3, false}, {times(65, 3), 3, false}, {times(1000, -3), -3, false},
		{join(times(63, 0), []int{32}), 1, false}, {join(times(63, 0), []int{31}), 0, false}, {join(times(63, 0), []int{-32}), 0, false}, {join(times(63, 0), []int{-33}), -1, false}, {join(times(62, 0), []int{31}), 0, false}, {join(times(62, 0), []int{32}), 1, false}, {join(times(64, 0), []int{lim}), 0, false}, {join(times(64, 9), times(64, 0)), 9, false},
		{join(times(63, 0), []int{math.MaxInt}), lim / 64, true}, {join(times(64, 1), []int{math.MaxInt}), 1, false}, {join(times(64, 1), times(9, math.MinInt)), 1, false},
		// Of sums beyond Lim, which are not clamped.
		{[]int{lim, 1}, lim/2 + 1, false}, {[]int{-lim, -1}, -lim / 2, false}, {[]int{lim, lim}, lim, false}, {[]int{lim, lim - 1}, lim, false}, {[]int{lim, lim - 2}, lim - 1, false}, {[]int{-lim, -lim + 1}, -lim + 1, false}, {[]int{-lim, -lim, -lim + 1}, -lim, false}, {[]int{lim, lim, -lim}, 96076792050570581, false}, {[]int{-lim, -lim, lim}, -96076792050570581, false}, {[]int{lim, lim, 0}, 192153584101141163, false}, {[]int{-lim, -lim, 0}, -192153584101141163, false},
		{times(31, lim), lim, false}, {times(32, lim), lim, false}, {times(33, -lim), -lim, false}, {times(63, lim), lim, false}, {times(63, -lim), -lim, false}, {times(64, lim), lim, false}, {times(64, -lim), -lim, false}, {times(65, lim), lim, false},
		{join(times(63, lim), []int{lim - 32}), lim, false}, {join(times(63, lim), []int{lim - 33}), lim - 1, false}, {join(times(63, -lim), []int{-lim + 31}), -lim, false}, {join(times(63, -lim), []int{-lim + 32}), -lim + 1, false}, {join(times(32, lim), times(32, -lim)), 0, false}, {join(times(48, lim), times(16, -lim)), lim / 2, false},
		// By a number alone: a mean lies between values.
		{[]int{lim + 1}, lim, true}, {[]int{-lim - 1}, -lim, true}, {[]int{lim + 1, lim}, lim, true}, {[]int{lim + 1, 0}, lim / 2, true}, {[]int{0, -lim - 1}, -lim / 2, true}, {[]int{lim + 1, -lim}, 0, true}, {[]int{-lim - 1, lim}, 0, true}, {[]int{lim + 1, -lim - 1}, 0, true},
		{[]int{math.MaxInt}, lim, true}, {[]int{math.MinInt}, -lim, true}, {[]int{math.MinInt, math.MaxInt}, 0, true}, {[]int{math.MaxInt, 0, 0}, 96076792050570581, true}, {times(64, math.MinInt), -lim, true}, {times(64, math.MaxInt), lim, true}, {join([]int{math.MinInt, lim}, times(62, 0)), 0, true}, {join(times(62, 0), []int{lim, math.MinInt}), 0, true},
	})
}

func TestTotalAll(t *testing.T) {
	for _, l := range lists() {
		sameOne(t, "Total", sum.Total, wantedTotal, l)
	}
}

func TestMeanAll(t *testing.T) {
	for _, l := range lists() {
		sameOne(t, "Mean", sum.Mean, wantedMean, l)
	}
}

// Every count with every rest, so that no rounding is missed: of small numbers, and at the ends.
func TestMeanRests(t *testing.T) {
	for count := 1; count <= many; count++ {
		for more := -2*count - 1; more <= 2*count+1; more++ {
			sameOne(t, "Mean", sum.Mean, wantedMean, join(times(count-1, 0), []int{more}))
			sameOne(t, "Mean", sum.Mean, wantedMean, join(times(count-1, lim), []int{lim + more}))
			sameOne(t, "Mean", sum.Mean, wantedMean, join(times(count-1, -lim), []int{-lim + more}))
			// The rests of these are of one sign or of both, and together more than count.
			sameOne(t, "Mean", sum.Mean, wantedMean, join(times(count/2, count-1), times(count-count/2, more)))
			sameOne(t, "Mean", sum.Mean, wantedMean, join(times(count/2, 1-count), times(count-count/2, more)))
		}
	}
}

// P6.2

func TestDotTable(t *testing.T) {
	for i, x := range []struct {
		a, b []int
		want int
		out  bool
	}{
		{nil, nil, 0, false}, {[]int{}, nil, 0, false}, {nil, []int{one}, 0, false}, {[]int{}, []int{one, 2 * one}, 0, false}, {[]int{0}, []int{0}, 0, false}, {[]int{one}, []int{one}, one, false}, {[]int{-one}, []int{one}, -one, false}, {[]int{-one}, []int{-one}, one, false}, {[]int{half}, []int{half}, half / 2, false},
		{[]int{one, 2 * one}, []int{3 * one, 4 * one}, 11 * one, false}, {[]int{one, -2 * one}, []int{3 * one, 4 * one}, -5 * one, false}, {[]int{one, 2 * one, 3 * one}, []int{half, -half, 7}, -half + 21, false},
		// The sum is rounded, and not each product; a half goes up.
		{[]int{1}, []int{half}, 1, false}, {[]int{1}, []int{half - 1}, 0, false}, {[]int{-1}, []int{half}, 0, false}, {[]int{-1}, []int{half + 1}, -1, false}, {[]int{1, 1}, []int{half / 2, half / 2}, 1, false}, {[]int{1, 1}, []int{half, half}, 1, false}, {[]int{1, 1}, []int{half / 2, half/2 - 1}, 0, false}, {[]int{-1, -1}, []int{half / 2, half / 2}, 0, false}, {[]int{-1, -1}, []int{half, half}, -1, false}, {[]int{1, -1}, []int{half, half}, 0, false},
		{times(64, 1), times(64, one/128), 1, false}, {times(64, 1), times(64, one/128-1), 0, false}, {times(64, -1), times(64, one/128), 0, false}, {times(64, -1), times(64, one/128+1), -1, false}, {times(64, 1), times(64, half-1), 32, false},
		// The shorter list's numbers alone count, and what is behind them is not told.
		{[]int{one}, []int{2 * one, 5 * one, 7}, 2 * one, false}, {[]int{one}, []int{2 * one, math.MaxInt}, 2 * one, false}, {[]int{one}, []int{2 * one, lim + 1, math.MinInt}, 2 * one, false}, {nil, []int{math.MinInt}, 0, false}, {[]int{}, []int{lim + 1}, 0, false}, {[]int{one, one}, []int{2 * one, lim + 1, 3}, lim, true},
		{times(63, one), join(times(63, one), []int{math.MaxInt}), 63 * one, false}, {times(63, one), times(64, one), 63 * one, false},
		// At 64 numbers, and behind them.
		{times(64, one), times(64, one), 64 * one, false}, {times(64, one), join(times(64, one), []int{math.MinInt}), 64 * one, false}, {times(65, one), times(65, one), 64 * one, false}, {times(65, one), times(1000, one), 64 * one, false}, {join(times(64, 0), []int{lim}), times(65, lim), 0, false}, {join(times(64, one), times(9, math.MinInt)), join(times(64, one), times(9, math.MaxInt)), 64 * one, false}, {join(times(63, 0), []int{one}), times(70, 3*one), 3 * one, false}, {join(times(63, 0), []int{math.MaxInt}), times(64, 0), 0, true}, {join(times(64, one), []int{lim + 1}), times(65, 0), 0, false},
		// By the result alone.
		{[]int{lim}, []int{one}, lim, false}, {[]int{lim}, []int{one + 1}, lim, true}, {[]int{lim}, []int{-one}, -lim, false}, {[]int{lim}, []int{-one - 1}, -lim, true}, {[]int{lim}, []int{2 * one}, lim, true}, {[]int{lim, 1}, []int{one, half - 1}, lim, false}, {[]int{lim, 1}, []int{one, half}, lim, true}, {[]int{-lim, -1}, []int{one, half}, -lim, false}, {[]int{-lim, -1}, []int{one, half + 1}, -lim, true},
		{[]int{lim}, []int{lim}, lim, true}, {[]int{lim}, []int{-lim}, -lim, true}, {times(64, lim), times(64, lim), lim, true}, {times(64, lim), times(64, -lim), -lim, true}, {times(64, -lim), times(64, -lim), lim, true}, {times(64, one), times(64, lim/64), lim, false}, {times(64, one), join(times(63, lim/64), []int{lim/64 + 1}), lim, true},
		// What comes back from beyond an end before it ends.
		{[]int{lim, -lim}, []int{lim, lim}, 0, false}, {[]int{lim, lim, -lim}, []int{one, one, one}, lim, false}, {[]int{lim, lim, one}, []int{lim, -lim, one}, one, false}, {join(times(32, lim), times(32, -lim)), times(64, lim), 0, false}, {join(times(32, -lim), times(31, lim), []int{lim - 1}), times(64, lim), -1 << 26, false}, {[]int{lim, lim, 1}, []int{lim, -lim, half}, 1, false},
		// By a number alone, of either list.
		{[]int{lim + 1}, []int{0}, 0, true}, {[]int{0}, []int{lim + 1}, 0, true}, {[]int{-lim - 1}, []int{one}, -lim, true}, {[]int{one}, []int{-lim - 1}, -lim, true}, {[]int{lim + 1}, []int{half}, lim / 2, true}, {[]int{half}, []int{lim + 1}, lim / 2, true}, {[]int{math.MinInt}, []int{0}, 0, true}, {[]int{0}, []int{math.MaxInt}, 0, true}, {[]int{math.MinInt}, []int{one}, -lim, true}, {[]int{1}, []int{math.MinInt}, -1 << 26, true}, {[]int{math.MaxInt, math.MaxInt}, []int{one, -one}, 0, true}, {[]int{0, math.MinInt, 0}, []int{one, 0, one}, 0, true}, {[]int{one, 0, one}, []int{0, math.MinInt, 0}, 0, true}, {[]int{math.MinInt}, []int{math.MinInt}, lim, true}, {times(64, math.MinInt), times(64, math.MaxInt), -lim, true},
	} {
		n, out := sum.Dot(x.a, x.b)
		back, backOut := sum.Dot(x.b, x.a)
		if n != x.want || out != x.out || back != x.want || backOut != x.out {
			t.Errorf("row %d: Dot = %d, %t, and of the lists changed %d, %t; want %d, %t", i, n, out, back, backOut, x.want, x.out)
		}
	}
}

func TestNormTable(t *testing.T) {
	holds(t, "Norm", sum.Norm, []row{
		{nil, 0, false}, {[]int{}, 0, false}, {[]int{0}, 0, false}, {[]int{1}, 1, false}, {[]int{-1}, 1, false}, {[]int{one}, one, false}, {[]int{-half}, half, false}, {[]int{3, 4}, 5, false}, {[]int{-3 * one, 4 * one}, 5 * one, false}, {[]int{2, 3, 6}, 7, false}, {[]int{2, -3, 6, 0}, 7, false},
		// The root is cut, and not rounded; the squares are not cut.
		{[]int{1, 1}, 1, false}, {[]int{1, 1, 1}, 1, false}, {times(4, 1), 2, false}, {times(8, 1), 2, false}, {times(9, 1), 3, false}, {[]int{one, one}, 6074000999, false}, {times(3, one), 7439101573, false}, {[]int{2, 3, 5}, 6, false},
		// At 64 numbers, and behind them.
		{times(63, 1), 7, false}, {times(64, 1), 8, false}, {times(65, 1), 8, false}, {times(1000, -one), 8 * one, false}, {join(times(63, 0), []int{9}), 9, false}, {join(times(64, 0), []int{9}), 0, false}, {join(times(64, 1), times(9, lim)), 8, false}, {join(times(63, 1), []int{math.MaxInt}), lim, true}, {join(times(64, 1), []int{math.MaxInt}), 8, false}, {join(times(64, 1), times(9, math.MinInt)), 8, false},
		// By the result alone, from the square of Lim + 1 on.
		{[]int{lim}, lim, false}, {[]int{-lim}, lim, false}, {[]int{lim - 1}, lim - 1, false}, {[]int{lim, 1}, lim, false}, {[]int{lim, side}, lim, false}, {[]int{side, -lim}, lim, false}, {[]int{lim, side + 1}, lim, true}, {[]int{-side - 1, -lim}, lim, true}, {[]int{lim - 1, side}, lim - 1, false}, {[]int{lim - 1, side + 1}, lim, false}, {[]int{lim, lim}, lim, true}, {[]int{lim, -lim}, lim, true}, {times(4, lim/2), lim, false}, {times(64, lim/8), lim, false}, {times(64, -lim/8), lim, false}, {join(times(63, lim/8), []int{lim/8 + 1}), lim, false}, {join(times(63, lim/8), []int{lim/8 + 9}), lim, true}, {times(32, lim), lim, true}, {times(64, lim), lim, true}, {times(64, -lim), lim, true},
		// By a number alone.
		{[]int{lim + 1}, lim, true}, {[]int{-lim - 1}, lim, true}, {[]int{0, lim + 1}, lim, true}, {[]int{1, lim + 1, 1}, lim, true}, {[]int{math.MaxInt}, lim, true}, {[]int{math.MinInt}, lim, true}, {join(times(63, 0), []int{math.MinInt}), lim, true}, {[]int{math.MinInt, math.MaxInt}, lim, true}, {times(64, math.MinInt), lim, true},
	})
}

func TestDotAll(t *testing.T) {
	all := lists()
	for i, a := range all {
		// Lists near each other are of one length or of the next, those farther on of any.
		for _, far := range []int{0, 1, 29, 401, 1709} {
			sameDot(t, a, all[(i+far)%len(all)])
		}
	}
	for _, a := range edges() {
		for _, b := range edges() {
			sameDot(t, []int{a}, []int{b})
			sameDot(t, []int{a, b}, []int{b, a})
			sameDot(t, []int{one, a}, []int{a, b, a})
		}
	}
}

// Two lists of every two lengths, with numbers behind the shorter one's end that would be told if they counted.
func TestDotLengths(t *testing.T) {
	for _, short := range lengths() {
		for _, long := range lengths() {
			if long < short {
				continue
			}
			a, b := times(short, 2*one), join(times(short, 3*one), times(long-short, math.MinInt))
			want := 6 * one * min(short, many)
			if n, out := sum.Dot(a, b); n != want || out {
				t.Errorf("Dot of %d and %d numbers = %d, %t; want %d, false", short, long, n, out, want)
			}
			if n, out := sum.Dot(b, a); n != want || out {
				t.Errorf("Dot of %d and %d numbers = %d, %t; want %d, false", long, short, n, out, want)
			}
		}
	}
}

func TestNormAll(t *testing.T) {
	for _, l := range lists() {
		sameOne(t, "Norm", sum.Norm, wantedNorm, l)
	}
}

// A number that is no value is told at whichever place it counts, and at no other.
func TestToldAtEachPlace(t *testing.T) {
	for place := range many + 6 {
		for _, n := range []int{lim, lim + 1, -lim, -lim - 1, math.MinInt, math.MaxInt} {
			l := times(many+6, 0)
			l[place] = n
			none := times(many+6, 0)
			want := place < many && (n < -lim || n > lim)
			_, total := sum.Total(l)
			_, mean := sum.Mean(l)
			_, left := sum.Dot(l, none)
			_, right := sum.Dot(none, l)
			_, norm := sum.Norm(l)
			if total != want || mean != want || left != want || right != want || norm != want {
				t.Errorf("%d at place %d: told %t, %t, %t, %t, %t; want %t", n, place, total, mean, left, right, norm, want)
			}
		}
	}
}

// P6.3

// orders is other orders of so many places.
func orders(count int) [][]int {
	var places []int
	for i := range count {
		places = append(places, i)
	}
	back := slices.Clone(places)
	slices.Reverse(back)
	var turned, evenFirst, odd, mixed []int
	for _, i := range places {
		turned = append(turned, (i+count/2)%count)
		if i%2 == 0 {
			evenFirst = append(evenFirst, i)
		} else {
			odd = append(odd, i)
		}
	}
	mixed = slices.Clone(places)
	for i, n := range spread(count) {
		j := int(uint(n) % uint(i+1))
		mixed[i], mixed[j] = mixed[j], mixed[i]
	}
	return [][]int{back, turned, append(evenFirst, odd...), mixed}
}

// ordered is a list in another order.
func ordered(l, order []int) []int {
	var all []int
	for _, place := range order {
		all = append(all, l[place])
	}
	return all
}

func sameInOrder(t *testing.T, name string, call func([]int) (int, bool), l, m []int) {
	t.Helper()
	n, out := call(l)
	if k, kOut := call(m); k != n || kOut != out {
		length, head := told(l)
		t.Errorf("%s of %d numbers, %v first, = %d, %t; in another order %d, %t", name, length, head, n, out, k, kOut)
	}
}

func TestOrder(t *testing.T) {
	all := lists()
	for i, l := range all {
		// Of a longer list, the order tells which numbers count.
		l = l[:min(len(l), many)]
		other := all[(i+1)%len(all)]
		other = other[:min(len(other), len(l))]
		up := slices.Sorted(slices.Values(l))
		sameInOrder(t, "Total", sum.Total, l, up)
		sameInOrder(t, "Mean", sum.Mean, l, up)
		sameInOrder(t, "Norm", sum.Norm, l, up)
		for _, order := range orders(len(l)) {
			m := ordered(l, order)
			sameInOrder(t, "Total", sum.Total, l, m)
			sameInOrder(t, "Mean", sum.Mean, l, m)
			sameInOrder(t, "Norm", sum.Norm, l, m)
		}
		for _, order := range orders(len(other)) {
			dot, out := sum.Dot(l[:len(other)], other)
			if n, nOut := sum.Dot(ordered(l, order), ordered(other, order)); n != dot || nOut != out {
				t.Errorf("Dot of %d numbers = %d, %t; in another order %d, %t", len(other), dot, out, n, nOut)
			}
		}
	}
}

// P1

// Long lists end as soon as short ones, and what is handed in is as it was.
func TestLongAndUnchanged(t *testing.T) {
	l := join(edges(), spread(1<<20))
	before := slices.Clone(l)
	for _, call := range []func([]int) (int, bool){sum.Total, sum.Mean, sum.Norm} {
		n, out := call(l)
		if m, mOut := call(l[:many]); m != n || mOut != out {
			t.Errorf("of all numbers %d, %t; of the first ones %d, %t", n, out, m, mOut)
		}
	}
	n, out := sum.Dot(l, l[1:])
	if m, mOut := sum.Dot(l[:many], l[1:many+1]); m != n || mOut != out {
		t.Errorf("Dot of all numbers %d, %t; of the first ones %d, %t", n, out, m, mOut)
	}
	if !slices.Equal(l, before) {
		t.Error("a list that was handed in was changed")
	}
}
