package vec_test

import (
	"math"
	"math/big"
	"testing"

	"outrigger/api"
	"outrigger/fix"
	"outrigger/scale"
	"outrigger/sum"
	"outrigger/vec"
)

const (
	one  = api.One
	half = api.One / 2
	lim  = api.Lim
	low  = math.MinInt
	high = math.MaxInt

	// The square of lim + 1 is that of lim and 2 * lim + 1 more: the square of side is no more than 2 * lim, that of side + 1 is.
	side = 759250124
)

type three = [3]int

// around is numbers with their neighbours, of both signs; what goes beyond int wraps round.
func around(numbers ...int) []int {
	var all []int
	for _, n := range numbers {
		all = append(all, n-1, n, n+1, -n-1, -n, -n+1)
	}
	return all
}

// edges is numbers at which an answer changes its kind, alone or with others of them.
func edges() []int {
	all := around(0, half, one, one+half, 1<<45, side, lim/2, lim, 1<<62)
	return append(all, low, low+1, high-1, high)
}

// spread is numbers of all sizes and both signs, the same ones at each run.
func spread(count int) []int {
	all := make([]int, 0, count)
	x := uint64(1)
	for i := range count {
		x ^= x << 13
		x ^= x >> 7
		x ^= x << 17
		all = append(all, int(x)>>(i%64))
	}
	return all
}

// at is three zeros with n at one place.
func at(place, n int) three {
	var a three
	a[place] = n
	return a
}

// threes is three numbers of all kinds: an edge alone at each place, two of them, three of them, of values and of others.
func threes() []three {
	all := []three{{}, {one, 2 * one, 3 * one}, {1, 1, 1}, {-1, 2, -3}}
	e := edges()
	for i, n := range e {
		for place := range 3 {
			all = append(all, at(place, n))
		}
		all = append(all, three{n, n, n}, three{n, -n, 0}, three{one, n, half}, three{n, e[(i+7)%len(e)], e[(i+23)%len(e)]})
	}
	s := spread(6 * 67)
	// Cut down by so much, what was no value is one, or all of them are small.
	for _, cut := range []uint{0, 4, 5, 6, 16, 32, 56} {
		for i := 0; i+3 <= len(s); i += 3 {
			all = append(all, three{s[i] >> cut, s[i+1] >> cut, s[i+2] >> cut})
		}
	}
	return all
}

// pairs hands on each of threes with others near and far.
func pairs(f func(a, b three)) {
	all := threes()
	for i, a := range all {
		for _, far := range []int{0, 1, 2, 5, 7, 19, 64, 131, 263, 401, 599, 811} {
			f(a, all[(i+far)%len(all)])
		}
	}
}

// What follows tells the document's words once more, by whole numbers without an end.

func number(n int) *big.Int { return big.NewInt(int64(n)) }

// clamp is what a number counts as, and whether that is another one.
func clamp(n *big.Int) (int, bool) {
	if n.CmpAbs(number(lim)) <= 0 {
		return int(n.Int64()), false
	}
	return n.Sign() * lim, true
}

// counts is what all numbers count as, and whether one of them is none.
func counts(a three) ([3]*big.Int, bool) {
	var all [3]*big.Int
	clamped := false
	for i, n := range a {
		c, out := clamp(number(n))
		all[i] = number(c)
		clamped = clamped || out
	}
	return all, clamped
}

// ended is all numbers, clamped, and whether one of them was.
func ended(all [3]*big.Int, clamped bool) (three, bool) {
	var a three
	for i, n := range all {
		c, out := clamp(n)
		a[i] = c
		clamped = clamped || out
	}
	return a, clamped
}

// rounded is the greatest whole number that is no greater than n by d, which is above 0, and a half more.
func rounded(n, d *big.Int) *big.Int {
	twice := new(big.Int).Lsh(n, 1)
	// Of a divisor above 0, Div goes down.
	return twice.Div(twice.Add(twice, d), new(big.Int).Lsh(d, 1))
}

func product(x, y *big.Int) *big.Int { return new(big.Int).Mul(x, y) }

func wantedAdd(a, b three) (three, bool) {
	x, xOut := counts(a)
	y, yOut := counts(b)
	for i := range x {
		x[i].Add(x[i], y[i])
	}
	return ended(x, xOut || yOut)
}

func wantedSub(a, b three) (three, bool) {
	x, xOut := counts(a)
	y, yOut := counts(b)
	for i := range x {
		x[i].Sub(x[i], y[i])
	}
	return ended(x, xOut || yOut)
}

func wantedScale(a three, s int) (three, bool) {
	x, out := counts(a)
	by, byOut := clamp(number(s))
	for i := range x {
		x[i] = rounded(product(x[i], number(by)), number(one))
	}
	return ended(x, out || byOut)
}

func wantedDot(a, b three) (int, bool) {
	x, xOut := counts(a)
	y, yOut := counts(b)
	all := new(big.Int)
	for i := range x {
		all.Add(all, product(x[i], y[i]))
	}
	n, out := clamp(rounded(all, number(one)))
	return n, out || xOut || yOut
}

func wantedCross(a, b three) (three, bool) {
	x, xOut := counts(a)
	y, yOut := counts(b)
	less := func(i, j int) *big.Int {
		d := product(x[i], y[j])
		return rounded(d.Sub(d, product(x[j], y[i])), number(one))
	}
	return ended([3]*big.Int{less(1, 2), less(2, 0), less(0, 1)}, xOut || yOut)
}

func wantedLen(a three) (int, bool) {
	x, out := counts(a)
	all := new(big.Int)
	for _, n := range x {
		all.Add(all, product(n, n))
	}
	n, nOut := clamp(all.Sqrt(all))
	return n, out || nOut
}

func wantedUnit(a three) (three, bool) {
	length, lengthOut := wantedLen(a)
	if length == 0 {
		return three{}, true
	}
	x, out := counts(a)
	for i := range x {
		x[i] = rounded(product(x[i], number(one)), number(length))
	}
	return ended(x, out || lengthOut)
}

func same(t *testing.T, name string, a, b any, got three, out bool, want three, wantOut bool) {
	t.Helper()
	if got != want || out != wantOut {
		t.Errorf("%s of %v and %v = %v, %t; want %v, %t", name, a, b, got, out, want, wantOut)
	}
}

func sameNumber(t *testing.T, name string, a, b any, got int, out bool, want int, wantOut bool) {
	t.Helper()
	if got != want || out != wantOut {
		t.Errorf("%s of %v and %v = %d, %t; want %d, %t", name, a, b, got, out, want, wantOut)
	}
}

// row is two times three numbers, and what is wanted of them.
type row struct {
	a, b, want three
	out        bool
}

func holds(t *testing.T, name string, call func(a, b three) (three, bool), rows []row) {
	t.Helper()
	for _, x := range rows {
		got, out := call(x.a, x.b)
		same(t, name, x.a, x.b, got, out, x.want, x.out)
	}
}

// P7.1

func TestAddTable(t *testing.T) {
	holds(t, "Add", vec.Add, []row{
		{three{}, three{}, three{}, false},
		{three{1, -1, 0}, three{1, 1, -1}, three{2, 0, -1}, false},
		{three{one, half, -half}, three{2 * one, half, -half}, three{3 * one, one, -one}, false},
		{three{lim, -lim, lim}, three{-lim, lim, 0}, three{0, 0, lim}, false},
		{three{lim - 1, 1 - lim, 0}, three{1, -1, lim}, three{lim, -lim, lim}, false},
		// By a result alone, at each place.
		{three{lim, 5, 6}, three{1, 7, 8}, three{lim, 12, 14}, true},
		{three{5, lim, 6}, three{7, 1, 8}, three{12, lim, 14}, true},
		{three{5, 6, lim}, three{7, 8, 1}, three{12, 14, lim}, true},
		{three{-lim, 5, 6}, three{-1, 7, 8}, three{-lim, 12, 14}, true},
		{three{5, -lim, 6}, three{7, -1, 8}, three{12, -lim, 14}, true},
		{three{5, 6, -lim}, three{7, 8, -1}, three{12, 14, -lim}, true},
		{three{lim, lim, lim}, three{lim, lim, lim}, three{lim, lim, lim}, true},
		// By a number alone: it counts as the end that is nearest.
		{three{lim + 1, 0, 0}, three{-1, 2, 3}, three{lim - 1, 2, 3}, true},
		{three{0, low, 0}, three{1, lim, 3}, three{1, 0, 3}, true},
		{three{0, 0, high}, three{1, 2, -lim}, three{1, 2, 0}, true},
		{three{1, 2, 3}, three{-lim - 1, 0, 0}, three{1 - lim, 2, 3}, true},
		{three{0, lim, 0}, three{1, low, 3}, three{1, 0, 3}, true},
		{three{0, 0, -lim}, three{1, 2, high}, three{1, 2, 0}, true},
		{three{low, high, low}, three{high, low, low}, three{0, 0, -lim}, true},
	})
}

func TestSubTable(t *testing.T) {
	holds(t, "Sub", vec.Sub, []row{
		{three{}, three{}, three{}, false},
		{three{1, -1, 0}, three{1, 1, -1}, three{0, -2, 1}, false},
		{three{one, half, -half}, three{2 * one, half, half}, three{-one, 0, -one}, false},
		{three{lim, -lim, 0}, three{lim, -lim, lim}, three{0, 0, -lim}, false},
		{three{lim - 1, 1 - lim, 0}, three{-1, 1, -lim}, three{lim, -lim, lim}, false},
		// By a result alone, at each place.
		{three{lim, 5, 6}, three{-1, 7, 9}, three{lim, -2, -3}, true},
		{three{5, lim, 6}, three{7, -1, 9}, three{-2, lim, -3}, true},
		{three{5, 6, lim}, three{7, 9, -1}, three{-2, -3, lim}, true},
		{three{-lim, 5, 6}, three{1, 7, 9}, three{-lim, -2, -3}, true},
		{three{5, -lim, 6}, three{7, 1, 9}, three{-2, -lim, -3}, true},
		{three{5, 6, -lim}, three{7, 9, 1}, three{-2, -3, -lim}, true},
		{three{lim, lim, lim}, three{-lim, -lim, -lim}, three{lim, lim, lim}, true},
		// By a number alone.
		{three{lim + 1, 0, 0}, three{1, 2, 3}, three{lim - 1, -2, -3}, true},
		{three{0, low, 0}, three{1, -lim, 3}, three{-1, 0, -3}, true},
		{three{0, 0, high}, three{1, 2, lim}, three{-1, -2, 0}, true},
		{three{1, 2, 3}, three{-lim - 1, 0, 0}, three{lim, 2, 3}, true},
		{three{-1, 2, 3}, three{-lim - 1, 0, 0}, three{lim - 1, 2, 3}, true},
		{three{0, -lim, 0}, three{1, low, 3}, three{-1, 0, -3}, true},
		{three{0, 0, lim}, three{1, 2, high}, three{-1, -2, 0}, true},
		{three{low, high, low}, three{low, high, high}, three{0, 0, -lim}, true},
	})
}

func TestScaleTable(t *testing.T) {
	for _, x := range []struct {
		a    three
		s    int
		want three
		out  bool
	}{
		{three{}, 0, three{}, false}, {three{1, one, lim}, 0, three{}, false}, {three{-1, -one, -lim}, 0, three{}, false},
		{three{1, -one, lim}, one, three{1, -one, lim}, false}, {three{1, -one, -lim}, -one, three{-1, one, lim}, false},
		{three{one, 2 * one, -3 * one}, 2 * one, three{2 * one, 4 * one, -6 * one}, false}, {three{one, 2 * one, -3 * one}, -half, three{-half, -one, one + half}, false},
		// A half goes up, whatever the sign.
		{three{1, -1, 3}, half, three{1, 0, 2}, false}, {three{1, -1, -3}, -half, three{0, 1, 2}, false}, {three{-3, 1, 2}, half, three{-1, 1, 1}, false}, {three{1, -1, 0}, half - 1, three{}, false}, {three{1, -1, 2}, half + 1, three{1, -1, 1}, false}, {three{half, -half, one}, 1, three{1, 0, 1}, false}, {three{half, -half, one}, -1, three{0, 1, -1}, false},
		{three{lim, -lim, lim / 2}, half, three{lim / 2, -lim / 2, lim / 4}, false}, {three{one, -one, 0}, lim, three{lim, -lim, 0}, false},
		// By a result alone, at each place.
		{three{lim, one, -one}, one + 1, three{lim, one + 1, -one - 1}, true}, {three{one, lim, -one}, one + 1, three{one + 1, lim, -one - 1}, true}, {three{one, -one, lim}, one + 1, three{one + 1, -one - 1, lim}, true},
		{three{-lim, one, 0}, 2 * one, three{-lim, 2 * one, 0}, true}, {three{one, -lim, 0}, 2 * one, three{2 * one, -lim, 0}, true}, {three{one, 0, -lim}, 2 * one, three{2 * one, 0, -lim}, true}, {three{one, 2 * one, 0}, -lim, three{-lim, -lim, 0}, true},
		// By a number alone, of the three or the one by which they are multiplied.
		{three{lim + 1, 1, 2}, one, three{lim, 1, 2}, true}, {three{1, -lim - 1, 2}, one, three{1, -lim, 2}, true}, {three{1, 2, high}, one, three{1, 2, lim}, true}, {three{low, 2, 4}, half, three{-lim / 2, 1, 2}, true}, {three{0, high, 0}, 0, three{}, true}, {three{0, 0, low}, 0, three{}, true}, {three{lim + 1, 0, 0}, 0, three{}, true},
		{three{}, lim, three{}, false}, {three{}, lim + 1, three{}, true}, {three{}, -lim, three{}, false}, {three{}, -lim - 1, three{}, true}, {three{}, low, three{}, true}, {three{}, high, three{}, true}, {three{half, one, 0}, high, three{lim / 2, lim, 0}, true}, {three{half, -one, 0}, low, three{-lim / 2, lim, 0}, true}, {three{1, -1, 0}, lim + 1, three{1 << 26, -1 << 26, 0}, true}, {three{low, high, 0}, low, three{lim, -lim, 0}, true},
	} {
		got, out := vec.Scale(x.a, x.s)
		same(t, "Scale", x.a, x.s, got, out, x.want, x.out)
	}
}

func TestDotTable(t *testing.T) {
	for _, x := range []struct {
		a, b three
		want int
		out  bool
	}{
		{three{}, three{}, 0, false}, {three{one, 2 * one, 3 * one}, three{4 * one, 5 * one, 6 * one}, 32 * one, false}, {three{one, 2 * one, 3 * one}, three{-4 * one, 5 * one, -6 * one}, -12 * one, false},
		{three{one, 0, 0}, three{7, 8, 9}, 7, false}, {three{0, one, 0}, three{7, 8, 9}, 8, false}, {three{0, 0, one}, three{7, 8, 9}, 9, false},
		// The sum is rounded, not each product; a half goes up.
		{three{1, 0, 0}, three{half, 0, 0}, 1, false}, {three{-1, 0, 0}, three{half, 0, 0}, 0, false}, {three{1, 1, 0}, three{half, half, 0}, 1, false}, {three{1, 1, 1}, three{half, half, half}, 2, false}, {three{-1, -1, -1}, three{half, half, half}, -1, false}, {three{1, 1, 1}, three{half - 1, 0, 0}, 0, false},
		// By the result alone, and what comes back from beyond an end.
		{three{lim, 0, 0}, three{one, 0, 0}, lim, false}, {three{lim, 1, 0}, three{one, one, 0}, lim, true}, {three{-lim, 0, -1}, three{one, 0, one}, -lim, true}, {three{lim, 0, 0}, three{2 * one, 0, 0}, lim, true}, {three{0, lim, 0}, three{0, -2 * one, 0}, -lim, true}, {three{0, 0, lim}, three{0, 0, lim}, lim, true}, {three{lim, lim, -lim}, three{one, one, one}, lim, false}, {three{lim, lim, one}, three{lim, -lim, one}, one, false}, {three{lim, lim, lim}, three{lim, lim, lim}, lim, true},
		// By a number alone, at each place.
		{three{lim + 1, 0, 0}, three{}, 0, true}, {three{0, lim + 1, 0}, three{}, 0, true}, {three{0, 0, lim + 1}, three{}, 0, true}, {three{-lim - 1, 0, 0}, three{one, 0, 0}, -lim, true}, {three{0, low, 0}, three{0, half, 0}, -lim / 2, true}, {three{0, 0, high}, three{0, 0, half}, lim / 2, true}, {three{high, low, 0}, three{one, one, 0}, 0, true}, {three{low, 0, 0}, three{low, 0, 0}, lim, true},
	} {
		n, out := vec.Dot(x.a, x.b)
		sameNumber(t, "Dot", x.a, x.b, n, out, x.want, x.out)
		n, out = vec.Dot(x.b, x.a)
		sameNumber(t, "Dot", x.b, x.a, n, out, x.want, x.out)
	}
}

func TestLenTable(t *testing.T) {
	for _, x := range []struct {
		a    three
		want int
		out  bool
	}{
		{three{}, 0, false}, {three{1, 0, 0}, 1, false}, {three{0, -1, 0}, 1, false}, {three{0, 0, 1}, 1, false}, {three{one, 0, 0}, one, false}, {three{0, -half, 0}, half, false}, {three{3, 0, -4}, 5, false}, {three{2 * one, -3 * one, 6 * one}, 7 * one, false},
		// The root is cut, and not rounded; the squares are not cut.
		{three{1, 1, 0}, 1, false}, {three{1, 1, 1}, 1, false}, {three{2, 3, 5}, 6, false}, {three{one, one, 0}, 6074000999, false}, {three{one, -one, one}, 7439101573, false},
		// By the result alone, from the square of Lim + 1 on, at each place.
		{three{lim, 0, 0}, lim, false}, {three{0, -lim, 0}, lim, false}, {three{0, 0, lim}, lim, false}, {three{lim, side, 0}, lim, false}, {three{0, lim, -side}, lim, false}, {three{side, 0, -lim}, lim, false}, {three{lim, side + 1, 0}, lim, true}, {three{0, lim, -side - 1}, lim, true}, {three{side + 1, 0, -lim}, lim, true}, {three{lim - 1, side, 0}, lim - 1, false}, {three{lim - 1, side + 1, 0}, lim, false}, {three{lim, lim, lim}, lim, true}, {three{-lim, 0, -lim}, lim, true},
		// By a number alone, at each place.
		{three{lim + 1, 0, 0}, lim, true}, {three{0, lim + 1, 0}, lim, true}, {three{0, 0, lim + 1}, lim, true}, {three{-lim - 1, 0, 0}, lim, true}, {three{1, high, 0}, lim, true}, {three{0, 1, low}, lim, true}, {three{low, low, low}, lim, true},
	} {
		n, out := vec.Len(x.a)
		sameNumber(t, "Len", x.a, "nothing", n, out, x.want, x.out)
	}
}

// Each call is what the promise says of the lower layers' calls, number by number.
func TestSaidByLowerLayers(t *testing.T) {
	pairs(func(a, b three) {
		var added, less, scaled three
		var addOut, subOut, timesOut bool
		for i := range a {
			var out bool
			added[i], out = fix.Add(a[i], b[i])
			addOut = addOut || out
			less[i], out = fix.Sub(a[i], b[i])
			subOut = subOut || out
			scaled[i], out = scale.Times(a[i], b[0])
			timesOut = timesOut || out
		}
		got, out := vec.Add(a, b)
		same(t, "Add", a, b, got, out, added, addOut)
		got, out = vec.Sub(a, b)
		same(t, "Sub", a, b, got, out, less, subOut)
		got, out = vec.Scale(a, b[0])
		same(t, "Scale", a, b[0], got, out, scaled, timesOut)
		n, nOut := vec.Dot(a, b)
		dot, dotOut := sum.Dot(a[:], b[:])
		sameNumber(t, "Dot", a, b, n, nOut, dot, dotOut)
		n, nOut = vec.Len(a)
		norm, normOut := sum.Norm(a[:])
		sameNumber(t, "Len", a, "nothing", n, nOut, norm, normOut)
	})
}

func TestNumberByNumberAll(t *testing.T) {
	pairs(func(a, b three) {
		got, out := vec.Add(a, b)
		want, wantOut := wantedAdd(a, b)
		same(t, "Add", a, b, got, out, want, wantOut)
		got, out = vec.Sub(a, b)
		want, wantOut = wantedSub(a, b)
		same(t, "Sub", a, b, got, out, want, wantOut)
		for _, s := range b {
			got, out = vec.Scale(a, s)
			want, wantOut = wantedScale(a, s)
			same(t, "Scale", a, s, got, out, want, wantOut)
		}
		n, nOut := vec.Dot(a, b)
		dot, dotOut := wantedDot(a, b)
		sameNumber(t, "Dot", a, b, n, nOut, dot, dotOut)
	})
	for _, a := range threes() {
		n, out := vec.Len(a)
		want, wantOut := wantedLen(a)
		sameNumber(t, "Len", a, "nothing", n, out, want, wantOut)
	}
}

// P7.2

func TestCrossTable(t *testing.T) {
	holds(t, "Cross", vec.Cross, []row{
		{three{}, three{}, three{}, false},
		{three{one, 0, 0}, three{0, one, 0}, three{0, 0, one}, false},
		{three{0, one, 0}, three{0, 0, one}, three{one, 0, 0}, false},
		{three{0, 0, one}, three{one, 0, 0}, three{0, one, 0}, false},
		{three{0, one, 0}, three{one, 0, 0}, three{0, 0, -one}, false},
		{three{0, 0, one}, three{0, one, 0}, three{-one, 0, 0}, false},
		{three{one, 0, 0}, three{0, 0, one}, three{0, -one, 0}, false},
		{three{one, 2 * one, 3 * one}, three{4 * one, 5 * one, 6 * one}, three{-3 * one, 6 * one, -3 * one}, false},
		{three{4 * one, 5 * one, 6 * one}, three{one, 2 * one, 3 * one}, three{3 * one, -6 * one, 3 * one}, false},
		{three{one, -one, 2 * one}, three{one, -one, 2 * one}, three{}, false},
		// A half goes up both ways round, of the difference and not of each product.
		{three{1, 0, 0}, three{0, half, 0}, three{0, 0, 1}, false},
		{three{0, half, 0}, three{1, 0, 0}, three{}, false},
		{three{0, 1, 0}, three{0, 0, half}, three{1, 0, 0}, false},
		{three{0, 0, half}, three{0, 1, 0}, three{}, false},
		{three{0, 0, 1}, three{half, 0, 0}, three{0, 1, 0}, false},
		{three{half, 0, 0}, three{0, 0, 1}, three{}, false},
		{three{1, 1, 0}, three{-half, half, 0}, three{0, 0, 1}, false},
		{three{1, 1, 0}, three{half, half, 0}, three{}, false},
		{three{1, 3, 0}, three{half, half, 0}, three{0, 0, -1}, false},
		// By a result alone, at each place, and what comes back from beyond an end.
		{three{0, lim, 0}, three{0, 0, one}, three{lim, 0, 0}, false},
		{three{0, lim, 0}, three{0, 0, 2 * one}, three{lim, 0, 0}, true},
		{three{0, 0, lim}, three{2 * one, 0, 0}, three{0, lim, 0}, true},
		{three{lim, 0, 0}, three{0, 2 * one, 0}, three{0, 0, lim}, true},
		{three{0, 0, lim}, three{0, 2 * one, 0}, three{-lim, 0, 0}, true},
		{three{lim, 0, 0}, three{0, 0, 2 * one}, three{0, -lim, 0}, true},
		{three{0, lim, 0}, three{2 * one, 0, 0}, three{0, 0, -lim}, true},
		{three{lim, 1, 0}, three{-one, one, 0}, three{0, 0, lim}, true},
		{three{lim, lim, lim}, three{lim, lim, lim}, three{}, false},
		{three{lim, lim, 0}, three{lim, lim - 1, 0}, three{0, 0, -1 << 26}, false},
		// By a number alone: all three results are 0, and it is told.
		{three{lim + 1, 0, 0}, three{}, three{}, true},
		{three{0, lim + 1, 0}, three{}, three{}, true},
		{three{0, 0, lim + 1}, three{}, three{}, true},
		{three{}, three{lim + 1, 0, 0}, three{}, true},
		{three{}, three{0, lim + 1, 0}, three{}, true},
		{three{}, three{0, 0, lim + 1}, three{}, true},
		{three{low, 0, 0}, three{one, 0, 0}, three{}, true},
		{three{0, one, 0}, three{0, low, 0}, three{}, true},
		{three{0, 0, -lim - 1}, three{0, 0, -lim - 1}, three{}, true},
		{three{}, three{low, high, -lim - 1}, three{}, true},
		{three{high, high, high}, three{high, high, high}, three{}, true},
		// By a number alone: it counts as the end that is nearest, both as it is and turned round.
		{three{0, one, 0}, three{high, 0, 0}, three{0, 0, -lim}, true},
		{three{0, one, 0}, three{low, 0, 0}, three{0, 0, lim}, true},
		{three{half, 0, 0}, three{0, low, 0}, three{0, 0, -lim / 2}, true},
		{three{0, 0, half}, three{0, low, 0}, three{lim / 2, 0, 0}, true},
		{three{0, 0, low}, three{half, half, 0}, three{lim / 2, -lim / 2, 0}, true},
	})
}

func TestCrossAll(t *testing.T) {
	pairs(func(a, b three) {
		got, out := vec.Cross(a, b)
		want, wantOut := wantedCross(a, b)
		same(t, "Cross", a, b, got, out, want, wantOut)
		got, out = vec.Cross(b, a)
		want, wantOut = wantedCross(b, a)
		same(t, "Cross", b, a, got, out, want, wantOut)
	})
}

// What the promise says of sum.Dot and fix.Neg, one by one.
func TestCrossSaidByLowerLayers(t *testing.T) {
	pairs(func(a, b three) {
		x, xOut := sum.Dot([]int{a[1], a[2]}, []int{b[2], fix.Neg(b[1])})
		y, yOut := sum.Dot([]int{a[2], a[0]}, []int{b[0], fix.Neg(b[2])})
		z, zOut := sum.Dot([]int{a[0], a[1]}, []int{b[1], fix.Neg(b[0])})
		clamped := xOut || yOut || zOut
		for i := range a {
			_, aOut := fix.Clamp(a[i])
			_, bOut := fix.Clamp(b[i])
			clamped = clamped || aOut || bOut
		}
		got, out := vec.Cross(a, b)
		same(t, "Cross", a, b, got, out, three{x, y, z}, clamped)
	})
}

// P7.3

func TestUnitTable(t *testing.T) {
	for _, x := range []struct {
		a, want three
		out     bool
	}{
		{three{}, three{}, true},
		{three{one, 0, 0}, three{one, 0, 0}, false}, {three{0, -one, 0}, three{0, -one, 0}, false}, {three{0, 0, 7 * one}, three{0, 0, one}, false},
		{three{0, 3, 4}, three{0, 2576980378, 3435973837}, false}, {three{0, 3 * one, 4 * one}, three{0, 2576980378, 3435973837}, false}, {three{-3 * one, 0, -4 * one}, three{-2576980378, 0, -3435973837}, false}, {three{2, -3, 6}, three{1227133513, -1840700270, 3681400539}, false},
		// The smallest ones: the length is cut to 1, so that each quotient goes as far as one goes.
		{three{1, 0, 0}, three{one, 0, 0}, false}, {three{0, -1, 0}, three{0, -one, 0}, false}, {three{0, 0, 1}, three{0, 0, one}, false}, {three{1, -1, 0}, three{one, -one, 0}, false}, {three{1, 1, -1}, three{one, one, -one}, false}, {three{2, 1, 1}, three{one, half, half}, false}, {three{-2, 1, -1}, three{-one, half, -half}, false},
		// A quotient that is rounded to 0 beside a greater number, and a half that goes up.
		{three{1, 2 * one, 0}, three{1, one, 0}, false}, {three{-1, 2 * one, 0}, three{0, one, 0}, false}, {three{2*one + 2, 1, -1}, three{one, 0, 0}, false}, {three{1, -1, 2 * one}, three{1, 0, one}, false}, {three{3, -3, 2 * one}, three{2, -1, one}, false}, {three{1, 0, lim}, three{0, 0, one}, false}, {three{lim, -1, 1}, three{one, 0, 0}, false}, {three{1 << 25, -1 << 25, lim}, three{1, 0, one}, false}, {three{1<<25 - 1, -1<<25 - 1, lim}, three{0, -1, one}, false},
		// Where Len is at its end, and beyond it.
		{three{lim, 0, 0}, three{one, 0, 0}, false}, {three{0, 0, -lim}, three{0, 0, -one}, false}, {three{lim, side, 0}, three{one, 11, 0}, false}, {three{lim, side + 1, 0}, three{one, 11, 0}, true}, {three{side + 1, 0, -lim}, three{11, 0, -one}, true}, {three{lim, lim, 0}, three{one, one, 0}, true}, {three{lim, -lim, lim}, three{one, -one, one}, true}, {three{lim / 2, lim, 0}, three{half, one, 0}, true},
		// By a number alone, at each place.
		{three{lim + 1, 0, 0}, three{one, 0, 0}, true}, {three{0, lim + 1, 0}, three{0, one, 0}, true}, {three{0, 0, lim + 1}, three{0, 0, one}, true}, {three{-lim - 1, 0, 0}, three{-one, 0, 0}, true}, {three{0, high, 0}, three{0, one, 0}, true}, {three{0, 0, low}, three{0, 0, -one}, true}, {three{low, high, low}, three{-one, one, -one}, true}, {three{high, lim / 2, 0}, three{one, half, 0}, true},
	} {
		got, out := vec.Unit(x.a)
		same(t, "Unit", x.a, "nothing", got, out, x.want, x.out)
	}
}

func TestUnitAll(t *testing.T) {
	for _, a := range threes() {
		got, out := vec.Unit(a)
		want, wantOut := wantedUnit(a)
		same(t, "Unit", a, "nothing", got, out, want, wantOut)
		length, clamped := vec.Len(a)
		var said three
		for i := range a {
			n, nOut := scale.Over(a[i], length)
			said[i] = n
			clamped = clamped || nOut
		}
		same(t, "Unit", a, "nothing", got, out, said, clamped)
	}
}

// A direction's length is 1, as far as the length of what it is the direction of was not cut much, and is not clamped.
func TestUnitLength(t *testing.T) {
	for _, a := range threes() {
		length, _ := vec.Len(a)
		unit, clamped := vec.Unit(a)
		if clamped || length < one {
			continue
		}
		if n, out := vec.Len(unit); n < one-2 || n > one+2 || out {
			t.Errorf("Len of Unit of %v = %d, %t; want nearly %d, false", a, n, out, one)
		}
	}
}

// A number that is no value is told at whichever place it stands, in each call, and a value beside zeros is not.
func TestToldAtEachPlace(t *testing.T) {
	for place := range 3 {
		for _, n := range []int{one, lim, lim + 1, -lim, -lim - 1, low, high} {
			a, none := at(place, n), three{}
			want := n < -lim || n > lim
			told := map[string]bool{}
			_, told["Add, first"] = vec.Add(a, none)
			_, told["Add, second"] = vec.Add(none, a)
			_, told["Sub, first"] = vec.Sub(a, none)
			_, told["Sub, second"] = vec.Sub(none, a)
			_, told["Scale"] = vec.Scale(a, 0)
			_, told["Scale by it"] = vec.Scale(none, n)
			_, told["Dot, first"] = vec.Dot(a, none)
			_, told["Dot, second"] = vec.Dot(none, a)
			_, told["Cross, first"] = vec.Cross(a, none)
			_, told["Cross, second"] = vec.Cross(none, a)
			_, told["Cross, both"] = vec.Cross(a, a)
			_, told["Len"] = vec.Len(a)
			_, told["Unit"] = vec.Unit(a)
			for name, got := range told {
				if got != want {
					t.Errorf("%s: %d at place %d: told %t; want %t", name, n, place, got, want)
				}
			}
		}
	}
}

// P7.4

// Both ways round, a result and the other one are 0 together, or 1 where both were halves that went up.
func TestCrossBothWaysRound(t *testing.T) {
	pairs(func(a, b three) {
		there, out := vec.Cross(a, b)
		back, backOut := vec.Cross(b, a)
		if out != backOut {
			t.Errorf("Cross of %v and %v tells %t, the other way round %t", a, b, out, backOut)
		}
		for i := range there {
			if s := there[i] + back[i]; s != 0 && s != 1 {
				t.Errorf("Cross of %v and %v = %v, the other way round %v", a, b, there, back)
			}
		}
	})
}

// Each of the three numbers is wrong by half of 2^-32 at most, so that a product with a is wrong by half of the sum of a's sizes, and half of 2^-32 more.
func TestCrossStandsUpright(t *testing.T) {
	count := 0
	pairs(func(a, b three) {
		cross, clamped := vec.Cross(a, b)
		if clamped {
			return
		}
		count++
		for _, c := range []three{a, b} {
			most := (fix.Abs(c[0])+fix.Abs(c[1])+fix.Abs(c[2]))/(2*one) + 1
			if n, out := vec.Dot(cross, c); n < -most || n > most || out {
				t.Errorf("Dot of %v and Cross of %v and %v = %d, %t; want %d at most, false", c, a, b, n, out, most)
			}
		}
	})
	if count < 1000 {
		t.Errorf("only %d pairs have a Cross that is not clamped", count)
	}
}

// P1

// Of every three edges, each call ends and answers values.
func TestEveryThreeEdges(t *testing.T) {
	e := edges()
	for _, x := range e {
		for _, y := range e {
			for _, z := range e {
				a, b := three{x, y, z}, three{z, x, y}
				added, _ := vec.Add(a, b)
				less, _ := vec.Sub(a, b)
				scaled, _ := vec.Scale(a, y)
				cross, _ := vec.Cross(a, b)
				unit, _ := vec.Unit(a)
				dot, _ := vec.Dot(a, b)
				length, _ := vec.Len(a)
				for _, answer := range []three{added, less, scaled, cross, unit, {dot, length, 0}} {
					for _, n := range answer {
						if n < -lim || n > lim {
							t.Fatalf("of %v and %v: %d is no value", a, b, n)
						}
					}
				}
			}
		}
	}
}
