package quat_test

import (
	"math"
	"math/big"
	"slices"
	"testing"

	"outrigger/api"
	"outrigger/fix"
	"outrigger/quat"
	"outrigger/scale"
	"outrigger/sum"
)

const (
	one  = api.One
	half = api.One / 2
	lim  = api.Lim
	low  = math.MinInt
	high = math.MaxInt

	// The square of lim + 1 is that of lim and 2 * lim + 1 more: the square of side is no more than 2 * lim, that of side + 1 is.
	side = 759250124
)

type (
	three = [3]int
	four  = [4]int
)

// around is numbers with their neighbours, of both signs; what goes beyond int wraps round.
func around(numbers ...int) []int {
	var all []int
	for _, n := range numbers {
		all = append(all, n-1, n, n+1, -n-1, -n, -n+1)
	}
	return all
}

// edges is numbers at which an answer changes its kind, alone or with others of them.
func edges() []int {
	all := around(0, 3, half, one, one+half, 1<<45, side, lim/2, lim, 1<<62)
	return append(all, low, low+1, high-1, high)
}

// spread is numbers of all sizes and both signs, the same ones at each run.
func spread(count int) []int {
	all := make([]int, 0, count)
	x := uint64(1)
	for i := range count {
		x ^= x << 13
		x ^= x >> 7
		x ^= x << 17
		all = append(all, int(x)>>(i%64))
	}
	return all
}

// at is four zeros with n at one place.
func at(place, n int) four {
	var q four
	q[place] = n
	return q
}

// turns is four numbers of all kinds: an edge alone at each place, two of them, four of them, of values and of others.
func turns() []four {
	all := []four{{}, quat.One(), {one, 2 * one, 3 * one, 4 * one}, {1, 1, 1, 1}, {-1, 2, -3, 5}, {half, -half, half, half}}
	e := edges()
	for i, n := range e {
		for place := range 4 {
			all = append(all, at(place, n))
		}
		all = append(all, four{n, n, n, n}, four{n, -n, 0, 1}, four{one, n, half, -one}, four{n, e[(i+7)%len(e)], e[(i+23)%len(e)], e[(i+41)%len(e)]})
	}
	s := spread(4 * 67)
	// Cut down by so much, what was no value is one, or all of them are small.
	for _, cut := range []uint{0, 4, 5, 6, 16, 24, 32, 56} {
		for i := 0; i+4 <= len(s); i += 4 {
			all = append(all, four{s[i] >> cut, s[i+1] >> cut, s[i+2] >> cut, s[i+3] >> cut})
		}
	}
	return all
}

// pairs hands on each of the turns with others near and far.
func pairs(f func(p, q four)) {
	all := turns()
	for i, p := range all {
		for _, far := range []int{0, 1, 2, 3, 5, 7, 19, 64, 131, 263, 401, 599, 811} {
			f(p, all[(i+far)%len(all)])
		}
	}
}

// line is a turn's last three numbers.
func line(q four) three { return three{q[1], q[2], q[3]} }

// What follows tells the document's words once more, by whole numbers without an end.

func number(n int) *big.Int { return big.NewInt(int64(n)) }

// clamp is what a number counts as, and whether that is another one.
func clamp(n *big.Int) (int, bool) {
	if n.CmpAbs(number(lim)) <= 0 {
		return int(n.Int64()), false
	}
	return n.Sign() * lim, true
}

// value is what a number counts as.
func value(n int) int {
	v, _ := clamp(number(n))
	return v
}

// values is what each number counts as, and whether one of them is none.
func values(q four) (four, bool) {
	counted := q
	for i, n := range q {
		counted[i] = value(n)
	}
	return counted, counted != q
}

// rounded is the greatest whole number that is no greater than n by d, which is above 0, and a half more.
func rounded(n, d *big.Int) *big.Int {
	twice := new(big.Int).Lsh(n, 1)
	// Of a divisor above 0, Div goes down.
	return twice.Div(twice.Add(twice, d), new(big.Int).Lsh(d, 1))
}

func product(x, y int) *big.Int { return new(big.Int).Mul(number(x), number(y)) }

// signs is which sign the product of p's number in a row and q's number in a column has: it stands at the place whose number is both places' bits, where they are unlike.
var signs = [4][4]int{
	{1, 1, 1, 1},
	{1, -1, 1, -1},
	{1, -1, -1, 1},
	{1, 1, -1, -1},
}

func wantedMul(p, q four) (four, bool) {
	x, xOut := values(p)
	y, yOut := values(q)
	var all [4]big.Int
	for i := range x {
		for j := range y {
			n := &all[i^j]
			n.Add(n, product(signs[i][j]*x[i], y[j]))
		}
	}
	var want four
	clamped := xOut || yOut
	for i := range all {
		n, out := clamp(rounded(&all[i], number(one)))
		want[i] = n
		clamped = clamped || out
	}
	return want, clamped
}

func wantedBack(q four) four {
	return four{value(q[0]), -value(q[1]), -value(q[2]), -value(q[3])}
}

func wantedNorm(q four) (int, bool) {
	x, out := values(q)
	all := new(big.Int)
	for _, n := range x {
		all.Add(all, product(n, n))
	}
	n, nOut := clamp(all.Sqrt(all))
	return n, out || nOut
}

func wantedUnit(q four) (four, bool) {
	norm, clamped := wantedNorm(q)
	if norm == 0 {
		return four{4294967296, 0, 0, 0}, true
	}
	x, _ := values(q)
	var want four
	for i, n := range x {
		by, out := clamp(rounded(product(n, one), number(norm)))
		want[i] = by
		clamped = clamped || out
	}
	return want, clamped
}

func wantedSmall(w three) (four, bool) {
	q := four{one, w[0], w[1], w[2]}
	x, out := values(q)
	for i := 1; i < 4; i++ {
		x[i] = int(rounded(number(x[i]), number(2)).Int64())
	}
	want, wantOut := wantedUnit(x)
	return want, wantOut || out
}

func wantedRotate(q four, v three) (three, bool) {
	first, firstOut := wantedMul(q, four{0, v[0], v[1], v[2]})
	second, secondOut := wantedMul(first, wantedBack(q))
	return line(second), firstOut || secondOut
}

// answer is what a call answers, or what is wanted of it: its numbers, and what it tells.
type answer[T comparable] struct {
	all T
	out bool
}

func told[T comparable](all T, out bool) answer[T] { return answer[T]{all, out} }

func same[T comparable](t *testing.T, name string, got, want answer[T], of ...any) {
	t.Helper()
	if got != want {
		t.Errorf("%s of %v = %v; want %v", name, of, got, want)
	}
}

func sameTurn(t *testing.T, name string, got, want four, of ...any) {
	t.Helper()
	if got != want {
		t.Errorf("%s of %v = %v; want %v", name, of, got, want)
	}
}

// P9.1

func TestOne(t *testing.T) {
	sameTurn(t, "One", quat.One(), four{4294967296, 0, 0, 0})
}

// Each of p's numbers alone with each of q's, as the promise says where which of q's stands: rows are p's place, columns q's.
func TestMulEachPlaceAlone(t *testing.T) {
	// Each is a place, from 1 on, and the sign of what stands there.
	table := [4][4]int{
		{1, 2, 3, 4},
		{2, -1, 4, -3},
		{3, -4, -1, 2},
		{4, 3, -2, -1},
	}
	for i := range 4 {
		for j := range 4 {
			place, sign := max(table[i][j], -table[i][j])-1, 1
			if table[i][j] < 0 {
				sign = -1
			}
			for _, x := range []struct{ p, q, want int }{{one, one, one}, {-one, one, -one}, {one, -one, -one}, {-one, -one, one}, {3 * one, 5, 15}, {-3 * one, 5, -15}, {7, -2 * one, -14}, {half, half, half / 2}, {lim, one, lim}, {one, -lim, -lim}, {0, lim, 0}, {lim, 0, 0}} {
				got := told(quat.Mul(at(i, x.p), at(j, x.q)))
				same(t, "Mul", got, told(at(place, sign*x.want), false), at(i, x.p), at(j, x.q))
			}
		}
	}
}

func TestMulTable(t *testing.T) {
	for _, x := range []struct {
		p, q, want four
		out        bool
	}{
		{four{}, four{}, four{}, false},
		{four{}, four{1, one, lim, -lim}, four{}, false},
		{four{1, one, lim, -lim}, four{}, four{}, false},
		{four{one, 2 * one, 3 * one, 4 * one}, four{5 * one, 6 * one, 7 * one, 8 * one}, four{-60 * one, 12 * one, 30 * one, 24 * one}, false},
		{four{5 * one, 6 * one, 7 * one, 8 * one}, four{one, 2 * one, 3 * one, 4 * one}, four{-60 * one, 20 * one, 14 * one, 32 * one}, false},
		{four{-one, 2 * one, -3 * one, 4 * one}, four{5 * one, -6 * one, 7 * one, -8 * one}, four{60 * one, 12 * one, -30 * one, 24 * one}, false},
		{four{one, 10 * one, 100 * one, 1000 * one}, four{1, 0, 0, 0}, four{1, 10, 100, 1000}, false},
		{four{one, 10 * one, 100 * one, 1000 * one}, four{0, 1, 0, 0}, four{-10, 1, 1000, -100}, false},
		{four{one, 10 * one, 100 * one, 1000 * one}, four{0, 0, 1, 0}, four{-100, -1000, 1, 10}, false},
		{four{one, 10 * one, 100 * one, 1000 * one}, four{0, 0, 0, 1}, four{-1000, 100, -10, 1}, false},
		{four{1, 0, 0, 0}, four{one, 10 * one, 100 * one, 1000 * one}, four{1, 10, 100, 1000}, false},
		{four{0, 1, 0, 0}, four{one, 10 * one, 100 * one, 1000 * one}, four{-10, 1, -1000, 100}, false},
		{four{0, 0, 1, 0}, four{one, 10 * one, 100 * one, 1000 * one}, four{-100, 1000, 1, -10}, false},
		{four{0, 0, 0, 1}, four{one, 10 * one, 100 * one, 1000 * one}, four{-1000, -100, 10, 1}, false},
		// A half goes up, behind the sign; the sum is rounded, not each product.
		{four{1, 1, 1, 1}, four{half, 0, 0, 0}, four{1, 1, 1, 1}, false},
		{four{-1, -1, -1, -1}, four{half, 0, 0, 0}, four{0, 0, 0, 0}, false},
		{four{1, 1, 1, 1}, four{0, half, 0, 0}, four{0, 1, 1, 0}, false},
		{four{1, 1, 1, 1}, four{0, -half, 0, 0}, four{1, 0, 0, 1}, false},
		{four{1, 1, 1, 1}, four{0, 0, half, 0}, four{0, 0, 1, 1}, false},
		{four{1, 1, 1, 1}, four{0, 0, 0, half}, four{0, 1, 0, 1}, false},
		{four{1, 1, 1, 1}, four{half - 1, 0, 0, 0}, four{}, false},
		{four{1, 1, 1, 1}, four{0, half + 1, 0, 0}, four{-1, 1, 1, -1}, false},
		{four{1, 1, 1, 1}, four{half, half, half, half}, four{-1, 1, 1, 1}, false},
		{four{1, -1, 1, 1}, four{half, half, half, half}, four{0, 0, 2, 0}, false},
		// By one result alone, at each place and of both signs.
		{four{2 * one, 0, 0, 0}, four{lim, 1, 2, 3}, four{lim, 2, 4, 6}, true},
		{four{2 * one, 0, 0, 0}, four{1, lim, 2, 3}, four{2, lim, 4, 6}, true},
		{four{2 * one, 0, 0, 0}, four{1, 2, lim, 3}, four{2, 4, lim, 6}, true},
		{four{2 * one, 0, 0, 0}, four{1, 2, 3, lim}, four{2, 4, 6, lim}, true},
		{four{-lim, 1, 2, 3}, four{2 * one, 0, 0, 0}, four{-lim, 2, 4, 6}, true},
		{four{1, -lim, 2, 3}, four{2 * one, 0, 0, 0}, four{2, -lim, 4, 6}, true},
		{four{1, 2, -lim, 3}, four{2 * one, 0, 0, 0}, four{2, 4, -lim, 6}, true},
		{four{1, 2, 3, -lim}, four{2 * one, 0, 0, 0}, four{2, 4, 6, -lim}, true},
		{four{0, one + 1, 0, 0}, four{0, lim, 0, 0}, four{-lim, 0, 0, 0}, true},
		{four{0, one, 0, 0}, four{0, lim, 0, 0}, four{-lim, 0, 0, 0}, false},
		{four{one, 1, 0, 0}, four{lim, -half, 0, 0}, four{lim, 1<<26 - half, 0, 0}, true},
		{four{one, 1, 0, 0}, four{lim, 1 - half, 0, 0}, four{lim, 1<<26 - half + 1, 0, 0}, false},
		{four{lim, lim, lim, lim}, four{lim, lim, lim, lim}, four{-lim, lim, lim, lim}, true},
		{four{lim, lim, 0, 0}, four{lim, lim, 0, 0}, four{0, lim, 0, 0}, true},
		{four{lim, lim, lim, lim}, four{one, -one, one, -one}, four{lim, -lim, lim, lim}, true},
		{four{lim, lim, lim, lim}, four{one, one, 0, 0}, four{0, lim, lim, 0}, true},
		// What comes back from beyond an end is not told.
		{four{lim, lim, lim, lim}, four{half, -half, -half, half}, four{lim, lim, -lim, lim}, false},
		{four{lim, lim, -lim, -lim}, four{half, half, half, half}, four{lim, lim, -lim, lim}, false},
		// By one number alone: it counts as the end that is nearest, as it is and the other way round.
		{four{lim + 1, 0, 0, 0}, four{half, half, half, half}, four{lim / 2, lim / 2, lim / 2, lim / 2}, true},
		{four{0, low, 0, 0}, four{half, half, half, half}, four{lim / 2, -lim / 2, lim / 2, -lim / 2}, true},
		{four{0, 0, high, 0}, four{half, half, half, half}, four{-lim / 2, lim / 2, lim / 2, -lim / 2}, true},
		{four{0, 0, 0, -lim - 1}, four{half, half, half, half}, four{lim / 2, lim / 2, -lim / 2, -lim / 2}, true},
		{four{half, half, half, half}, four{low, 0, 0, 0}, four{-lim / 2, -lim / 2, -lim / 2, -lim / 2}, true},
		{four{half, half, half, half}, four{0, lim + 1, 0, 0}, four{-lim / 2, lim / 2, lim / 2, -lim / 2}, true},
		{four{half, half, half, half}, four{0, 0, low, 0}, four{lim / 2, lim / 2, -lim / 2, -lim / 2}, true},
		{four{half, half, half, half}, four{0, 0, 0, high}, four{-lim / 2, lim / 2, -lim / 2, lim / 2}, true},
		{four{high, low, high, low}, four{low, high, low, high}, four{lim, lim, -lim, lim}, true},
	} {
		same(t, "Mul", told(quat.Mul(x.p, x.q)), told(x.want, x.out), x.p, x.q)
	}
}

// A number that is no value is told at whichever place it stands, though it is multiplied by 0, or by what makes a value of it; and a value is not.
func TestMulToldAtEachPlace(t *testing.T) {
	for place := range 4 {
		for _, n := range []int{0, 1, -1, half, one, -one, lim, -lim, lim + 1, -lim - 1, low, high} {
			beyond := n < -lim || n > lim
			for other := range 4 {
				for _, by := range []int{0, 1, -1, half, one, -one} {
					_, out := quat.Mul(at(place, n), at(other, by))
					_, backOut := quat.Mul(at(other, by), at(place, n))
					if out != beyond || backOut != beyond {
						t.Errorf("Mul with %d at place %d, and %d at place %d: told %t, the other way round %t; want %t", n, place, by, other, out, backOut, beyond)
					}
				}
			}
		}
	}
}

// A result that is clamped is told at whichever place it stands alone.
func TestMulResultToldAtEachPlace(t *testing.T) {
	for i := range 4 {
		for j := range 4 {
			for _, sign := range []int{1, -1} {
				want := told(at(i^j, sign*signs[i][j]*lim), true)
				same(t, "Mul", told(quat.Mul(at(i, lim), at(j, sign*2*one))), want, i, j, sign)
				same(t, "Mul", told(quat.Mul(at(i, sign*2*one), at(j, lim))), want, i, j, sign)
				want.out = false
				same(t, "Mul", told(quat.Mul(at(i, lim), at(j, sign*one))), want, i, j, sign)
			}
		}
	}
}

func TestMulAll(t *testing.T) {
	pairs(func(p, q four) {
		same(t, "Mul", told(quat.Mul(p, q)), told(wantedMul(p, q)), p, q)
		same(t, "Mul", told(quat.Mul(q, p)), told(wantedMul(q, p)), q, p)
	})
}

// What the promise says of sum.Dot and fix.Neg, one by one.
func TestMulSaidByLowerLayers(t *testing.T) {
	pairs(func(p, q four) {
		w, x, y, z := q[0], q[1], q[2], q[3]
		lists := [4][]int{
			{w, fix.Neg(x), fix.Neg(y), fix.Neg(z)},
			{x, w, z, fix.Neg(y)},
			{y, fix.Neg(z), w, x},
			{z, y, fix.Neg(x), w},
		}
		var want answer[four]
		for i, l := range lists {
			n, out := sum.Dot(p[:], l)
			_, pOut := fix.Clamp(p[i])
			_, qOut := fix.Clamp(q[i])
			want.all[i] = n
			want.out = want.out || out || pOut || qOut
		}
		same(t, "Mul", told(quat.Mul(p, q)), want, p, q)
	})
}

func TestBackTable(t *testing.T) {
	for _, x := range []struct{ q, want four }{
		{four{}, four{}},
		{four{one, 0, 0, 0}, four{one, 0, 0, 0}},
		{four{1, 2, 3, 4}, four{1, -2, -3, -4}},
		{four{-1, -2, -3, -4}, four{-1, 2, 3, 4}},
		{four{0, one, -half, 1}, four{0, -one, half, -1}},
		{four{lim, lim, lim, lim}, four{lim, -lim, -lim, -lim}},
		{four{-lim, -lim, -lim, -lim}, four{-lim, lim, lim, lim}},
		{four{lim + 1, lim + 1, lim + 1, lim + 1}, four{lim, -lim, -lim, -lim}},
		{four{-lim - 1, -lim - 1, -lim - 1, -lim - 1}, four{-lim, lim, lim, lim}},
		{four{low, low, low, low}, four{-lim, lim, lim, lim}},
		{four{high, high, high, high}, four{lim, -lim, -lim, -lim}},
		{four{low, 1, 2, 3}, four{-lim, -1, -2, -3}},
		{four{1, low, 2, 3}, four{1, lim, -2, -3}},
		{four{1, 2, high, 3}, four{1, -2, -lim, -3}},
		{four{1, 2, 3, low + 1}, four{1, -2, -3, lim}},
	} {
		sameTurn(t, "Back", quat.Back(x.q), x.want, x.q)
	}
}

func TestBackAll(t *testing.T) {
	for _, q := range turns() {
		back := quat.Back(q)
		sameTurn(t, "Back", back, wantedBack(q), q)
		counted, _ := values(q)
		sameTurn(t, "Back of Back", quat.Back(back), counted, q)
		w, _ := fix.Clamp(q[0])
		sameTurn(t, "Back", back, four{w, fix.Neg(q[1]), fix.Neg(q[2]), fix.Neg(q[3])}, q)
	}
}

// P9.2

func TestNormTable(t *testing.T) {
	for _, x := range []struct {
		q    four
		want int
		out  bool
	}{
		{four{}, 0, false}, {four{one, 0, 0, 0}, one, false}, {four{0, -one, 0, 0}, one, false}, {four{0, 0, 7, 0}, 7, false}, {four{0, 0, 0, -7}, 7, false}, {four{one, -one, one, -one}, 2 * one, false}, {four{half, half, -half, half}, one, false}, {four{0, 3, 4, 0}, 5, false}, {four{1, 2, 4, 10}, 11, false}, {four{-10, 4, -2, 1}, 11, false},
		// The smallest ones, cut down to 1.
		{four{1, 0, 0, 0}, 1, false}, {four{0, -1, 0, 0}, 1, false}, {four{1, -1, 0, 0}, 1, false}, {four{1, 1, 0, -1}, 1, false}, {four{1, 1, 1, 1}, 2, false}, {four{-1, -1, -1, -1}, 2, false}, {four{2, 1, 1, 1}, 2, false}, {four{2, 2, 0, 0}, 2, false}, {four{2, 2, 1, 0}, 3, false},
		// At the end and beyond it.
		{four{lim, 0, 0, 0}, lim, false}, {four{0, 0, 0, -lim}, lim, false}, {four{lim, side, 0, 0}, lim, false}, {four{lim, side + 1, 0, 0}, lim, true}, {four{side + 1, 0, 0, -lim}, lim, true}, {four{0, 0, lim, -side - 1}, lim, true}, {four{lim / 2, lim / 2, lim / 2, lim / 2}, lim, false}, {four{lim/2 + 1, lim / 2, -lim / 2, lim / 2}, lim, false}, {four{lim/2 + 1, lim / 2, -lim/2 - 1, lim / 2}, lim, true}, {four{lim, lim, 0, 0}, lim, true}, {four{lim, -lim, lim, -lim}, lim, true},
		// By a number alone, at each place.
		{four{lim + 1, 0, 0, 0}, lim, true}, {four{0, -lim - 1, 0, 0}, lim, true}, {four{0, 0, low, 0}, lim, true}, {four{0, 0, 0, high}, lim, true}, {four{low, high, low, high}, lim, true},
	} {
		same(t, "Norm", told(quat.Norm(x.q)), told(x.want, x.out), x.q)
	}
}

func TestNormAll(t *testing.T) {
	for _, q := range turns() {
		got := told(quat.Norm(q))
		same(t, "Norm", got, told(wantedNorm(q)), q)
		same(t, "Norm", got, told(sum.Norm([]int{q[0], q[1], q[2], q[3]})), q)
	}
}

func TestUnitTable(t *testing.T) {
	for _, x := range []struct {
		q, want four
		out     bool
	}{
		{four{}, four{one, 0, 0, 0}, true},
		{four{one, 0, 0, 0}, four{one, 0, 0, 0}, false}, {four{0, -one, 0, 0}, four{0, -one, 0, 0}, false}, {four{0, 0, 7 * one, 0}, four{0, 0, one, 0}, false}, {four{0, 0, 0, -7}, four{0, 0, 0, -one}, false},
		{four{one, -one, one, -one}, four{half, -half, half, -half}, false}, {four{half, half, half, -half}, four{half, half, half, -half}, false}, {four{0, 0, 3, -4}, four{0, 0, 2576980378, -3435973837}, false}, {four{3 * one, 4 * one, 0, 0}, four{2576980378, 3435973837, 0, 0}, false}, {four{0, 2, -3, 6}, four{0, 1227133513, -1840700270, 3681400539}, false},
		// The smallest ones: the length is cut to 1, so that each quotient goes as far as one goes.
		{four{1, 0, 0, 0}, four{one, 0, 0, 0}, false}, {four{0, -1, 0, 0}, four{0, -one, 0, 0}, false}, {four{0, 0, 1, 0}, four{0, 0, one, 0}, false}, {four{0, 0, 0, -1}, four{0, 0, 0, -one}, false}, {four{1, -1, 0, 0}, four{one, -one, 0, 0}, false}, {four{0, 1, 1, -1}, four{0, one, one, -one}, false}, {four{1, 1, -1, 1}, four{half, half, -half, half}, false}, {four{2, 1, -1, 1}, four{one, half, -half, half}, false},
		// A quotient that is rounded beside a greater number: a half goes up.
		{four{2 * one, 1, -1, 0}, four{one, 1, 0, 0}, false}, {four{3, -3, 0, 2 * one}, four{2, -1, 0, one}, false}, {four{1, 0, lim, -1}, four{0, 0, one, 0}, false}, {four{1 << 25, -1 << 25, 0, lim}, four{1, 0, 0, one}, false}, {four{1<<25 - 1, -1<<25 - 1, 0, -lim}, four{0, -1, 0, -one}, false},
		// Where Norm is at its end, and beyond it.
		{four{lim, 0, 0, 0}, four{one, 0, 0, 0}, false}, {four{0, 0, 0, -lim}, four{0, 0, 0, -one}, false}, {four{lim / 2, -lim / 2, lim / 2, lim / 2}, four{half, -half, half, half}, false}, {four{lim, side, 0, 0}, four{one, 11, 0, 0}, false}, {four{lim, side + 1, 0, 0}, four{one, 11, 0, 0}, true}, {four{0, 0, side + 1, -lim}, four{0, 0, 11, -one}, true}, {four{lim, lim, lim, lim}, four{one, one, one, one}, true}, {four{-lim, lim / 2, 0, -lim / 4}, four{-one, half, 0, -half / 2}, true},
		// By a number alone, at each place.
		{four{lim + 1, 0, 0, 0}, four{one, 0, 0, 0}, true}, {four{0, lim + 1, 0, 0}, four{0, one, 0, 0}, true}, {four{0, 0, -lim - 1, 0}, four{0, 0, -one, 0}, true}, {four{0, 0, 0, -lim - 1}, four{0, 0, 0, -one}, true}, {four{low, 0, 0, 0}, four{-one, 0, 0, 0}, true}, {four{0, high, 0, 0}, four{0, one, 0, 0}, true}, {four{low, high, low, high}, four{-one, one, -one, one}, true}, {four{high, lim / 2, 0, 0}, four{one, half, 0, 0}, true},
	} {
		same(t, "Unit", told(quat.Unit(x.q)), told(x.want, x.out), x.q)
	}
}

func TestUnitAll(t *testing.T) {
	for _, q := range turns() {
		got := told(quat.Unit(q))
		same(t, "Unit", got, told(wantedUnit(q)), q)
		norm, clamped := quat.Norm(q)
		if norm == 0 {
			same(t, "Unit", got, told(quat.One(), true), q)
			continue
		}
		said := told(four{}, clamped)
		for i, n := range q {
			by, out := scale.Over(n, norm)
			said.all[i] = by
			said.out = said.out || out
		}
		same(t, "Unit", got, said, q)
	}
}

// The length of a turn of the length 1 is 1, as far as the length of what it was made of was not cut much, and is not clamped.
func TestUnitNorm(t *testing.T) {
	count := 0
	for _, q := range turns() {
		norm, _ := quat.Norm(q)
		unit, clamped := quat.Unit(q)
		if clamped || norm < one {
			continue
		}
		count++
		if n, out := quat.Norm(unit); n < one-2 || n > one+2 || out {
			t.Errorf("Norm of Unit of %v = %d, %t; want nearly %d, false", q, n, out, one)
		}
	}
	if count < 100 {
		t.Errorf("only %d turns have a Unit that is not clamped", count)
	}
}

// P9.3

func TestSmallTable(t *testing.T) {
	for _, x := range []struct {
		w    three
		want four
		out  bool
	}{
		{three{}, four{one, 0, 0, 0}, false},
		// Half of what is odd goes up, of both signs.
		{three{1, 0, 0}, four{one, 1, 0, 0}, false}, {three{-1, 0, 0}, four{one, 0, 0, 0}, false}, {three{2, -2, 0}, four{one, 1, -1, 0}, false}, {three{3, -3, 5}, four{one, 2, -1, 3}, false}, {three{-5, 7, -7}, four{one, -2, 4, -3}, false}, {three{0, 1, -1}, four{one, 0, 1, 0}, false}, {three{1, -1, 1}, four{one, 1, 0, 1}, false}, {three{2001, -2001, 1000}, four{one, 1001, -1000, 500}, false},
		// Which line is which.
		{three{200, 0, 0}, four{one, 100, 0, 0}, false}, {three{0, 200, 0}, four{one, 0, 100, 0}, false}, {three{0, 0, 200}, four{one, 0, 0, 100}, false}, {three{200, -400, 600}, four{one, 100, -200, 300}, false},
		// As great as 1, and greater.
		{three{2 * one, 0, 0}, four{3037000500, 3037000500, 0, 0}, false}, {three{0, -2 * one, 0}, four{3037000500, 0, -3037000500, 0}, false}, {three{2 * one, 2 * one, 2 * one}, four{half, half, half, half}, false}, {three{-2 * one, 2 * one, -2 * one}, four{half, -half, half, -half}, false}, {three{0, 0, 8 * one / 3}, four{2576980378, 0, 0, 3435973837}, false}, {three{4 * one, 4 * one, 8 * one}, four{858993459, 1717986918, 1717986918, 3435973837}, false},
		{three{lim, 0, 0}, four{128, one, 0, 0}, false}, {three{0, -lim, 0}, four{128, 0, -one, 0}, false}, {three{0, lim, -lim}, four{91, 0, 3037000500, -3037000500}, false}, {three{lim, lim, lim}, four{74, 2479700525, 2479700525, 2479700525}, false},
		// By a number alone, at each place: it counts as the end that is nearest.
		{three{lim + 1, 0, 0}, four{128, one, 0, 0}, true}, {three{0, lim + 1, 0}, four{128, 0, one, 0}, true}, {three{0, 0, lim + 1}, four{128, 0, 0, one}, true}, {three{-lim - 1, 0, 0}, four{128, -one, 0, 0}, true}, {three{0, low, 0}, four{128, 0, -one, 0}, true}, {three{0, 0, high}, four{128, 0, 0, one}, true}, {three{high, high, high}, four{74, 2479700525, 2479700525, 2479700525}, true}, {three{0, low, low}, four{91, 0, -3037000500, -3037000500}, true},
	} {
		same(t, "Small", told(quat.Small(x.w)), told(x.want, x.out), x.w)
	}
}

func TestSmallAll(t *testing.T) {
	for _, q := range turns() {
		for _, w := range []three{line(q), {q[0], q[1], q[2]}} {
			got := told(quat.Small(w))
			same(t, "Small", got, told(wantedSmall(w)), w)
			x, xOut := scale.Times(w[0], api.One/2)
			y, yOut := scale.Times(w[1], api.One/2)
			z, zOut := scale.Times(w[2], api.One/2)
			unit, out := quat.Unit(four{api.One, x, y, z})
			same(t, "Small", got, told(unit, xOut || yOut || zOut || out), w)
			if n, nOut := quat.Norm(got.all); n < one-2 || n > one+2 || nOut {
				t.Errorf("Norm of Small of %v = %d, %t; want nearly %d, false", w, n, nOut, one)
			}
		}
	}
}

func TestRotateTable(t *testing.T) {
	v := three{one, 2 * one, 3 * one}
	for _, x := range []struct {
		q       four
		v, want three
		out     bool
	}{
		{four{one, 0, 0, 0}, three{}, three{}, false}, {four{}, v, three{}, false}, {four{one, 0, 0, 0}, v, v, false}, {four{-one, 0, 0, 0}, v, v, false}, {four{one, 0, 0, 0}, three{lim, -lim, 1}, three{lim, -lim, 1}, false},
		{four{0, 0, 0, one}, three{one, 0, 0}, three{-one, 0, 0}, false},
		// Half a turn about each line.
		{four{0, one, 0, 0}, v, three{one, -2 * one, -3 * one}, false}, {four{0, 0, one, 0}, v, three{-one, 2 * one, -3 * one}, false}, {four{0, 0, 0, one}, v, three{-one, -2 * one, 3 * one}, false}, {four{0, -one, 0, 0}, v, three{one, -2 * one, -3 * one}, false}, {four{0, 0, 0, one}, three{lim, 1 - lim, lim}, three{-lim, lim - 1, lim}, false},
		// A third of a turn, about all three lines alike, and about others.
		{four{half, half, half, half}, v, three{3 * one, one, 2 * one}, false}, {four{half, -half, -half, -half}, v, three{2 * one, 3 * one, one}, false}, {four{-half, half, half, half}, v, three{2 * one, 3 * one, one}, false}, {four{half, half, half, -half}, v, three{2 * one, -3 * one, -one}, false}, {four{half, half, half, half}, three{lim / 2, -lim / 2, 6}, three{6, lim / 2, -lim / 2}, false},
		// Of another length than 1, it is longer by the length's square: a quarter of a turn about each line, and none.
		{four{one, one, 0, 0}, v, three{2 * one, -6 * one, 4 * one}, false}, {four{one, 0, one, 0}, v, three{6 * one, 4 * one, -2 * one}, false}, {four{one, 0, 0, one}, v, three{-4 * one, 2 * one, 6 * one}, false}, {four{one, 0, 0, -one}, v, three{4 * one, -2 * one, 6 * one}, false}, {four{2 * one, 0, 0, 0}, v, three{4 * one, 8 * one, 12 * one}, false}, {four{half, 0, 0, 0}, v, three{one / 4, half, one/2 + one/4}, false}, {four{one, one, one, one}, v, three{12 * one, 4 * one, 8 * one}, false},
		// Both products are rounded, one behind the other, and a half goes up.
		{four{half, 0, 0, 0}, three{1, -1, 3}, three{1, 0, 1}, false}, {four{half, 0, 0, 0}, three{-3, 5, -5}, three{0, 2, -1}, false}, {four{0, half, 0, 0}, three{1, -1, 3}, three{0, 0, 0}, false}, {four{0, half, 0, 0}, three{9, 9, -11}, three{2, -2, 3}, false}, {four{1, 1, 1, 1}, three{half, half, half}, three{0, 0, 0}, false},
		// By the first product alone: a number of x, y, z, its w, and numbers that Back, and a product with 0, would hide.
		{four{one, 0, 0, one}, three{lim, -lim, 0}, three{lim, lim, 0}, true}, {four{0, one, one, 0}, three{lim, lim, 0}, three{lim, lim, 0}, true}, {four{lim + 1, 0, 0, 0}, three{}, three{}, true}, {four{0, low, 0, 0}, three{}, three{}, true}, {four{0, 0, high, 0}, three{}, three{}, true}, {four{0, 0, 0, -lim - 1}, three{}, three{}, true}, {four{}, three{lim + 1, 0, 0}, three{}, true}, {four{}, three{0, low, 0}, three{}, true}, {four{}, three{0, 0, high}, three{}, true}, {four{half, 0, 0, 0}, three{0, high, 0}, three{0, lim / 4, 0}, true}, {four{0, 0, half, 0}, three{low, 4, 0}, three{lim / 4, 1, 0}, true},
		// By the second product alone, at each place and of both signs.
		{four{2 * one, 0, 0, 0}, three{lim / 2, 1, 2}, three{lim, 4, 8}, true}, {four{2 * one, 0, 0, 0}, three{1, -lim / 2, 2}, three{4, -lim, 8}, true}, {four{2 * one, 0, 0, 0}, three{1, 2, lim / 2}, three{4, 8, lim}, true}, {four{0, 2 * one, 0, 0}, three{1, 2, lim / 2}, three{4, -8, -lim}, true}, {four{2 * one, 0, 0, 0}, three{lim / 4, 0, -lim / 4}, three{lim, 0, -lim}, false}, {four{2 * one, 0, 0, 0}, three{lim/4 + 1, 0, 0}, three{lim, 0, 0}, true},
		// By both.
		{four{2 * one, 0, 0, 0}, three{lim, 0, 0}, three{lim, 0, 0}, true}, {four{lim, lim, lim, lim}, three{lim, lim, lim}, three{lim, lim, lim}, true},
	} {
		same(t, "Rotate", told(quat.Rotate(x.q, x.v)), told(x.want, x.out), x.q, x.v)
	}
}

// rotated is what the promise says of Mul and Back, with what each of both products tells.
func rotated(q four, v three) (turned three, first, second bool) {
	half, first := quat.Mul(q, four{0, v[0], v[1], v[2]})
	all, second := quat.Mul(half, quat.Back(q))
	return line(all), first, second
}

func TestRotateAll(t *testing.T) {
	var count [2][2]int
	pairs(func(p, q four) {
		v := line(q)
		got := told(quat.Rotate(p, v))
		same(t, "Rotate", got, told(wantedRotate(p, v)), p, v)
		turned, first, second := rotated(p, v)
		same(t, "Rotate", got, told(turned, first || second), p, v)
		i, j := 0, 0
		if first {
			i = 1
		}
		if second {
			j = 1
		}
		count[i][j]++
	})
	// All four cases are among them: none, the first alone, the second alone, both.
	if slices.Min([]int{count[0][0], count[0][1], count[1][0], count[1][1]}) < 20 {
		t.Errorf("of the cases of what both products tell there are only %v", count)
	}
}

// P9.4

func TestOneTurnsNothing(t *testing.T) {
	for _, q := range turns() {
		counted, out := values(q)
		same(t, "Mul of One and a turn", told(quat.Mul(quat.One(), q)), told(counted, out), q)
		same(t, "Mul of a turn and One", told(quat.Mul(q, quat.One())), told(counted, out), q)
		q[0] = 0
		counted, out = values(q)
		same(t, "Rotate by One", told(quat.Rotate(quat.One(), line(q))), told(line(counted), out), q)
	}
	sameTurn(t, "Back of One", quat.Back(quat.One()), quat.One())
	same(t, "Norm of One", told(quat.Norm(quat.One())), told(one, false))
	same(t, "Unit of One", told(quat.Unit(quat.One())), told(quat.One(), false))
}

// directions is three values each, short and long, that no turn of the length 1 brings to an end.
func directions() []three {
	all := []three{{}, {1, 0, 0}, {0, -1, 2}, {one, 0, 0}, {0, one, 0}, {0, 0, one}, {one, -2 * one, 3 * one}, {lim / 2, -lim / 2, lim / 2}}
	s := spread(3 * 64)
	for _, cut := range []uint{7, 16, 24, 32, 48} {
		for i := 0; i+3 <= len(s); i += 3 {
			all = append(all, three{s[i] >> cut, s[i+1] >> cut, s[i+2] >> cut})
		}
	}
	return all
}

// units is turns whose length is nearly 1: what Unit and Small make of turns that are long enough.
func units() []four {
	var all []four
	for _, q := range turns() {
		norm, _ := quat.Norm(q)
		unit, out := quat.Unit(q)
		if !out && norm >= one {
			all = append(all, unit)
		}
		if small, out := quat.Small(line(q)); !out {
			all = append(all, small)
		}
	}
	return all
}

// A length of 1 is wrong by 2 of 2^-32 at most; there and back it stands four times in each number, and each of the four products rounds the numbers by a half.
func TestThereAndBack(t *testing.T) {
	all := directions()
	for i, q := range units() {
		for _, far := range []int{0, 1, 5, 40, 99, 163, 222} {
			v := all[(i+far)%len(all)]
			there, out := quat.Rotate(q, v)
			back, backOut := quat.Rotate(quat.Back(q), there)
			length, _ := sum.Norm(v[:])
			most := 8*(length/one+1) + 4
			if out || backOut {
				t.Fatalf("Rotate of %v by %v, there and back, told %t, %t", v, q, out, backOut)
			}
			for k := range v {
				if d := back[k] - v[k]; d < -most || d > most {
					t.Errorf("Rotate of %v by %v, there and back = %v; want nearly as it was", v, q, back)
				}
			}
			if n, _ := sum.Norm(there[:]); n < length-most || n > length+most {
				t.Errorf("Rotate of %v by %v = %v, of the length %d; want nearly %d", v, q, there, n, length)
			}
		}
	}
}

// Turns without a rest bring each value back as it was.
func TestThereAndBackExactly(t *testing.T) {
	for place := range 4 {
		for _, n := range []int{one, -one} {
			q := at(place, n)
			for _, v := range directions() {
				there, out := quat.Rotate(q, v)
				back, backOut := quat.Rotate(quat.Back(q), there)
				if back != v || out || backOut {
					t.Errorf("Rotate of %v by %v, there and back = %v, %t, %t; want as it was, and false", v, q, back, out, backOut)
				}
			}
		}
	}
}

// A turn and the one back, one behind the other, turn nearly nothing.
func TestMulWithBack(t *testing.T) {
	for _, q := range units() {
		for _, p := range [][2]four{{q, quat.Back(q)}, {quat.Back(q), q}} {
			got, out := quat.Mul(p[0], p[1])
			for i, n := range quat.One() {
				if d := got[i] - n; d < -4 || d > 4 || out {
					t.Errorf("Mul of %v and %v = %v, %t; want nearly One", p[0], p[1], got, out)
				}
			}
		}
	}
}

// P1, and R3

// Of every four edges, each call ends, answers values, and changes nothing that was handed in.
func TestEveryFourEdges(t *testing.T) {
	e := []int{0, 1, -1, 3, half, -half, one, -one - half, lim, -lim, lim + 1, -lim - 1, low, high}
	check := func(q four) {
		p, v := four{q[3], q[0], q[1], q[2]}, line(q)
		pWas, qWas, vWas := p, q, v
		product, _ := quat.Mul(p, q)
		unit, _ := quat.Unit(q)
		small, _ := quat.Small(v)
		turned, _ := quat.Rotate(q, v)
		norm, _ := quat.Norm(q)
		for _, a := range []four{product, unit, small, quat.Back(q), {norm, turned[0], turned[1], turned[2]}} {
			if _, out := values(a); out {
				t.Fatalf("of %v and %v: %v is not of values", p, q, a)
			}
		}
		if p != pWas || q != qWas || v != vWas {
			t.Fatalf("%v, %v and %v were changed to %v, %v and %v", pWas, qWas, vWas, p, q, v)
		}
	}
	for _, w := range e {
		for _, x := range e {
			for _, y := range e {
				for _, z := range e {
					check(four{w, x, y, z})
				}
			}
		}
	}
	for _, q := range turns() {
		check(q)
	}
}

// What is answered is nobody else's: whoever writes on it changes no later answer.
func TestAnswerIsNew(t *testing.T) {
	q := quat.One()
	q[0], q[3] = 7, 8
	sameTurn(t, "One", quat.One(), four{one, 0, 0, 0}, "once more")
	p := four{one, 2 * one, 3 * one, 4 * one}
	for range 2 {
		product, _ := quat.Mul(p, p)
		sameTurn(t, "Mul", product, four{-28 * one, 4 * one, 6 * one, 8 * one}, p, p)
		unit, _ := quat.Unit(four{})
		sameTurn(t, "Unit", unit, four{one, 0, 0, 0}, four{})
		product[1], unit[0] = 1, 2
		quat.Back(p)
		quat.Rotate(p, line(p))
		sameTurn(t, "a turn that was handed in", p, four{one, 2 * one, 3 * one, 4 * one})
	}
}
