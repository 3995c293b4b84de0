package mat_test

import (
	"fmt"
	"math"
	"math/big"
	"slices"
	"testing"

	"outrigger/api"
	"outrigger/fix"
	"outrigger/mat"
	"outrigger/sum"
)

const (
	one  = api.One
	half = api.One / 2
	lim  = api.Lim
	low  = math.MinInt
	high = math.MaxInt
	most = api.MaxDim
)

type rows = [][]int

// around is numbers with their neighbours, of both signs; what goes beyond int wraps round.
func around(numbers ...int) []int {
	var all []int
	for _, n := range numbers {
		all = append(all, n-1, n, n+1, -n-1, -n, -n+1)
	}
	return all
}

// edges is numbers at which an answer changes its kind, alone or with others of them.
func edges() []int {
	all := around(0, 3, half, one, one+half, 1<<45, lim/2, lim, 2*lim, 1<<62)
	return append(all, low, low+1, high-1, high)
}

// spread is numbers of all sizes and both signs, the same ones at each run.
func spread(count int) []int {
	all := make([]int, 0, count)
	x := uint64(1)
	for i := range count {
		x ^= x << 13
		x ^= x >> 7
		x ^= x << 17
		all = append(all, int(x)>>(i%64))
	}
	return all
}

// made is the matrix of so many rows of what number tells of each row and column.
func made(size int, number func(i, j int) int) rows {
	a := make(rows, size)
	for i := range a {
		for j := range size {
			a[i] = append(a[i], number(i, j))
		}
	}
	return a
}

// full is a matrix of one number.
func full(size, n int) rows { return made(size, func(i, j int) int { return n }) }

// at is a matrix of zeros with n at one place.
func at(size, row, column, n int) rows {
	a := full(size, 0)
	a[row][column] = n
	return a
}

// from is the matrix of a list's numbers, row by row, from a place on, each cut down by so much.
func from(size int, l []int, first int, cut uint) rows {
	return made(size, func(i, j int) int { return l[(first+size*i+j)%len(l)] >> cut })
}

// matrices is matrices of so many rows of all kinds: of one number, of values alone and of numbers beyond them, of one size and of all.
func matrices(size int) []rows {
	all := []rows{full(size, 0), mat.One(size), made(size, func(i, j int) int { return (size*i + j - size) * one })}
	e := edges()
	for k, n := range e {
		all = append(all, full(size, n), at(size, k%size, k/size%size, n), from(size, e, k, 0))
	}
	s := spread(size * size * 11)
	// Cut down by so much, what was no value is one, or all of them are small.
	for _, cut := range []uint{0, 4, 5, 6, 16, 24, 32, 56} {
		for first := 0; first < len(s); first += size * size {
			all = append(all, from(size, s, first, cut))
		}
	}
	return all
}

// eachMatrix hands on matrices of all sizes.
func eachMatrix(f func(size int, a rows)) {
	for size := 1; size <= most; size++ {
		for _, a := range matrices(size) {
			f(size, a)
		}
	}
}

// pairs hands on each of the matrices of all sizes with others near and far.
func pairs(f func(size int, a, b rows)) {
	for size := 1; size <= most; size++ {
		all := matrices(size)
		for i, a := range all {
			for _, far := range []int{0, 1, 2, 5, 7, 64, 131, 190} {
				f(size, a, all[(i+far)%len(all)])
			}
		}
	}
}

// eachPlace hands on every row and column of every size.
func eachPlace(f func(size, i, j int)) {
	for size := 1; size <= most; size++ {
		for i := range size {
			for j := range size {
				f(size, i, j)
			}
		}
	}
}

// wrong is lists that are no matrix, each with what is wrong about it.
func wrong() map[string]rows {
	all := map[string]rows{
		"nil":                        nil,
		"no row":                     {},
		"seven rows":                 full(most+1, one),
		"sixty-four rows":            full(64, one),
		"rows by the thousand":       full(1000, 0),
		"seven rows of six":          slices.Repeat(rows{make([]int, most)}, most+1),
		"six rows of seven":          slices.Repeat(rows{make([]int, most+1)}, most),
		"one row of two":             {{1, 2}},
		"two rows of one":            {{1}, {2}},
		"rows by the thousand, nil":  make(rows, 1000),
		"one long row":               {make([]int, 1<<16)},
		"as many numbers, unlike":    {{1, 2, 3}, {4}},
		"as many numbers in one row": {{1, 2, 3, 4}, nil},
	}
	for size := 1; size <= most; size++ {
		all[fmt.Sprint("rows without a number, nil, ", size)] = make(rows, size)
		all[fmt.Sprint("rows without a number, ", size)] = slices.Repeat(rows{{}}, size)
		for i := range size {
			short, long, none := full(size, one), full(size, one), full(size, one)
			short[i] = short[i][:size-1]
			long[i] = append(long[i], one)
			none[i] = nil
			all[fmt.Sprint("a row too short, ", i, " of ", size)] = short
			all[fmt.Sprint("a row too long, ", i, " of ", size)] = long
			all[fmt.Sprint("a row that is nil, ", i, " of ", size)] = none
		}
	}
	return all
}

// What follows tells the document's words once more, by whole numbers without an end.

func number(n int) *big.Int { return big.NewInt(int64(n)) }

// clamp is what a number counts as, and whether that is another one.
func clamp(n *big.Int) (int, bool) {
	if n.CmpAbs(number(lim)) <= 0 {
		return int(n.Int64()), false
	}
	return n.Sign() * lim, true
}

// value is what a number counts as.
func value(n int) int {
	v, _ := clamp(number(n))
	return v
}

// beyond: is one of a list's numbers no value?
func beyond(l []int) bool {
	return slices.ContainsFunc(l, func(n int) bool { return value(n) != n })
}

// rounded is the greatest whole number that is no greater than n by d, which is above 0, and a half more.
func rounded(n, d *big.Int) *big.Int {
	twice := new(big.Int).Lsh(n, 1)
	// Of a divisor above 0, Div goes down.
	return twice.Div(twice.Add(twice, d), new(big.Int).Lsh(d, 1))
}

// values is the matrix of what each number counts as.
func values(a rows) rows {
	return made(len(a), func(i, j int) int { return value(a[i][j]) })
}

func wantedTurned(a rows) rows {
	return made(len(a), func(i, j int) int { return value(a[j][i]) })
}

func wantedAdd(a, b rows) (rows, bool) {
	clamped := slices.ContainsFunc(a, beyond) || slices.ContainsFunc(b, beyond)
	added := made(len(a), func(i, j int) int {
		n, out := clamp(new(big.Int).Add(number(value(a[i][j])), number(value(b[i][j]))))
		clamped = clamped || out
		return n
	})
	return added, clamped
}

// wantedDot is the rounded sum of products of so many numbers that x and y tell.
func wantedDot(count int, x, y func(k int) int) (int, bool) {
	all := new(big.Int)
	for k := range count {
		all.Add(all, new(big.Int).Mul(number(value(x(k))), number(value(y(k)))))
	}
	return clamp(rounded(all, number(one)))
}

func wantedMul(a, b rows) (rows, bool) {
	clamped := slices.ContainsFunc(a, beyond) || slices.ContainsFunc(b, beyond)
	product := made(len(a), func(i, j int) int {
		n, out := wantedDot(len(a), func(k int) int { return a[i][k] }, func(k int) int { return b[k][j] })
		clamped = clamped || out
		return n
	})
	return product, clamped
}

func wantedApply(a rows, v []int) ([]int, bool) {
	clamped := slices.ContainsFunc(a, beyond) || beyond(v)
	var all []int
	for i := range a {
		n, out := wantedDot(len(a), func(k int) int { return a[i][k] }, func(k int) int { return v[k] })
		all = append(all, n)
		clamped = clamped || out
	}
	return all, clamped
}

func wantedEven(a rows) rows {
	return made(len(a), func(i, j int) int {
		both := new(big.Int).Add(number(value(a[i][j])), number(value(a[j][i])))
		return int(rounded(both, number(2)).Int64())
	})
}

func equal(a, b rows) bool { return slices.EqualFunc(a, b, slices.Equal[[]int]) }

// clone is the same rows in other memory.
func clone(a rows) rows {
	all := slices.Clone(a)
	for i, row := range all {
		all[i] = slices.Clone(row)
	}
	return all
}

func same(t *testing.T, name string, got, want rows, of ...any) {
	t.Helper()
	if !equal(got, want) {
		t.Errorf("%s of %v = %v; want %v", name, of, got, want)
	}
}

func sameTold(t *testing.T, name string, got rows, out bool, want rows, wantOut bool, of ...any) {
	t.Helper()
	if !equal(got, want) || out != wantOut {
		t.Errorf("%s of %v = %v, %t; want %v, %t", name, of, got, out, want, wantOut)
	}
}

func sameList(t *testing.T, name string, got []int, out bool, want []int, wantOut bool, of ...any) {
	t.Helper()
	if !slices.Equal(got, want) || out != wantOut {
		t.Errorf("%s of %v = %v, %t; want %v, %t", name, of, got, out, want, wantOut)
	}
}

// P8.1

func TestSane(t *testing.T) {
	eachMatrix(func(size int, a rows) {
		if !mat.Sane(a) {
			t.Errorf("Sane of %v = false; want true", a)
		}
	})
	for name, a := range wrong() {
		if mat.Sane(a) {
			t.Errorf("Sane of %s = true; want false", name)
		}
	}
	// Numbers beyond the ends do not matter, nor that rows are one and the same, or part of longer lists.
	row := []int{low, high, lim + 1, 0}
	if a := (rows{row[:3], row[:3], row[1:]}); !mat.Sane(a) {
		t.Errorf("Sane of %v = false; want true", a)
	}
	if a := slices.Repeat(rows{{0}}, 3)[:1]; !mat.Sane(a) {
		t.Errorf("Sane of %v = false; want true", a)
	}
}

func TestOne(t *testing.T) {
	for size := 1; size <= most; size++ {
		want := full(size, 0)
		for i := range size {
			want[i][i] = one
		}
		same(t, "One", mat.One(size), want, size)
	}
	same(t, "One", mat.One(1), rows{{4294967296}}, 1)
	same(t, "One", mat.One(3), rows{{one, 0, 0}, {0, one, 0}, {0, 0, one}}, 3)
	for _, n := range []int{0, -1, -2, -6, -7, 7, 8, 64, 65, 1 << 31, 1 << 32, 1<<32 + 1, -1 << 32, lim, -lim, low, low + 1, low + 6, high, high - 1} {
		same(t, "One", mat.One(n), nil, n)
	}
}

func TestTurnedTable(t *testing.T) {
	for _, x := range []struct{ a, want rows }{
		{rows{{0}}, rows{{0}}}, {rows{{one}}, rows{{one}}}, {rows{{-1}}, rows{{-1}}}, {rows{{lim}}, rows{{lim}}}, {rows{{-lim}}, rows{{-lim}}}, {rows{{lim + 1}}, rows{{lim}}}, {rows{{-lim - 1}}, rows{{-lim}}}, {rows{{low}}, rows{{-lim}}}, {rows{{high}}, rows{{lim}}},
		{rows{{1, 2}, {3, 4}}, rows{{1, 3}, {2, 4}}},
		{rows{{one, -half}, {0, lim}}, rows{{one, 0}, {-half, lim}}},
		{rows{{low, lim + 1}, {-lim - 1, high}}, rows{{-lim, -lim}, {lim, lim}}},
		{rows{{1, lim + 1}, {7, 2}}, rows{{1, 7}, {lim, 2}}},
		{rows{{1, 2, 3}, {4, 5, 6}, {7, 8, 9}}, rows{{1, 4, 7}, {2, 5, 8}, {3, 6, 9}}},
		{rows{{0, low, 0}, {0, 0, 0}, {-1, high, 0}}, rows{{0, 0, -1}, {-lim, 0, lim}, {0, 0, 0}}},
	} {
		same(t, "Turned", mat.Turned(x.a), x.want, x.a)
	}
}

func TestTurnedAll(t *testing.T) {
	eachMatrix(func(size int, a rows) {
		turned := mat.Turned(a)
		same(t, "Turned", turned, wantedTurned(a), a)
		same(t, "Turned of Turned", mat.Turned(turned), values(a), a)
	})
}

// A number at each row and column goes to that column and row, as what it counts as, and to no other place.
func TestTurnedEachPlace(t *testing.T) {
	eachPlace(func(size, i, j int) {
		for _, n := range []int{1, -1, one, lim, -lim, lim + 1, -lim - 1, low, high} {
			same(t, "Turned", mat.Turned(at(size, i, j, n)), at(size, j, i, value(n)), i, j, n)
		}
	})
}

// P8.2

// told is two matrices, and what is wanted of them.
type told struct {
	a, b, want rows
	out        bool
}

func holds(t *testing.T, name string, call func(a, b rows) (rows, bool), table []told) {
	t.Helper()
	for _, x := range table {
		got, out := call(x.a, x.b)
		sameTold(t, name, got, out, x.want, x.out, x.a, x.b)
	}
}

func TestAddTable(t *testing.T) {
	holds(t, "Add", mat.Add, []told{
		{rows{{0}}, rows{{0}}, rows{{0}}, false},
		{rows{{1}}, rows{{-1}}, rows{{0}}, false},
		{rows{{one}}, rows{{half}}, rows{{one + half}}, false},
		{rows{{lim - 1}}, rows{{1}}, rows{{lim}}, false},
		{rows{{lim}}, rows{{-lim}}, rows{{0}}, false},
		{rows{{lim}}, rows{{1}}, rows{{lim}}, true},
		{rows{{-lim}}, rows{{-1}}, rows{{-lim}}, true},
		{rows{{lim + 1}}, rows{{-1}}, rows{{lim - 1}}, true},
		{rows{{1}}, rows{{-lim - 1}}, rows{{1 - lim}}, true},
		{rows{{low}}, rows{{lim}}, rows{{0}}, true},
		{rows{{low}}, rows{{high}}, rows{{0}}, true},
		{rows{{high}}, rows{{high}}, rows{{lim}}, true},
		{rows{{low}}, rows{{low}}, rows{{-lim}}, true},
		{rows{{1, 2}, {3, 4}}, rows{{10, 20}, {30, -40}}, rows{{11, 22}, {33, -36}}, false},
		{rows{{one, 2 * one}, {3 * one, 4 * one}}, rows{{0, one}, {-one, half}}, rows{{one, 3 * one}, {2 * one, 4*one + half}}, false},
		{rows{{1, 2}, {lim, 4}}, rows{{5, 6}, {7, 8}}, rows{{6, 8}, {lim, 12}}, true},
		{rows{{lim, -lim}, {lim, -lim}}, rows{{-lim, lim}, {0, 0}}, rows{{0, 0}, {lim, -lim}}, false},
		{rows{{1, 2, 3}, {4, 5, 6}, {7, 8, 9}}, rows{{9, 8, 7}, {6, 5, 4}, {3, 2, high}}, rows{{10, 10, 10}, {10, 10, 10}, {10, 10, lim}}, true},
	})
}

func TestMulTable(t *testing.T) {
	holds(t, "Mul", mat.Mul, []told{
		{rows{{0}}, rows{{0}}, rows{{0}}, false},
		{rows{{one}}, rows{{-one}}, rows{{-one}}, false},
		{rows{{half}}, rows{{half}}, rows{{half / 2}}, false},
		// A half goes up, of the sum and not of each product.
		{rows{{1}}, rows{{half}}, rows{{1}}, false},
		{rows{{1}}, rows{{half - 1}}, rows{{0}}, false},
		{rows{{-1}}, rows{{half}}, rows{{0}}, false},
		{rows{{-1}}, rows{{half + 1}}, rows{{-1}}, false},
		{rows{{1, 1}, {-1, -1}}, rows{{half, half}, {half, 0}}, rows{{1, 1}, {-1, 0}}, false},
		{rows{{1, 1}, {-1, -1}}, rows{{half / 2, half / 2}, {half / 2, half/2 + 1}}, rows{{1, 1}, {0, -1}}, false},
		// Both ways round it is not the same.
		{rows{{one, 2 * one}, {3 * one, 4 * one}}, rows{{0, one}, {-one, half}}, rows{{-2 * one, 2 * one}, {-4 * one, 5 * one}}, false},
		{rows{{0, one}, {-one, half}}, rows{{one, 2 * one}, {3 * one, 4 * one}}, rows{{3 * one, 4 * one}, {half, 0}}, false},
		{rows{{one, 2 * one, 3 * one}, {4 * one, 5 * one, 6 * one}, {7 * one, 8 * one, 9 * one}}, rows{{1, 2, 3}, {4, 5, 6}, {7, 8, 10}}, rows{{30, 36, 45}, {66, 81, 102}, {102, 126, 159}}, false},
		// By the result alone, and what comes back from beyond an end.
		{rows{{lim}}, rows{{one}}, rows{{lim}}, false},
		{rows{{lim}}, rows{{one + 1}}, rows{{lim}}, true},
		{rows{{lim}}, rows{{-one - 1}}, rows{{-lim}}, true},
		{rows{{lim}}, rows{{lim}}, rows{{lim}}, true},
		{rows{{-lim}}, rows{{lim}}, rows{{-lim}}, true},
		{rows{{lim, lim}, {0, 0}}, rows{{lim, lim}, {-lim, -lim}}, rows{{0, 0}, {0, 0}}, false},
		{rows{{lim, 1}, {0, 0}}, rows{{one, 0}, {half - 1, 0}}, rows{{lim, 0}, {0, 0}}, false},
		{rows{{lim, 1}, {0, 0}}, rows{{one, 0}, {half, 0}}, rows{{lim, 0}, {0, 0}}, true},
		{rows{{lim, lim}, {lim, -lim}}, rows{{one, 0}, {one, 0}}, rows{{lim, 0}, {0, 0}}, true},
		// By a number alone: it counts as the end that is nearest.
		{rows{{lim + 1}}, rows{{0}}, rows{{0}}, true},
		{rows{{0}}, rows{{-lim - 1}}, rows{{0}}, true},
		{rows{{high}}, rows{{half}}, rows{{lim / 2}}, true},
		{rows{{-half}}, rows{{low}}, rows{{lim / 2}}, true},
		{rows{{low, high}, {one, 0}}, rows{{one, 0}, {one, 0}}, rows{{0, 0}, {one, 0}}, true},
		{rows{{one, 0}, {0, half}}, rows{{one, low}, {high, one}}, rows{{one, -lim}, {lim / 2, half}}, true},
	})
	full6 := full(6, one)
	got, out := mat.Mul(full6, full6)
	sameTold(t, "Mul", got, out, full(6, 6*one), false, full6, full6)
}

func TestApplyTable(t *testing.T) {
	for _, x := range []struct {
		a       rows
		v, want []int
		out     bool
	}{
		{rows{{0}}, []int{0}, []int{0}, false},
		{rows{{one}}, []int{-5}, []int{-5}, false},
		{rows{{2 * one}}, []int{-half}, []int{-one}, false},
		{rows{{1}}, []int{half}, []int{1}, false},
		{rows{{1}}, []int{half - 1}, []int{0}, false},
		{rows{{-1}}, []int{half}, []int{0}, false},
		{rows{{-1}}, []int{half + 1}, []int{-1}, false},
		{rows{{one, 2 * one}, {3 * one, 4 * one}}, []int{one, -one}, []int{-one, -one}, false},
		{rows{{one, 2 * one}, {3 * one, 4 * one}}, []int{10, 1}, []int{12, 34}, false},
		{rows{{1, 1}, {1, -1}}, []int{half, half}, []int{1, 0}, false},
		{rows{{lim, lim}, {0, one}}, []int{lim, -lim}, []int{0, -lim}, false},
		{rows{{one, 0, 0}, {0, 0, one}, {0, one, 0}}, []int{lim, 7, -lim}, []int{lim, -lim, 7}, false},
		// By the result alone, in either row.
		{rows{{one + 1, 0}, {one, 0}}, []int{lim, 0}, []int{lim, lim}, true},
		{rows{{one, 0}, {-one - 1, 0}}, []int{lim, 0}, []int{lim, -lim}, true},
		{rows{{lim}}, []int{lim}, []int{lim}, true},
		// By a number alone.
		{rows{{lim + 1, 0}, {0, 0}}, []int{0, 0}, []int{0, 0}, true},
		{rows{{0, 0}, {0, -lim - 1}}, []int{0, half}, []int{0, -lim / 2}, true},
		{rows{{0, 0}, {0, 0}}, []int{0, high}, []int{0, 0}, true},
		{rows{{half, 0}, {0, half}}, []int{low, 2}, []int{-lim / 2, 1}, true},
		{rows{{low, high}, {high, low}}, []int{one, one}, []int{0, 0}, true},
	} {
		got, out := mat.Apply(x.a, x.v)
		sameList(t, "Apply", got, out, x.want, x.out, x.a, x.v)
	}
}

func TestAddAll(t *testing.T) {
	pairs(func(size int, a, b rows) {
		got, out := mat.Add(a, b)
		want, wantOut := wantedAdd(a, b)
		sameTold(t, "Add", got, out, want, wantOut, a, b)
		got, out = mat.Add(b, a)
		sameTold(t, "Add", got, out, want, wantOut, b, a)
	})
}

func TestMulAll(t *testing.T) {
	pairs(func(size int, a, b rows) {
		got, out := mat.Mul(a, b)
		want, wantOut := wantedMul(a, b)
		sameTold(t, "Mul", got, out, want, wantOut, a, b)
	})
}

func TestApplyAll(t *testing.T) {
	pairs(func(size int, a, b rows) {
		for _, v := range b {
			got, out := mat.Apply(a, v)
			want, wantOut := wantedApply(a, v)
			sameList(t, "Apply", got, out, want, wantOut, a, v)
		}
	})
}

// column is one column of a matrix.
func column(a rows, j int) []int {
	var all []int
	for _, row := range a {
		all = append(all, row[j])
	}
	return all
}

// Each call is what the promise says of the lower layers' calls, number by number.
func TestSaidByLowerLayers(t *testing.T) {
	pairs(func(size int, a, b rows) {
		addOut, mulOut, applyOut := false, false, false
		added := made(size, func(i, j int) int {
			n, out := fix.Add(a[i][j], b[i][j])
			addOut = addOut || out
			return n
		})
		product := made(size, func(i, j int) int {
			n, out := sum.Dot(a[i], column(b, j))
			mulOut = mulOut || out
			return n
		})
		var applied []int
		for i := range size {
			n, out := sum.Dot(a[i], b[0])
			applied = append(applied, n)
			applyOut = applyOut || out
		}
		even := made(size, func(i, j int) int {
			n, _ := sum.Mean([]int{a[i][j], a[j][i]})
			return n
		})
		got, out := mat.Add(a, b)
		sameTold(t, "Add", got, out, added, addOut, a, b)
		got, out = mat.Mul(a, b)
		sameTold(t, "Mul", got, out, product, mulOut, a, b)
		list, out := mat.Apply(a, b[0])
		sameList(t, "Apply", list, out, applied, applyOut, a, b[0])
		same(t, "Even", mat.Even(a), even, a)
	})
}

// A product with a matrix is the product with each of its columns.
func TestMulIsApplyByColumns(t *testing.T) {
	pairs(func(size int, a, b rows) {
		got, out := mat.Mul(a, b)
		clamped := false
		want := full(size, 0)
		for j := range size {
			v, vOut := mat.Apply(a, column(b, j))
			clamped = clamped || vOut
			for i, n := range v {
				want[i][j] = n
			}
		}
		sameTold(t, "Mul", got, out, want, clamped, a, b)
	})
}

// One number that is no value is told at whichever row and column it stands, in each argument, where all results are values; and a value there is not.
func TestToldByNumberAlone(t *testing.T) {
	eachPlace(func(size, i, j int) {
		none := full(size, 0)
		for _, n := range []int{0, one, lim, -lim, lim + 1, -lim - 1, low, high} {
			a, out := at(size, i, j, n), n < -lim || n > lim
			want := at(size, i, j, value(n))
			got, gotOut := mat.Add(a, none)
			sameTold(t, "Add", got, gotOut, want, out, a, none)
			got, gotOut = mat.Add(none, a)
			sameTold(t, "Add", got, gotOut, want, out, none, a)
			got, gotOut = mat.Mul(a, none)
			sameTold(t, "Mul", got, gotOut, none, out, a, none)
			got, gotOut = mat.Mul(none, a)
			sameTold(t, "Mul", got, gotOut, none, out, none, a)
			zeros := make([]int, size)
			list, listOut := mat.Apply(a, zeros)
			sameList(t, "Apply", list, listOut, zeros, out, a, zeros)
			list, listOut = mat.Apply(none, a[i])
			sameList(t, "Apply", list, listOut, zeros, out, none, a[i])
		}
	})
}

// One result that is beyond an end is told at whichever row and column it stands, where all numbers are values; and a result at an end is not.
func TestToldByResultAlone(t *testing.T) {
	eachPlace(func(size, i, j int) {
		for _, end := range []int{lim, -lim} {
			a, want := at(size, i, j, end), at(size, i, j, end)
			got, out := mat.Add(a, at(size, i, j, end/lim))
			sameTold(t, "Add", got, out, want, true, i, j, size)
			got, out = mat.Add(at(size, i, j, end-end/lim), at(size, i, j, end/lim))
			sameTold(t, "Add", got, out, want, false, i, j, size)
			for k := range size {
				b := at(size, i, k, end)
				got, out = mat.Mul(b, at(size, k, j, one))
				sameTold(t, "Mul", got, out, want, false, i, j, k, size)
				got, out = mat.Mul(b, at(size, k, j, one+1))
				sameTold(t, "Mul", got, out, want, true, i, j, k, size)
			}
			line := make([]int, size)
			line[i] = end
			v := make([]int, size)
			v[j] = one
			list, out := mat.Apply(a, v)
			sameList(t, "Apply", list, out, line, false, a, v)
			v[j] = one + 1
			list, out = mat.Apply(a, v)
			sameList(t, "Apply", list, out, line, true, a, v)
		}
	})
}

// Of matrices of unlike sizes, and of a column that is too short or too long, there is nothing, and that is told.
func TestUnlikeSizes(t *testing.T) {
	for size := 1; size <= most; size++ {
		for other := 1; other <= most; other++ {
			a, b := mat.One(size), full(other, one)
			_, addOut := mat.Add(a, b)
			_, mulOut := mat.Mul(a, b)
			if unlike := size != other; addOut != unlike || mulOut != unlike {
				t.Errorf("of %d and %d rows: Add tells %t, Mul %t; want %t", size, other, addOut, mulOut, unlike)
			}
			if size == other {
				continue
			}
			got, out := mat.Add(a, b)
			sameTold(t, "Add", got, out, nil, true, a, b)
			got, out = mat.Mul(a, b)
			sameTold(t, "Mul", got, out, nil, true, a, b)
		}
		a := mat.One(size)
		for _, length := range []int{0, 1, 2, 3, 4, 5, 6, 7, 8, 63, 64, 65, 1 << 16} {
			v := make([]int, length)
			list, out := mat.Apply(a, v)
			if length == size {
				sameList(t, "Apply", list, out, v, false, a, length)
			} else {
				sameList(t, "Apply", list, out, nil, true, a, length)
			}
		}
		list, out := mat.Apply(a, nil)
		sameList(t, "Apply", list, out, nil, true, a, "nil")
	}
}

// What is no matrix counts as the one with no row, in each call and at each place of its arguments.
func TestNoMatrix(t *testing.T) {
	all := wrong()
	for name, a := range all {
		same(t, "Turned", mat.Turned(a), nil, name)
		same(t, "Even", mat.Even(a), nil, name)
		got, out := mat.Add(a, a)
		sameTold(t, "Add", got, out, nil, true, name, "twice")
		got, out = mat.Mul(a, a)
		sameTold(t, "Mul", got, out, nil, true, name, "twice")
		for other, b := range all {
			got, out = mat.Add(a, b)
			sameTold(t, "Add", got, out, nil, true, name, other)
			got, out = mat.Mul(a, b)
			sameTold(t, "Mul", got, out, nil, true, name, other)
		}
		for size := 1; size <= most; size++ {
			b := mat.One(size)
			got, out = mat.Add(a, b)
			sameTold(t, "Add", got, out, nil, true, name, b)
			got, out = mat.Add(b, a)
			sameTold(t, "Add", got, out, nil, true, b, name)
			got, out = mat.Mul(a, b)
			sameTold(t, "Mul", got, out, nil, true, name, b)
			got, out = mat.Mul(b, a)
			sameTold(t, "Mul", got, out, nil, true, b, name)
		}
		for length := range 9 {
			list, out := mat.Apply(a, make([]int, length))
			sameList(t, "Apply", list, out, nil, true, name, length)
		}
		list, out := mat.Apply(a, make([]int, len(a)))
		sameList(t, "Apply", list, out, nil, true, name, len(a))
		list, out = mat.Apply(a, nil)
		sameList(t, "Apply", list, out, nil, true, name, "nil")
	}
}

// P8.3

func TestEvenTable(t *testing.T) {
	for _, x := range []struct{ a, want rows }{
		{rows{{0}}, rows{{0}}}, {rows{{1}}, rows{{1}}}, {rows{{-1}}, rows{{-1}}}, {rows{{-one}}, rows{{-one}}}, {rows{{lim}}, rows{{lim}}}, {rows{{-lim}}, rows{{-lim}}}, {rows{{lim + 1}}, rows{{lim}}}, {rows{{-lim - 1}}, rows{{-lim}}}, {rows{{low}}, rows{{-lim}}}, {rows{{high}}, rows{{lim}}},
		{rows{{1, 2}, {5, -7}}, rows{{1, 4}, {4, -7}}},
		{rows{{0, one}, {-one, 0}}, rows{{0, 0}, {0, 0}}},
		// The two differ by an odd number: a half goes up, of both signs and both ways round.
		{rows{{0, 1}, {0, 0}}, rows{{0, 1}, {1, 0}}},
		{rows{{0, 0}, {1, 0}}, rows{{0, 1}, {1, 0}}},
		{rows{{0, -1}, {0, 0}}, rows{{0, 0}, {0, 0}}},
		{rows{{0, 0}, {-1, 0}}, rows{{0, 0}, {0, 0}}},
		{rows{{0, -1}, {-2, 0}}, rows{{0, -1}, {-1, 0}}},
		{rows{{0, -3}, {0, 0}}, rows{{0, -1}, {-1, 0}}},
		{rows{{0, 2}, {-5, 0}}, rows{{0, -1}, {-1, 0}}},
		{rows{{0, -2}, {5, 0}}, rows{{0, 2}, {2, 0}}},
		{rows{{0, lim}, {lim - 1, 0}}, rows{{0, lim}, {lim, 0}}},
		{rows{{0, -lim}, {1 - lim, 0}}, rows{{0, 1 - lim}, {1 - lim, 0}}},
		{rows{{0, lim}, {1 - lim, 0}}, rows{{0, 1}, {1, 0}}},
		{rows{{0, lim - 1}, {-lim, 0}}, rows{{0, 0}, {0, 0}}},
		// Sums beyond the ends are not clamped, numbers beyond them are, ahead of the mean.
		{rows{{lim, lim}, {lim, -lim}}, rows{{lim, lim}, {lim, -lim}}},
		{rows{{0, lim}, {0, 0}}, rows{{0, lim / 2}, {lim / 2, 0}}},
		{rows{{0, lim + 1}, {lim - 2, 0}}, rows{{0, lim - 1}, {lim - 1, 0}}},
		{rows{{0, high}, {0, 0}}, rows{{0, lim / 2}, {lim / 2, 0}}},
		{rows{{0, high}, {low, 0}}, rows{{0, 0}, {0, 0}}},
		{rows{{low, high}, {1 - lim, high}}, rows{{-lim, 1}, {1, lim}}},
		{rows{{1, 2, 3}, {4, 5, 6}, {8, 9, low}}, rows{{1, 3, 6}, {3, 5, 8}, {6, 8, -lim}}},
	} {
		same(t, "Even", mat.Even(x.a), x.want, x.a)
	}
}

func TestEvenAll(t *testing.T) {
	eachMatrix(func(size int, a rows) {
		same(t, "Even", mat.Even(a), wantedEven(a), a)
	})
}

// At each two places that change with each other, two numbers whose difference is odd or even, of both signs.
func TestEvenEachPlace(t *testing.T) {
	eachPlace(func(size, i, j int) {
		for _, first := range []int{0, 1, -1, half, -one, lim, -lim, lim + 1, low, high} {
			for _, second := range []int{0, 1, -1, 2, -2, 3, -3, lim, -lim, low, high} {
				a := at(size, i, j, first)
				a[j][i] = second
				same(t, "Even", mat.Even(a), wantedEven(a), a)
			}
		}
	})
}

// P8.4

func TestEvenIsItsOwnTurned(t *testing.T) {
	eachMatrix(func(size int, a rows) {
		even := mat.Even(a)
		same(t, "Turned of Even", mat.Turned(even), even, a)
		same(t, "Even of Even", mat.Even(even), even, a)
		same(t, "Even of Turned", mat.Even(mat.Turned(a)), even, a)
	})
}

func TestOneChangesNothing(t *testing.T) {
	eachMatrix(func(size int, a rows) {
		want, clamped := values(a), slices.ContainsFunc(a, beyond)
		got, out := mat.Mul(mat.One(size), a)
		sameTold(t, "Mul of One", got, out, want, clamped, a)
		got, out = mat.Mul(a, mat.One(size))
		sameTold(t, "Mul by One", got, out, want, clamped, a)
		for i, v := range a {
			list, listOut := mat.Apply(mat.One(size), v)
			sameList(t, "Apply of One", list, listOut, want[i], beyond(v), v)
		}
	})
	for size := range most + 2 {
		same(t, "Turned of One", mat.Turned(mat.One(size)), mat.One(size), size)
		same(t, "Even of One", mat.Even(mat.One(size)), mat.One(size), size)
	}
}

// P1, and R3

// answers is all that the calls answer of two lists of rows and a list.
func answers(a, b rows, v []int) []rows {
	added, _ := mat.Add(a, b)
	product, _ := mat.Mul(a, b)
	applied, _ := mat.Apply(a, v)
	return []rows{added, product, {applied}, mat.Turned(a), mat.Even(a), mat.One(len(a))}
}

// Of all kinds of lists, each call ends, answers values, and changes nothing that was handed in.
func TestUnchanged(t *testing.T) {
	check := func(a, b rows, v []int) {
		aWas, bWas, vWas := clone(a), clone(b), slices.Clone(v)
		mat.Sane(a)
		for k, answer := range answers(a, b, v) {
			if slices.ContainsFunc(answer, beyond) {
				t.Errorf("answer %d of %v, %v and %v is %v: not of values", k, a, b, v, answer)
			}
		}
		if !equal(a, aWas) || !equal(b, bWas) || !slices.Equal(v, vWas) {
			t.Errorf("%v, %v and %v were changed to %v, %v and %v", aWas, bWas, vWas, a, b, v)
		}
	}
	pairs(func(size int, a, b rows) {
		check(a, b, b[size-1])
		check(a, a, a[0])
	})
	for _, a := range wrong() {
		for size := 1; size <= most; size++ {
			check(a, full(size, high), []int{low})
			check(full(size, low), a, []int{high, 1})
		}
	}
}

// What is answered has memory of its own: whoever writes on it, or lays more behind a row, changes neither what was handed in nor another row.
func TestAnswerIsNew(t *testing.T) {
	for size := 1; size <= most; size++ {
		a := made(size, func(i, j int) int { return (size*i+j)*one + 1 })
		b := made(size, func(i, j int) int { return (i-j)*one - 1 })
		v := slices.Clone(b[0])
		aWas, bWas, vWas := clone(a), clone(b), slices.Clone(v)
		wanted := answers(clone(a), clone(b), slices.Clone(v))
		for k, answer := range answers(a, b, v) {
			for i, row := range answer {
				for j := range row {
					row[j] = -7
				}
				_ = append(row, -8)
				for other := i + 1; other < len(answer); other++ {
					if !slices.Equal(answer[other], wanted[k][other]) {
						t.Errorf("answer %d of %d rows: row %d shares memory with row %d", k, size, i, other)
					}
				}
			}
		}
		if !equal(a, aWas) || !equal(b, bWas) || !slices.Equal(v, vWas) {
			t.Errorf("of %d rows: an answer shares memory with what was handed in", size)
		}
		for k, answer := range answers(a, b, v) {
			same(t, fmt.Sprint("answer ", k), answer, wanted[k], size, "rows, once more")
		}
	}
}

// Rows that are one and the same list, and numbers behind a row's end, are as good as others.
func TestRowsThatShare(t *testing.T) {
	line := []int{one, 2 * one, -3 * one, lim + 1, low}
	for size := 1; size <= 3; size++ {
		a := slices.Repeat(rows{line[:size]}, size)
		b := clone(a)
		first, second := answers(a, a, a[0]), answers(b, clone(a), slices.Clone(a[0]))
		for k := range first {
			same(t, fmt.Sprint("answer ", k), first[k], second[k], a)
		}
		if _, out := mat.Mul(a, a); out {
			t.Errorf("Mul of %v told a number behind a row's end", a)
		}
	}
	if !slices.Equal(line, []int{one, 2 * one, -3 * one, lim + 1, low}) {
		t.Errorf("a list that was handed in was changed to %v", line)
	}
}
