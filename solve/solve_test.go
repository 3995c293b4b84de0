package solve_test

import (
	"fmt"
	"maps"
	"math"
	"math/big"
	"slices"
	"testing"

	"outrigger/api"
	"outrigger/fix"
	"outrigger/mat"
	"outrigger/scale"
	"outrigger/solve"
)

const (
	one  = api.One
	half = api.One / 2
	lim  = api.Lim
	low  = math.MinInt
	high = math.MaxInt
	most = api.MaxDim
)

type rows = [][]int

// around is numbers with their neighbours, of both signs; what goes beyond int wraps round.
func around(numbers ...int) []int {
	var all []int
	for _, n := range numbers {
		all = append(all, n-1, n, n+1, -n-1, -n, -n+1)
	}
	return all
}

// edges is numbers at which an answer changes its kind, alone or with others of them.
func edges() []int {
	all := around(0, 3, half, one, one+half, 1<<45, lim/2, lim, 2*lim, 1<<62)
	return append(all, low, low+1, high-1, high)
}

// noValues is numbers that are no values, at both ends.
func noValues() []int { return []int{lim + 1, -lim - 1, 2 * lim, low, low + 1, high - 1, high} }

// spread is numbers of all sizes and both signs, the same ones at each run.
func spread(count int) []int {
	all := make([]int, 0, count)
	x := uint64(1)
	for i := range count {
		x ^= x << 13
		x ^= x >> 7
		x ^= x << 17
		all = append(all, int(x)>>(i%64))
	}
	return all
}

// mixed is numbers of at most so many binary places, of both signs, the same ones for each seed.
func mixed(seed int, places uint) func() int {
	x := uint64(seed)*0x9e3779b97f4a7c15 + 1
	return func() int {
		x ^= x << 13
		x ^= x >> 7
		x ^= x << 17
		return int(x) >> (63 - places)
	}
}

// made is the matrix of so many rows of what number tells of each row and column.
func made(size int, number func(i, j int) int) rows {
	a := make(rows, size)
	for i := range a {
		for j := range size {
			a[i] = append(a[i], number(i, j))
		}
	}
	return a
}

// full is a matrix of one number.
func full(size, n int) rows { return made(size, func(i, j int) int { return n }) }

// sloped is the matrix whose L is all ones, with a D of ones: a number is 1 more than the lesser one of its row and column.
func sloped(size int) rows { return made(size, func(i, j int) int { return (min(i, j) + 1) * one }) }

// with is the same matrix, but for n at one place.
func with(a rows, i, j, n int) rows {
	b := clone(a)
	b[i][j] = n
	return b
}

// listWith is the same list, but for n at one place.
func listWith(l []int, i, n int) []int {
	m := slices.Clone(l)
	m[i] = n
	return m
}

// lower is the same matrix with other numbers above its lower half, one behind the other.
func lower(a rows, others ...int) rows {
	b := clone(a)
	place := 0
	for i, row := range b {
		for j := i + 1; j < len(row); j++ {
			row[j] = others[place%len(others)]
			place++
		}
	}
	return b
}

// clone is the same rows in other memory.
func clone(a rows) rows {
	all := slices.Clone(a)
	for i, row := range all {
		all[i] = slices.Clone(row)
	}
	return all
}

func equal(a, b rows) bool { return slices.EqualFunc(a, b, slices.Equal[[]int]) }

// wrong is lists that are no matrix, each with what is wrong about it.
func wrong() map[string]rows {
	all := map[string]rows{
		"nil":                        nil,
		"no row":                     {},
		"seven rows":                 sloped(most + 1),
		"sixty-four rows":            sloped(64),
		"rows by the thousand":       make(rows, 1000),
		"seven rows of six":          sloped(most + 1),
		"six rows of seven":          sloped(most + 1)[:most],
		"one row of two":             {{one, one}},
		"two rows of one":            {{one}, {one}},
		"rows of one, two and three": {{one}, {one, 2 * one}, {one, 2 * one, 3 * one}},
		"one long row":               {make([]int, 1<<16)},
		"four numbers in one row":    {{one, one, one, 2 * one}, nil},
	}
	for i, row := range all["seven rows of six"] {
		all["seven rows of six"][i] = row[:most]
	}
	for size := 1; size <= most; size++ {
		all[fmt.Sprint("rows that are nil, ", size)] = make(rows, size)
		all[fmt.Sprint("rows without a number, ", size)] = slices.Repeat(rows{{}}, size)
		all[fmt.Sprint("lower half alone, ", size+1)] = halved(sloped(size + 1))
		for i := range size {
			short, long, none := sloped(size), sloped(size), sloped(size)
			short[i] = short[i][:size-1]
			long[i] = append(long[i], one)
			none[i] = nil
			all[fmt.Sprint("a row too short, ", i, " of ", size)] = short
			all[fmt.Sprint("a row too long, ", i, " of ", size)] = long
			all[fmt.Sprint("a row that is nil, ", i, " of ", size)] = none
			all[fmt.Sprint("a row too few, without ", i, " of ", size)] = slices.Delete(sloped(size), i, i+1)
		}
	}
	return all
}

// halved is a matrix's rows cut to its lower half.
func halved(a rows) rows {
	for i := range a {
		a[i] = a[i][:i+1]
	}
	return a
}

// What follows tells the document's words once more, by whole numbers without an end.

func number(n int) *big.Int { return big.NewInt(int64(n)) }

func product(numbers ...int) *big.Int {
	all := number(1)
	for _, n := range numbers {
		all.Mul(all, number(n))
	}
	return all
}

// rounded is the greatest whole number that is no greater than n by d, and a half more.
func rounded(n, d *big.Int) *big.Int {
	twice := new(big.Int).Lsh(n, 1)
	below := new(big.Int).Lsh(d, 1)
	twice.Add(twice, d)
	if d.Sign() < 0 {
		twice.Neg(twice)
		below.Neg(below)
	}
	// Of a divisor above 0, Div goes down.
	return twice.Div(twice, below)
}

// reasons is why there is nothing, each with how often it was told.
type reasons map[string]int

// value is what a number counts as; it is a reason if that is another one.
func (r reasons) value(why string, n *big.Int) int {
	if n.CmpAbs(number(lim)) <= 0 {
		return int(n.Int64())
	}
	r[why]++
	return n.Sign() * lim
}

func (r reasons) less(why string, a, b int) int {
	return r.value(why, new(big.Int).Sub(number(a), number(b)))
}

func (r reasons) times(why string, a, b int) int {
	return r.value(why, rounded(product(a, b), number(one)))
}

func (r reasons) over(why string, a, b int) int {
	if b == 0 {
		r[why]++
		return number(a).Sign() * lim
	}
	return r.value(why, rounded(product(a, one), number(b)))
}

// alone: is this the one reason?
func (r reasons) alone(why string) bool { return maps.Equal(r, reasons{why: 1}) }

// wantedFactor goes on to the end, whatever was told, so that all reasons are counted.
func wantedFactor(a rows) (rows, []int, reasons) {
	why := reasons{}
	size := len(a)
	values := made(size, func(i, j int) int {
		if j > i {
			return 0
		}
		return why.value("number of a", number(a[i][j]))
	})
	l := full(size, 0)
	d := make([]int, size)
	left := func(i, j int, kind string) int {
		n := values[i][j]
		for k := range j {
			part := why.times("product of L with L"+kind, l[i][k], l[j][k])
			part = why.times("product with D"+kind, part, d[k])
			n = why.less("difference"+kind, n, part)
		}
		return n
	}
	for j := range size {
		d[j] = left(j, j, " for D")
		if d[j] < 1 {
			why["below 1"]++
		}
		l[j][j] = 4294967296
		for i := j + 1; i < size; i++ {
			l[i][j] = why.over("quotient for L", left(i, j, " for L"), d[j])
		}
	}
	return l, d, why
}

// wantedSolve is for lists of as many numbers as a has rows.
func wantedSolve(a rows, b []int) ([]int, reasons) {
	l, d, why := wantedFactor(a)
	size := len(a)
	y, z, x := make([]int, size), make([]int, size), make([]int, size)
	for i := range size {
		y[i] = why.value("number of b", number(b[i]))
		for k := range i {
			y[i] = why.less("difference down", y[i], why.times("product down", l[i][k], y[k]))
		}
		z[i] = why.over("quotient for z", y[i], d[i])
	}
	for i := range slices.Backward(x) {
		x[i] = z[i]
		for k := i + 1; k < size; k++ {
			x[i] = why.less("difference up", x[i], why.times("product up", l[k][i], x[k]))
		}
	}
	return x, why
}

// sameFactors holds what Factor answers of a against a matrix and a list, or against nothing if both are nil.
func sameFactors(t *testing.T, a, l rows, d []int) {
	t.Helper()
	was := clone(a)
	gotL, gotD, ok := solve.Factor(a)
	if !equal(gotL, l) || !slices.Equal(gotD, d) || ok != (d != nil) {
		t.Errorf("Factor of %v = %v, %v, %t; want %v, %v, %t", a, gotL, gotD, ok, l, d, d != nil)
	}
	if !equal(a, was) {
		t.Errorf("Factor changed %v to %v", was, a)
	}
}

// sameSolved holds what Solve answers of a and b against a list, or against nothing if that is nil.
func sameSolved(t *testing.T, a rows, b, x []int) {
	t.Helper()
	was, bWas := clone(a), slices.Clone(b)
	got, ok := solve.Solve(a, b)
	if !slices.Equal(got, x) || ok != (x != nil) {
		t.Errorf("Solve of %v and %v = %v, %t; want %v, %t", a, b, got, ok, x, x != nil)
	}
	if !equal(a, was) || !slices.Equal(b, bWas) {
		t.Errorf("Solve changed %v and %v to %v and %v", was, bWas, a, b)
	}
}

// checkFactor holds Factor against the words, and gives back why there is nothing.
func checkFactor(t *testing.T, a rows) reasons {
	t.Helper()
	l, d, why := wantedFactor(a)
	if len(why) > 0 {
		l, d = nil, nil
	}
	sameFactors(t, a, l, d)
	return why
}

// checkSolve holds Solve against the words, and gives back why there is nothing.
func checkSolve(t *testing.T, a rows, b []int) reasons {
	t.Helper()
	x, why := wantedSolve(a, b)
	if len(why) > 0 {
		x = nil
	}
	sameSolved(t, a, b, x)
	return why
}

// factorAlone holds that there is nothing of a, for this one reason.
func factorAlone(t *testing.T, why string, a rows) {
	t.Helper()
	sameFactors(t, a, nil, nil)
	if got := checkFactor(t, a); !got.alone(why) {
		t.Errorf("%v has the reasons %v; want %s alone", a, got, why)
	}
}

// solveAlone holds that there is nothing of a and b, for this one reason, and that of a alone there is something.
func solveAlone(t *testing.T, why string, a rows, b []int) {
	t.Helper()
	sameSolved(t, a, b, nil)
	if got := checkSolve(t, a, b); !got.alone(why) {
		t.Errorf("%v and %v have the reasons %v; want %s alone", a, b, got, why)
	}
	if _, _, ok := solve.Factor(a); !ok {
		t.Errorf("of %v there are no factors", a)
	}
}

// evenOf is the product of L, D and L turned, where L tells its numbers below the diagonal and D its numbers, one by one; above its lower half are others.
func evenOf(size int, ofL, ofD func() int) rows {
	l, d := mat.One(size), make([]int, size)
	for j := range size {
		d[j] = ofD()
		for i := j + 1; i < size; i++ {
			l[i][j] = ofL()
		}
	}
	all := made(size, func(i, j int) int {
		sum := new(big.Int)
		for k := range size {
			sum.Add(sum, product(l[i][k], l[j][k], d[k]))
		}
		return int(rounded(sum, product(one, one)).Int64())
	})
	return lower(all, low, 0, high, one, -lim, lim+1)
}

// evens is matrices of so many rows that have factors, of numbers of all sizes, and some beside them that have none.
func evens(size int) []rows {
	all := []rows{mat.One(size), sloped(size), full(size, one), full(size, 1), full(size, lim)}
	for seed := range 40 {
		for _, x := range []struct{ l, d uint }{{32, 32}, {20, 50}, {32, 55}, {33, 20}, {40, 38}, {16, 57}, {31, 57}, {36, 6}, {5, 2}} {
			ofD := mixed(seed+1, x.d)
			all = append(all, evenOf(size, mixed(seed+1000, x.l), func() int { return 1 + fix.Abs(ofD()) }))
		}
	}
	return all
}

// others is matrices of so many rows of all kinds, most of them without factors.
func others(size int) []rows {
	var all []rows
	e := edges()
	for k, n := range e {
		all = append(all, full(size, n))
		all = append(all, made(size, func(i, j int) int { return e[(k+7*i+13*j)%len(e)] }))
		for place := range size {
			all = append(all, with(mat.One(size), place, (place+k)%size, n), with(sloped(size), place, (place+k)%size, n))
		}
	}
	s := spread(size * size * 11)
	for _, cut := range []uint{0, 4, 5, 6, 16, 24, 32, 56} {
		for first := 0; first < len(s); first += size * size {
			all = append(all, made(size, func(i, j int) int { return s[first+size*i+j] >> cut }))
		}
	}
	return all
}

// eachMatrix hands on matrices of all sizes and kinds.
func eachMatrix(f func(size int, a rows)) {
	for size := 1; size <= most; size++ {
		for _, a := range slices.Concat(evens(size), others(size)) {
			f(size, a)
		}
	}
}

// eachFactored hands on matrices that have factors, and these.
func eachFactored(f func(a, l rows, d []int)) {
	eachMatrix(func(size int, a rows) {
		if l, d, ok := solve.Factor(a); ok {
			f(a, l, d)
		}
	})
}

// lists is lists of so many numbers, of all kinds.
func lists(size int) [][]int {
	all := [][]int{make([]int, size), slices.Repeat([]int{one}, size), slices.Repeat([]int{-lim}, size)}
	e := edges()
	for k, n := range e {
		l := make([]int, size)
		for i := range l {
			l[i] = e[(k+11*i)%len(e)]
		}
		all = append(all, l, listWith(make([]int, size), k%size, n))
	}
	for _, places := range []uint{3, 20, 32, 34, 40, 50, 57, 58, 59} {
		next := mixed(int(places), places)
		for range 6 {
			l := make([]int, size)
			for i := range l {
				l[i] = next()
			}
			all = append(all, l)
		}
	}
	return all
}

// eachWithLists hands on matrices, and lists of as many numbers: for each that has factors some, for others one.
func eachWithLists(f func(size int, a rows, b []int)) {
	for size := 1; size <= most; size++ {
		all := lists(size)
		for turn, a := range slices.Concat(evens(size), others(size)) {
			step := 13
			if _, _, ok := solve.Factor(a); !ok {
				step = len(all)
			}
			for k := turn % step; k < len(all); k += step {
				f(size, a, all[k])
			}
		}
	}
}

// eachPlace hands on every row and column of the lower half of every size.
func eachPlace(f func(size, i, j int)) {
	for size := 1; size <= most; size++ {
		for i := range size {
			for j := range i + 1 {
				f(size, i, j)
			}
		}
	}
}

// P10.1

func TestFactorTable(t *testing.T) {
	for _, x := range []struct {
		a, l rows
		d    []int
	}{
		{rows{{one}}, rows{{4294967296}}, []int{one}},
		{rows{{1}}, rows{{one}}, []int{1}},
		{rows{{2}}, rows{{one}}, []int{2}},
		{rows{{lim}}, rows{{one}}, []int{lim}},
		{rows{{0}}, nil, nil},
		{rows{{-1}}, nil, nil},
		{rows{{-one}}, nil, nil},
		{rows{{-lim}}, nil, nil},
		{rows{{lim + 1}}, nil, nil},
		{rows{{-lim - 1}}, nil, nil},
		{rows{{high}}, nil, nil},
		{rows{{low}}, nil, nil},
		{rows{{4 * one, 2 * one}, {2 * one, 5 * one}}, rows{{one, 0}, {half, one}}, []int{4 * one, 4 * one}},
		{rows{{4 * one, 0}, {-2 * one, 5 * one}}, rows{{one, 0}, {-half, one}}, []int{4 * one, 4 * one}},
		{rows{{half, 0}, {3 * one, 19 * one}}, rows{{one, 0}, {6 * one, one}}, []int{half, one}},
		{rows{{one, 0}, {0, one}}, rows{{one, 0}, {0, one}}, []int{one, one}},
		{rows{{one, 0}, {one, one}}, nil, nil},
		{rows{{one, 0}, {one, one + 1}}, rows{{one, 0}, {one, one}}, []int{one, 1}},
		{rows{{one, 0}, {2 * one, one}}, nil, nil},
		{rows{{lim, 0}, {lim, lim}}, nil, nil},
		{rows{{lim, 0}, {lim - 1, lim}}, nil, nil},
		{rows{{lim - 1, 0}, {lim, lim}}, rows{{one, 0}, {one, one}}, []int{lim - 1, 1}},
		{rows{{4 * one, 0, 0}, {2 * one, 5 * one, 0}, {-4 * one, 2 * one, 9 * one}}, rows{{one, 0, 0}, {half, one, 0}, {-one, one, one}}, []int{4 * one, 4 * one, one}},
		{rows{{9 * one, 0, 0}, {3 * one, 5 * one, 0}, {-6 * one, 2 * one, 30 * one}}, rows{{4294967296, 0, 0}, {1431655765, 4294967296, 0}, {-2863311531, 4294967295, 4294967296}}, []int{38654705664, 17179869188, 94489280514}},
		{
			rows{{one, one, one, one}, {one, 2 * one, 3 * one, 4 * one}, {one, 3 * one, 6 * one, 10 * one}, {one, 4 * one, 10 * one, 20 * one}},
			rows{{one, 0, 0, 0}, {one, one, 0, 0}, {one, 2 * one, one, 0}, {one, 3 * one, 3 * one, one}},
			[]int{one, one, one, one},
		},
		{
			rows{{2 * one, 0, 0, 0, 0}, {-2 * one, 5 * one, 0, 0, 0}, {one, -4 * one, 9 * one / 2, 0, 0}, {0, 6 * one, -7 * one, 14 * one, 0}, {one, 2 * one, -3 * one / 2, 7 * one, 16 * one}},
			rows{{one, 0, 0, 0, 0}, {-one, one, 0, 0, 0}, {half, -one, one, 0, 0}, {0, 2 * one, -one, one, 0}, {half, one, one, 2 * one, one}},
			[]int{2 * one, 3 * one, one, one, 15 * one / 2},
		},
	} {
		sameFactors(t, x.a, x.l, x.d)
		checkFactor(t, x.a)
	}
}

// Of every size, the matrices whose factors are seen at once.
func TestFactorEachSize(t *testing.T) {
	for size := 1; size <= most; size++ {
		ones := slices.Repeat([]int{one}, size)
		sameFactors(t, mat.One(size), mat.One(size), ones)
		sameFactors(t, sloped(size), made(size, func(i, j int) int {
			if j > i {
				return 0
			}
			return one
		}), ones)
		// Numbers of Pascal's triangle, where D is 1, 2, 3 and so on.
		chosen := func(n, k int) int { return int(new(big.Int).Binomial(int64(n), int64(k)).Int64()) }
		l := made(size, func(i, j int) int { return chosen(i, j) * one })
		d := make([]int, size)
		for j := range d {
			d[j] = (j + 1) * one
		}
		a := made(size, func(i, j int) int {
			sum := 0
			for k := range size {
				sum += chosen(i, k) * chosen(j, k) * (k + 1)
			}
			return sum * one
		})
		sameFactors(t, a, l, d)
	}
}

func TestFactorAll(t *testing.T) {
	found, none := map[int]int{}, map[int]int{}
	eachMatrix(func(size int, a rows) {
		if why := checkFactor(t, a); len(why) == 0 {
			found[size]++
		} else {
			none[size]++
		}
	})
	for size := 1; size <= most; size++ {
		if found[size] < 200 || none[size] < 100 {
			t.Errorf("of %d rows only %d matrices have factors, %d have none", size, found[size], none[size])
		}
	}
}

// Factor is what the promise says of the lower layers' calls, one by one.
func TestFactorSaidByLowerLayers(t *testing.T) {
	eachFactored(func(a, l rows, d []int) {
		tell := func(what string, got, want int, clamped bool) {
			if got != want || clamped {
				t.Errorf("Factor of %v has %d for %s; want %d, %t", a, got, what, want, clamped)
			}
		}
		for j := range a {
			for i := range a {
				n, out := fix.Clamp(a[i][j])
				for k := 0; k < j && i >= j; k++ {
					square, squareOut := scale.Times(l[i][k], l[j][k])
					part, partOut := scale.Times(square, d[k])
					next, nextOut := fix.Sub(n, part)
					n, out = next, out || squareOut || partOut || nextOut
				}
				switch {
				case i < j:
					tell("a number above the lower half", l[i][j], 0, false)
				case i == j:
					tell("a number of D", d[j], n, out)
					tell("a number where row and column are one", l[j][j], api.One, d[j] < 1)
				default:
					by, byOut := scale.Over(n, d[j])
					tell("a number of L", l[i][j], by, out || byOut)
				}
			}
		}
	})
}

// What is above the lower half does not count, whatever it is.
func TestFactorLowerHalfAlone(t *testing.T) {
	eachMatrix(func(size int, a rows) {
		l, d, _ := solve.Factor(a)
		for _, n := range []int{0, one, low, high, lim + 1, -lim} {
			sameFactors(t, lower(a, n, n-1, 7), l, d)
		}
		turned := mat.Turned(lower(a, 0))
		for i := range turned {
			copy(turned[i][:i+1], a[i])
		}
		sameFactors(t, turned, l, d)
	})
	eachPlace(func(size, i, j int) {
		if i == j {
			return
		}
		for _, n := range noValues() {
			sameFactors(t, with(mat.One(size), j, i, n), mat.One(size), slices.Repeat([]int{one}, size))
		}
	})
}

// What is no matrix has no factors.
func TestFactorNoMatrix(t *testing.T) {
	for name, a := range wrong() {
		l, d, ok := solve.Factor(a)
		if len(l) > 0 || len(d) > 0 || ok {
			t.Errorf("Factor of %s = %v, %v, %t; want nothing", name, l, d, ok)
		}
	}
}

// A number that is no value is the one reason at each place of the lower half: the number of D that it is divided by is a little less than an end, so that L is 1 or -1, and what that leaves of the row's own number of D is 1.
func TestFactorNoValue(t *testing.T) {
	eachPlace(func(size, i, j int) {
		a := full(size, 0)
		for k := range size {
			a[k][k] = lim - 1
		}
		a[i][i] = lim
		for _, n := range noValues() {
			if i == j && n < 0 {
				sameFactors(t, with(a, i, j, n), nil, nil)
			} else {
				factorAlone(t, "number of a", with(a, i, j, n))
			}
		}
		for _, n := range []int{lim, -lim, lim - 1, 1 - lim} {
			if ok := len(checkFactor(t, with(a, i, j, n))) == 0; ok != (i != j || n > 0) {
				t.Errorf("of %d at %d, %d of %d rows there are factors: %t", n, i, j, size, ok)
			}
		}
		// Where all beside it is 0, it is multiplied by 0 alone.
		for _, n := range noValues() {
			sameFactors(t, with(mat.One(size), i, j, n), nil, nil)
			sameFactors(t, with(full(size, 0), i, j, n), nil, nil)
		}
	})
}

// Numbers of D that are 1, 0 and below 0, in each column.
func TestFactorBelowOne(t *testing.T) {
	for size := 1; size <= most; size++ {
		for j := range size {
			for _, n := range []int{0, -1, -2, -one, -lim} {
				sameFactors(t, with(mat.One(size), j, j, n), nil, nil)
				sameFactors(t, with(sloped(size), j, j, j*one+n), nil, nil)
				if n < 0 || j == size-1 {
					// Of a D of 0, a quotient below it is told as well.
					factorAlone(t, "below 1", with(mat.One(size), j, j, n))
				}
			}
			for _, n := range []int{1, 2, one - 1, one, lim} {
				d := slices.Repeat([]int{one}, size)
				d[j] = n
				sameFactors(t, with(mat.One(size), j, j, n), mat.One(size), d)
			}
			if j == size-1 {
				l, d, ok := solve.Factor(with(sloped(size), j, j, j*one+1))
				if !ok || d[j] != 1 || l[j][0] != one {
					t.Errorf("of %d rows, the last number of D is not 1: %v, %v, %t", size, l, d, ok)
				}
			}
		}
	}
	// What is left of a number may be below 1 where the number itself is not, and the other numbers of D are above 0.
	factorAlone(t, "below 1", rows{{one, 0}, {one, one}})
	factorAlone(t, "below 1", rows{{one, 0}, {2 * one, one}})
	factorAlone(t, "below 1", rows{{one, 0, 0}, {2 * one, 3 * one, 0}, {0, 0, one}})
	factorAlone(t, "below 1", rows{{-one, 0, 0}, {one, one, 0}, {one, -one, 9 * one}})
}

// A product alone tells that something was clamped: the square of a number of L, which is made small again by a small number of D.
func TestFactorProductAlone(t *testing.T) {
	sameFactors(t, rows{{1, 0}, {1 << 13, lim}}, rows{{one, 0}, {1 << 45, one}}, []int{1, lim - 1<<26})
	sameFactors(t, rows{{1, 0}, {-1 << 13, lim}}, rows{{one, 0}, {-1 << 45, one}}, []int{1, lim - 1<<26})
	factorAlone(t, "product of L with L for D", rows{{1, 0}, {1<<13 + 1, lim}})
	factorAlone(t, "product of L with L for D", rows{{1, 0}, {-1<<13 - 1, lim}})
	for size := 2; size <= most; size++ {
		for i := 1; i < size; i++ {
			for j := range i {
				a := with(mat.One(size), j, j, 1)
				a[i][i] = lim
				checkFactor(t, with(a, i, j, 1<<13))
				factorAlone(t, "product of L with L for D", with(a, i, j, 1<<13+1))
			}
		}
	}
}

// tight is a matrix of four rows whose last number but one is an end: from it two products are taken that are both small, and of either sign.
func tight(first, second, n int) rows {
	return rows{{one, 0, 0, 0}, {0, one, 0, 0}, {1 << 16, 1 << 16, lim, 0}, {first, second, n, lim}}
}

// A difference alone tells that something was clamped, and so they are taken in the order that is told, not all at once.
func TestFactorDifferenceAlone(t *testing.T) {
	// The products are 1 and -1, and each square is 0.
	up, down := 40000, -40000
	factorAlone(t, "difference for L", rows{{one, 0, 0}, {1 << 16, lim, 0}, {down, lim, lim}})
	factorAlone(t, "difference for L", rows{{one, 0, 0}, {1 << 16, lim, 0}, {up, -lim, lim}})
	sameFactors(t, rows{{one, 0, 0}, {1 << 16, lim, 0}, {up, lim, lim}}, rows{{one, 0, 0}, {1 << 16, one, 0}, {up, one, one}}, []int{one, lim - 1, 1})
	sameFactors(t, rows{{one, 0, 0}, {1 << 16, lim, 0}, {down, lim - 1, lim}}, rows{{one, 0, 0}, {1 << 16, one, 0}, {down, one, one}}, []int{one, lim - 1, 1})

	l := func(first, second, n int) rows {
		return rows{{one, 0, 0, 0}, {0, one, 0, 0}, {1 << 16, 1 << 16, one, 0}, {first, second, n, one}}
	}
	factorAlone(t, "difference for L", tight(down, up, lim))
	factorAlone(t, "difference for L", tight(up, down, -lim))
	sameFactors(t, tight(up, down, lim), l(up, down, one), []int{one, one, lim - 2, 2})
	sameFactors(t, tight(down, up, -lim), l(down, up, -one), []int{one, one, lim - 2, 2})
}

// Whatever tells that something was clamped, there is nothing. None of these is ever the one reason: a number of L or a product that is too great makes another one too great, or a number of D too small.
func TestFactorTold(t *testing.T) {
	for why, a := range map[string]rows{
		"quotient for L":            {{1, 0}, {1<<26 + 1, lim}},
		"product with D for D":      {{lim / 4, 0}, {lim/2 + lim/4, lim}},
		"product with D for L":      {{lim / 4, 0, 0}, {lim / 2, lim, 0}, {lim, 0, lim}},
		"difference for D":          {{one, 0}, {2 * one, -lim}},
		"product of L with L for L": {{1, 0, 0}, {1 << 14, lim, 0}, {-1 << 14, 0, lim}},
	} {
		sameFactors(t, a, nil, nil)
		if got := checkFactor(t, a); got[why] == 0 {
			t.Errorf("%v has the reasons %v; want %s among them", a, got, why)
		}
	}
}

// A product is rounded ahead of the next one, of L with L first; a half goes up, on both sides of 0.
func TestFactorRounds(t *testing.T) {
	for _, x := range []struct {
		a, l rows
		d    []int
	}{
		// The square of 1 is 0, though times 2^33 it would be 2.
		{rows{{1 << 33, 0}, {2, one}}, rows{{one, 0}, {1, one}}, []int{1 << 33, one}},
		// The square of 2^16 is 1, that of less than the root of a half is 0.
		{rows{{one, 0}, {1 << 16, one}}, rows{{one, 0}, {1 << 16, one}}, []int{one, one - 1}},
		{rows{{one, 0}, {46341, one}}, rows{{one, 0}, {46341, one}}, []int{one, one - 1}},
		{rows{{one, 0}, {46340, one}}, rows{{one, 0}, {46340, one}}, []int{one, one}},
		{rows{{lim, 0}, {46341 << 26, lim}}, rows{{one, 0}, {46341, one}}, []int{lim, lim - 1<<26}},
		{rows{{lim, 0}, {46340 << 26, lim}}, rows{{one, 0}, {46340, one}}, []int{lim, lim}},
		// A product with D of a half goes up: 1 times 2^31, and -1 times 2^31.
		{rows{{half, 0}, {1 << 15, one}}, rows{{one, 0}, {1 << 16, one}}, []int{half, one - 1}},
		{rows{{half, 0, 0}, {1 << 15, one, 0}, {1 << 15, one, 3 * one}}, rows{{one, 0, 0}, {1 << 16, one, 0}, {1 << 16, one, one}}, []int{half, one - 1, 2 * one}},
		{rows{{half, 0, 0}, {1 << 15, one, 0}, {-1 << 15, 0, 3 * one}}, rows{{one, 0, 0}, {1 << 16, one, 0}, {-1 << 16, 0, one}}, []int{half, one - 1, 3*one - 1}},
		// A product of L with L of a half goes up: 2^31 times 1, and times -1, times 2^33.
		{rows{{1 << 33, 0, 0}, {one, 2 * one, 0}, {2, 0, one}}, rows{{one, 0, 0}, {half, one, 0}, {1, -1, one}}, []int{1 << 33, 3 * half, one}},
		{rows{{1 << 33, 0, 0}, {one, 2 * one, 0}, {-2, 0, one}}, rows{{one, 0, 0}, {half, one, 0}, {-1, 0, one}}, []int{1 << 33, 3 * half, one}},
		// A quotient of a half goes up: 1 by 2^33, and -1, and 3 and -3.
		{rows{{1 << 33, 0}, {1, one}}, rows{{one, 0}, {1, one}}, []int{1 << 33, one}},
		{rows{{1 << 33, 0}, {-1, one}}, rows{{one, 0}, {0, one}}, []int{1 << 33, one}},
		{rows{{1 << 33, 0}, {3, one}}, rows{{one, 0}, {2, one}}, []int{1 << 33, one}},
		{rows{{1 << 33, 0}, {-3, one}}, rows{{one, 0}, {-1, one}}, []int{1 << 33, one}},
		{rows{{3 * one, 0}, {one, one}}, rows{{one, 0}, {1431655765, one}}, []int{3 * one, 2863311532}},
		{rows{{3 * one, 0}, {-one, one}}, rows{{one, 0}, {-1431655765, one}}, []int{3 * one, 2863311532}},
	} {
		sameFactors(t, x.a, x.l, x.d)
		checkFactor(t, x.a)
	}
}

// P10.2

func TestSolveTable(t *testing.T) {
	three := rows{{4 * one, 0, 0}, {2 * one, 5 * one, 0}, {-4 * one, 2 * one, 9 * one}}
	for _, x := range []struct {
		a    rows
		b, x []int
	}{
		{rows{{one}}, []int{0}, []int{0}},
		{rows{{one}}, []int{one}, []int{one}},
		{rows{{one}}, []int{lim}, []int{lim}},
		{rows{{one}}, []int{-lim}, []int{-lim}},
		{rows{{one}}, []int{lim + 1}, nil},
		{rows{{one}}, []int{-lim - 1}, nil},
		{rows{{one}}, []int{low}, nil},
		{rows{{one}}, []int{high}, nil},
		{rows{{2 * one}}, []int{1}, []int{1}},
		{rows{{2 * one}}, []int{-1}, []int{0}},
		{rows{{2 * one}}, []int{-3}, []int{-1}},
		{rows{{3 * one}}, []int{one}, []int{1431655765}},
		{rows{{lim}}, []int{lim}, []int{one}},
		{rows{{lim}}, []int{lim + 1}, nil},
		{rows{{lim + 1}}, []int{one}, nil},
		{rows{{1}}, []int{1 << 26}, []int{lim}},
		{rows{{1}}, []int{-1 << 26}, []int{-lim}},
		{rows{{1}}, []int{1<<26 + 1}, nil},
		{rows{{1}}, []int{-1<<26 - 1}, nil},
		{rows{{0}}, []int{0}, nil},
		{rows{{-one}}, []int{one}, nil},
		{rows{{4 * one, 2 * one}, {2 * one, 5 * one}}, []int{8 * one, 12 * one}, []int{one, 2 * one}},
		{rows{{4 * one, low}, {2 * one, 5 * one}}, []int{0, 0}, []int{0, 0}},
		{rows{{4 * one, high}, {2 * one, 5 * one}}, []int{0, -8}, []int{1, -2}},
		{rows{{one, 0}, {one, one}}, []int{0, 0}, nil},
		{three, []int{-4 * one, 18 * one, 27 * one}, []int{one, 2 * one, 3 * one}},
		{three, []int{-6 * one, one, 12 * one}, []int{one, -one, 2 * one}},
		{three, []int{one, 0, 0}, []int{41 * one / 16, -26 * one / 16, 24 * one / 16}},
		{
			rows{{one, 0, 0, 0}, {one, 2 * one, 0, 0}, {one, 3 * one, 6 * one, 0}, {one, 4 * one, 10 * one, 20 * one}},
			[]int{one, -2 * one, 3 * one, -4 * one},
			[]int{32 * one, -79 * one, 68 * one, -20 * one},
		},
	} {
		sameSolved(t, x.a, x.b, x.x)
		if len(x.b) == len(x.a) {
			checkSolve(t, x.a, x.b)
		}
	}
}

func TestSolveAll(t *testing.T) {
	found, none := map[int]int{}, map[int]int{}
	eachWithLists(func(size int, a rows, b []int) {
		if why := checkSolve(t, a, b); len(why) == 0 {
			found[size]++
		} else {
			none[size]++
		}
	})
	for size := 1; size <= most; size++ {
		if found[size] < 1000 || none[size] < 1000 {
			t.Errorf("of %d rows only %d are solved, %d are not", size, found[size], none[size])
		}
	}
}

// Solve is what the promise says of the lower layers' calls and of Factor, one by one: and none of them tells that something was clamped.
func TestSolveSaidByLowerLayers(t *testing.T) {
	eachWithLists(func(size int, a rows, b []int) {
		l, d, ok := solve.Factor(a)
		if !ok {
			sameSolved(t, a, b, nil)
			return
		}
		x, y, z := make([]int, size), make([]int, size), make([]int, size)
		clamped := false
		sure := func(n int, out bool) int {
			clamped = clamped || out
			return n
		}
		for i := range size {
			y[i] = sure(fix.Clamp(b[i]))
			for k := range i {
				y[i] = sure(fix.Sub(y[i], sure(scale.Times(l[i][k], y[k]))))
			}
		}
		for i := range size {
			z[i] = sure(scale.Over(y[i], d[i]))
		}
		for i := size - 1; i >= 0; i-- {
			x[i] = z[i]
			for k := i + 1; k < size; k++ {
				x[i] = sure(fix.Sub(x[i], sure(scale.Times(l[k][i], x[k]))))
			}
		}
		if clamped {
			x = nil
		}
		sameSolved(t, a, b, x)
	})
}

// Where Factor tells false, there is nothing, whatever is to be solved.
func TestSolveWithoutFactors(t *testing.T) {
	check := func(a rows, b []int) {
		t.Helper()
		if x, ok := solve.Solve(a, b); len(x) > 0 || ok {
			t.Errorf("Solve of %v and %v = %v, %t; want nothing", a, b, x, ok)
		}
	}
	for _, a := range wrong() {
		for size := range most + 2 {
			check(a, make([]int, size))
		}
		check(a, nil)
		check(a, make([]int, len(a)))
		check(a, slices.Repeat([]int{lim + 1}, len(a)))
	}
	eachMatrix(func(size int, a rows) {
		if _, _, ok := solve.Factor(a); !ok {
			check(a, make([]int, size))
			check(a, slices.Repeat([]int{one}, size))
		}
	})
	eachPlace(func(size, i, j int) {
		for _, n := range noValues() {
			check(with(full(size, lim-1), i, j, n), make([]int, size))
			check(with(mat.One(size), i, j, n), make([]int, size))
		}
	})
}

// A list of another length than the matrix is not solved, even if what is too much of it is 0.
func TestSolveLengths(t *testing.T) {
	for size := 1; size <= most; size++ {
		for _, a := range []rows{mat.One(size), sloped(size)} {
			for _, length := range []int{0, 1, 2, 3, 4, 5, 6, 7, 8, 63, 64, 65, 1 << 16} {
				b := make([]int, length)
				if length == size {
					sameSolved(t, a, b, b)
				} else {
					sameSolved(t, a, b, nil)
					sameSolved(t, a, slices.Repeat([]int{one}, length), nil)
				}
			}
			sameSolved(t, a, nil, nil)
			sameSolved(t, a, []int{}, nil)
		}
	}
}

// A number of a list that is no value is the one reason at each place, where it is multiplied by 0 alone and where it is not.
func TestSolveNoValue(t *testing.T) {
	for size := 1; size <= most; size++ {
		zeros := make([]int, size)
		for i := range size {
			for _, n := range noValues() {
				solveAlone(t, "number of b", mat.One(size), listWith(zeros, i, n))
				solveAlone(t, "number of b", with(mat.One(size), i, i, lim), listWith(zeros, i, n))
				sameSolved(t, sloped(size), listWith(zeros, i, n), nil)
			}
			for _, n := range []int{lim, -lim, lim - 1, 1 - lim} {
				sameSolved(t, mat.One(size), listWith(zeros, i, n), listWith(zeros, i, n))
			}
		}
	}
}

// pair is a matrix of two rows that has this L, and these two numbers of D.
func pair(l, first, second int) rows {
	below, _ := scale.Times(l, first)
	square, _ := scale.Times(l, below)
	return rows{{first, 0}, {below, square + second}}
}

// One call below alone tells that something was clamped; beside it, where it does not, there is a list.
func TestSolveToldAlone(t *testing.T) {
	twice := pair(2*one, one, one)
	solveAlone(t, "product down", twice, []int{lim/2 + 1, lim})
	solveAlone(t, "product down", twice, []int{-lim/2 - 1, -lim})
	sameSolved(t, twice, []int{lim / 2, lim}, []int{lim / 2, 0})
	sameSolved(t, twice, []int{-lim / 2, -lim}, []int{-lim / 2, 0})

	quarter := pair(-one, one, 4*one)
	solveAlone(t, "difference down", quarter, []int{1, lim})
	solveAlone(t, "difference down", quarter, []int{-1, -lim})
	sameSolved(t, quarter, []int{1, lim - 1}, []int{lim/4 + 1, lim / 4})
	sameSolved(t, quarter, []int{-1, 1 - lim}, []int{-lim/4 - 1, -lim / 4})

	for size := 1; size <= most; size++ {
		for i := range size {
			a := with(mat.One(size), i, i, half)
			b := make([]int, size)
			solveAlone(t, "quotient for z", a, listWith(b, i, lim/2+1))
			solveAlone(t, "quotient for z", a, listWith(b, i, -lim/2-1))
			sameSolved(t, a, listWith(b, i, lim/2), listWith(b, i, lim))
			sameSolved(t, a, listWith(b, i, -lim/2), listWith(b, i, -lim))
		}
	}

	solveAlone(t, "product up", twice, []int{0, lim/2 + 1})
	solveAlone(t, "product up", twice, []int{0, -lim/2 - 1})
	sameSolved(t, twice, []int{0, lim / 2}, []int{-lim, lim / 2})
	sameSolved(t, twice, []int{0, -lim / 2}, []int{lim, -lim / 2})

	small := pair(one, half, one)
	solveAlone(t, "difference up", small, []int{lim / 2, lim/2 - 1})
	solveAlone(t, "difference up", small, []int{-lim / 2, 1 - lim/2})
	sameSolved(t, small, []int{lim / 2, lim / 2}, []int{lim, 0})
	sameSolved(t, small, []int{-lim / 2, -lim / 2}, []int{-lim, 0})
}

// The differences are taken one by one from the first place on, on the way down and on the way up: in another order they would go beyond an end elsewhere.
func TestSolveOrder(t *testing.T) {
	down := rows{{one, 0, 0}, {0, one, 0}, {one, one, 6 * one}}
	sameSolved(t, down, []int{one, -one, lim}, []int{one - lim/4, -one - lim/4, lim / 4})
	sameSolved(t, down, []int{-one, one, -lim}, []int{-one + lim/4, one + lim/4, -lim / 4})
	solveAlone(t, "difference down", down, []int{-one, one, lim})
	solveAlone(t, "difference down", down, []int{one, -one, -lim})

	// L's first column is ones, and its first D a quarter.
	up := rows{{one / 4, 0, 0}, {one / 4, one + one/4, 0}, {one / 4, one / 4, one + one/4}}
	sameSolved(t, up, []int{lim / 4, lim/4 + one, lim/4 - one}, []int{lim, one, -one})
	sameSolved(t, up, []int{-lim / 4, -lim/4 - one, -lim/4 + one}, []int{-lim, -one, one})
	solveAlone(t, "difference up", up, []int{lim / 4, lim/4 - one, lim/4 + one})
	solveAlone(t, "difference up", up, []int{-lim / 4, -lim/4 + one, -lim/4 - one})
}

// Products and quotients are rounded, one by one; a half goes up, on both sides of 0.
func TestSolveRounds(t *testing.T) {
	halved := pair(half, 4*one, one)
	for _, x := range []struct {
		a    rows
		b, x []int
	}{
		// On the way down the half of 1 is 1, that of -1 is 0; what is between is a quarter, rounded.
		{halved, []int{1, 0}, []int{0, -1}},
		{halved, []int{-1, 0}, []int{0, 0}},
		{halved, []int{3, 0}, []int{2, -2}},
		{halved, []int{-3, 0}, []int{-2, 1}},
		// A quotient of a half: 2 by 4, and -2.
		{halved, []int{2, 1}, []int{1, 0}},
		{halved, []int{-2, -1}, []int{0, 0}},
		{halved, []int{6, 3}, []int{2, 0}},
		{halved, []int{-6, -3}, []int{-1, 0}},
		// On the way up.
		{halved, []int{0, 1}, []int{-1, 1}},
		{halved, []int{0, -1}, []int{0, -1}},
		{halved, []int{0, 3}, []int{-2, 3}},
		{halved, []int{0, -3}, []int{1, -3}},
		// Two products that are halves are each rounded, not their sum.
		{rows{{4 * one, 0, 0}, {0, 4 * one, 0}, {2 * one, 2 * one, 3 * one}}, []int{1, 1, 4}, []int{-1, -1, 2}},
		{rows{{4 * one, 0, 0}, {2 * one, 2 * one, 0}, {2 * one, one, 2 * one}}, []int{0, 1, 1}, []int{-2, 1, 1}},
	} {
		sameSolved(t, x.a, x.b, x.x)
		checkSolve(t, x.a, x.b)
	}
}

// The matrix times what is answered is what was to be solved, where all of it is whole.
func TestSolveIsUndone(t *testing.T) {
	for size := 1; size <= most; size++ {
		for _, a := range []rows{mat.One(size), sloped(size)} {
			next := mixed(size, 12)
			for range 20 {
				want := make([]int, size)
				for i := range want {
					want[i] = next() * one
				}
				b, _ := mat.Apply(a, want)
				sameSolved(t, a, b, want)
			}
		}
	}
}

// P10.3

// What rounding leaves of a number: of each column ahead a half for the product with D, and that for the square ahead of it times D; and of a quotient a half times D. All is counted 2^64 times.
func TestProductIsNearlyTheMatrix(t *testing.T) {
	eachFactored(func(a, l rows, d []int) {
		for i := range a {
			for j := range i + 1 {
				diff := new(big.Int).Neg(product(a[i][j], one, one))
				bound := new(big.Int)
				for k := range j + 1 {
					diff.Add(diff, product(l[i][k], d[k], l[j][k]))
					if k < j {
						bound.Add(bound, product(half, one))
					}
					if k < i {
						bound.Add(bound, product(half, d[k]))
					}
				}
				if diff.CmpAbs(bound) > 0 {
					t.Errorf("of %v, L and D make another number at %d, %d: by %v of 2^-96; want %v at most", a, i, j, diff, bound)
				}
			}
		}
	})
}

// The same by the calls of package mat, which round too: a half times each number of L, and a half.
func TestProductByMat(t *testing.T) {
	held := 0
	eachFactored(func(a, l rows, d []int) {
		middle := made(len(a), func(i, j int) int {
			if i != j {
				return 0
			}
			return d[i]
		})
		first, firstOut := mat.Mul(l, middle)
		all, out := mat.Mul(first, mat.Turned(l))
		if firstOut || out {
			// Beyond an end there is no product to hold against the matrix.
			return
		}
		held++
		for i := range a {
			for j := range i + 1 {
				bound := 1.0
				for k := range j + 1 {
					bound += 1 + (float64(d[k])+math.Abs(float64(l[j][k])))/one/2
				}
				if diff := math.Abs(float64(all[i][j] - a[i][j])); diff > bound {
					t.Errorf("of %v, L, D and L turned make %d at %d, %d: by %v; want %v at most", a, all[i][j], i, j, diff, bound)
				}
			}
		}
	})
	if held < 2000 {
		t.Errorf("only %d products were held against their matrix", held)
	}
}

// P1, and R3

// Of all kinds of lists each call ends; with false all else is nothing, and with true it is of values alone, as many as there are rows.
func TestAnswersAnything(t *testing.T) {
	beyond := func(l []int) bool {
		return slices.ContainsFunc(l, func(n int) bool { return n < -lim || n > lim })
	}
	check := func(a rows, b []int) {
		t.Helper()
		was, bWas := clone(a), slices.Clone(b)
		l, d, ok := solve.Factor(a)
		if !ok && (len(l) > 0 || len(d) > 0) {
			t.Errorf("Factor of %v = %v, %v, false; want nothing", a, l, d)
		}
		if ok && (!mat.Sane(l) || len(l) != len(a) || len(d) != len(a) || slices.ContainsFunc(l, beyond) || beyond(d)) {
			t.Errorf("Factor of %v = %v, %v: not of values, or not as many as there are rows", a, l, d)
		}
		x, solved := solve.Solve(a, b)
		if !solved && len(x) > 0 || solved && (!ok || len(x) != len(b) || beyond(x)) {
			t.Errorf("Solve of %v and %v = %v, %t, where of the matrix there are factors: %t", a, b, x, solved, ok)
		}
		if !equal(a, was) || !slices.Equal(b, bWas) {
			t.Errorf("%v and %v were changed to %v and %v", was, bWas, a, b)
		}
	}
	eachMatrix(func(size int, a rows) {
		check(a, a[0])
		check(a, a[size-1])
		check(a, nil)
	})
	e := edges()
	for _, a := range wrong() {
		for size := range most + 2 {
			check(a, e[:size])
			check(slices.Concat(a, a), e[size:2*size])
			check(slices.Concat(sloped(most + 1)[:size], a), e[:size])
		}
	}
	for _, n := range e {
		for _, other := range e {
			check(rows{{n}}, []int{other})
			check(rows{{one, n}, {other, 4 * one}}, []int{n, other})
			check(rows{{n, 0}, {other, lim}}, []int{other, n})
			check(rows{{one, 0, 0}, {n, lim, 0}, {other, n, lim}}, []int{other, n, other})
		}
	}
}

// What is answered has memory of its own: whoever writes on it, or lays more behind it, changes neither what was handed in, nor another list, nor a later answer.
func TestAnswerIsNew(t *testing.T) {
	for size := 1; size <= most; size++ {
		a, b := sloped(size), slices.Repeat([]int{one}, size)
		was, bWas := clone(a), slices.Clone(b)
		wantL, wantD, _ := wantedFactor(a)
		wantX, _ := wantedSolve(a, b)
		l, d, _ := solve.Factor(a)
		x, _ := solve.Solve(a, b)
		wanted := append(slices.Clone(wantL), wantD, wantX)
		for i, list := range append(slices.Clone(l), d, x) {
			if !slices.Equal(list, wanted[i]) {
				t.Errorf("of %d rows, list %d that is answered shares memory with another one", size, i)
			}
			for k := range list {
				list[k] = -7
			}
			_ = append(list, -8)
		}
		if !equal(a, was) || !slices.Equal(b, bWas) {
			t.Errorf("of %d rows: an answer shares memory with what was handed in", size)
		}
		sameFactors(t, a, wantL, wantD)
		sameSolved(t, a, b, wantX)
	}
}

// Rows that are one and the same list, or parts of one, a list that is a row of the matrix, and numbers behind a row's end, are as good as others.
func TestListsThatShare(t *testing.T) {
	line := []int{one, one, one, 2 * one, low, high}
	sameFactors(t, rows{line[:2], line[2:4]}, rows{{one, 0}, {one, one}}, []int{one, one})
	sameSolved(t, rows{line[:2], line[2:4]}, line[2:4], []int{0, one})
	sameSolved(t, rows{line[:1]}, line[:1], []int{one})
	sameFactors(t, rows{line[3:5], line[3:5]}, nil, nil)
	// The lower half of both is 2, 1 and 1, 1, though the second row's is the first one's.
	row := []int{one, 2 * one}
	sameFactors(t, rows{row, row}, rows{{one, 0}, {one, one}}, []int{one, one})
	sameSolved(t, rows{row, row}, row, []int{0, one})
	if !slices.Equal(line, []int{one, one, one, 2 * one, low, high}) || !slices.Equal(row, []int{one, 2 * one}) {
		t.Errorf("lists that were handed in were changed to %v and %v", line, row)
	}
}
