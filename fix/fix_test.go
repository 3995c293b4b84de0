package fix_test

import (
	"math"
	"math/big"
	"testing"

	"outrigger/api"
	"outrigger/fix"
)

const (
	one  = api.One
	half = api.One / 2
	lim  = api.Lim
	top  = api.Lim / api.One // the greatest whole number that has a value
)

// edges are the numbers at which an answer changes its kind, each with its neighbours.
func edges() []int {
	var all []int
	for _, n := range []int{0, half, one, one + half, 2 * one, 3 * one, lim - one, lim - half, lim, lim + half, lim + one, 2 * lim, 4 * lim, top, 1 << 31, 1 << 61, 1 << 62} {
		all = append(all, n-1, n, n+1, -n-1, -n, -n+1)
	}
	return append(all, math.MinInt, math.MinInt+1, math.MaxInt-1, math.MaxInt)
}

// spread is numbers of all sizes and both signs, the same ones at each run.
func spread(count int) []int {
	all := make([]int, 0, count)
	x := uint64(1)
	for i := range count {
		x ^= x << 13
		x ^= x >> 7
		x ^= x << 17
		all = append(all, int(x)>>(i%64))
	}
	return all
}

func numbers() []int { return append(edges(), spread(4096)...) }

// What follows tells the document's words once more, by whole numbers without an end.

func isValue(n *big.Int) bool { return n.CmpAbs(big.NewInt(lim)) <= 0 }

func counts(n *big.Int) (int, bool) {
	if isValue(n) {
		return int(n.Int64()), false
	}
	return n.Sign() * lim, true
}

func wanted(a, b int, join func(z, x, y *big.Int) *big.Int) (int, bool) {
	x, aOut := counts(big.NewInt(int64(a)))
	y, bOut := counts(big.NewInt(int64(b)))
	v, out := counts(join(new(big.Int), big.NewInt(int64(x)), big.NewInt(int64(y))))
	return v, aOut || bOut || out
}

func wantedParts(a, more int) (whole, rest int) {
	v, _ := counts(big.NewInt(int64(a)))
	n := big.NewInt(int64(v))
	n.Add(n, big.NewInt(int64(more)))
	// Of a divisor above 0, DivMod's rest is never below 0.
	q, r := new(big.Int).DivMod(n, big.NewInt(one), new(big.Int))
	return int(q.Int64()), int(r.Int64())
}

// P1.1

func TestClampTable(t *testing.T) {
	for _, x := range []struct {
		n, want int
		out     bool
	}{
		{0, 0, false}, {1, 1, false}, {-1, -1, false}, {7 * one, 7 * one, false},
		{lim - 1, lim - 1, false}, {lim, lim, false}, {lim + 1, lim, true}, {math.MaxInt, lim, true},
		{-lim + 1, -lim + 1, false}, {-lim, -lim, false}, {-lim - 1, -lim, true}, {math.MinInt, -lim, true},
	} {
		if v, out := fix.Clamp(x.n); v != x.want || out != x.out {
			t.Errorf("Clamp(%d) = %d, %t; want %d, %t", x.n, v, out, x.want, x.out)
		}
	}
}

func TestClampAll(t *testing.T) {
	for _, n := range numbers() {
		want, wantOut := counts(big.NewInt(int64(n)))
		if v, out := fix.Clamp(n); v != want || out != wantOut {
			t.Errorf("Clamp(%d) = %d, %t; want %d, %t", n, v, out, want, wantOut)
		}
	}
}

func TestAddTable(t *testing.T) {
	for _, x := range []struct {
		a, b, want int
		out        bool
	}{
		{0, 0, 0, false}, {one, half, one + half, false}, {-one, half, -half, false},
		{lim, 0, lim, false}, {lim - 1, 1, lim, false}, {lim, 1, lim, true}, {lim, lim, lim, true},
		{-lim, 0, -lim, false}, {-lim + 1, -1, -lim, false}, {-lim, -1, -lim, true}, {-lim, -lim, -lim, true},
		{lim, -lim, 0, false},
		// What was clamped is told even where the sum is a value.
		{lim + 1, 0, lim, true}, {0, lim + 1, lim, true}, {lim + 1, -1, lim - 1, true}, {-1, lim + 1, lim - 1, true},
		{-lim - 1, 1, -lim + 1, true}, {1, -lim - 1, -lim + 1, true}, {lim + 1, -lim - 1, 0, true},
		{math.MaxInt, math.MaxInt, lim, true}, {math.MinInt, math.MinInt, -lim, true}, {math.MinInt, math.MaxInt, 0, true},
	} {
		if v, out := fix.Add(x.a, x.b); v != x.want || out != x.out {
			t.Errorf("Add(%d, %d) = %d, %t; want %d, %t", x.a, x.b, v, out, x.want, x.out)
		}
	}
}

func TestSubTable(t *testing.T) {
	for _, x := range []struct {
		a, b, want int
		out        bool
	}{
		{0, 0, 0, false}, {one, half, half, false}, {half, one, -half, false},
		{0, lim, -lim, false}, {0, -lim, lim, false}, {lim, lim, 0, false}, {-lim, -lim, 0, false},
		{lim, -1, lim, true}, {-lim, 1, -lim, true}, {lim, -lim, lim, true}, {-lim, lim, -lim, true},
		{lim - 1, -1, lim, false}, {-lim + 1, 1, -lim, false},
		// What was clamped is told even where the difference is a value.
		{lim + 1, 1, lim - 1, true}, {1, lim + 1, -lim + 1, true}, {-lim - 1, -1, -lim + 1, true}, {-1, -lim - 1, lim - 1, true},
		{0, math.MinInt, lim, true}, {0, math.MaxInt, -lim, true}, {-1, math.MinInt, lim - 1, true},
		{math.MinInt, math.MinInt, 0, true}, {math.MaxInt, math.MaxInt, 0, true}, {math.MinInt, math.MaxInt, -lim, true},
	} {
		if v, out := fix.Sub(x.a, x.b); v != x.want || out != x.out {
			t.Errorf("Sub(%d, %d) = %d, %t; want %d, %t", x.a, x.b, v, out, x.want, x.out)
		}
	}
}

// pairs hands on every edge with every edge, and the spread numbers two by two.
func pairs(each func(a, b int)) {
	for _, a := range edges() {
		for _, b := range edges() {
			each(a, b)
		}
	}
	s := spread(8192)
	for i := range len(s) - 1 {
		each(s[i], s[i+1])
	}
}

func TestAddAndSubAll(t *testing.T) {
	pairs(func(a, b int) {
		want, wantOut := wanted(a, b, (*big.Int).Add)
		if v, out := fix.Add(a, b); v != want || out != wantOut {
			t.Errorf("Add(%d, %d) = %d, %t; want %d, %t", a, b, v, out, want, wantOut)
		}
		want, wantOut = wanted(a, b, (*big.Int).Sub)
		if v, out := fix.Sub(a, b); v != want || out != wantOut {
			t.Errorf("Sub(%d, %d) = %d, %t; want %d, %t", a, b, v, out, want, wantOut)
		}
	})
}

func TestNegAndAbsTable(t *testing.T) {
	for _, x := range []struct{ a, neg, abs int }{
		{0, 0, 0}, {1, -1, 1}, {-1, 1, 1}, {-half, half, half},
		{lim, -lim, lim}, {-lim, lim, lim}, {lim + 1, -lim, lim}, {-lim - 1, lim, lim},
		{math.MaxInt, -lim, lim}, {math.MinInt, lim, lim},
	} {
		if n, v := fix.Neg(x.a), fix.Abs(x.a); n != x.neg || v != x.abs {
			t.Errorf("Neg(%d), Abs = %d, %d; want %d, %d", x.a, n, v, x.neg, x.abs)
		}
	}
}

func TestNegAndAbsAll(t *testing.T) {
	for _, a := range numbers() {
		v, _ := counts(big.NewInt(int64(a)))
		neg, abs := -v, v
		if v < 0 {
			abs = neg
		}
		if fix.Neg(a) != neg || fix.Abs(a) != abs {
			t.Errorf("Neg(%d), Abs = %d, %d; want %d, %d", a, fix.Neg(a), fix.Abs(a), neg, abs)
		}
	}
}

// P1.2

func TestOfTable(t *testing.T) {
	for _, x := range []struct {
		n, want int
		out     bool
	}{
		{0, 0, false}, {1, one, false}, {-1, -one, false}, {3, 3 * one, false}, {-3, -3 * one, false},
		{top - 1, lim - one, false}, {top, lim, false}, {top + 1, lim, true},
		{-top + 1, -lim + one, false}, {-top, -lim, false}, {-top - 1, -lim, true},
		// Products that would wrap round to 0, or to the other side.
		{1 << 31, lim, true}, {-1 << 31, -lim, true}, {1 << 32, lim, true}, {-1 << 32, -lim, true}, {1<<32 + 1, lim, true},
		{lim, lim, true}, {-lim, -lim, true}, {math.MaxInt, lim, true}, {math.MinInt, -lim, true},
	} {
		if v, out := fix.Of(x.n); v != x.want || out != x.out {
			t.Errorf("Of(%d) = %d, %t; want %d, %t", x.n, v, out, x.want, x.out)
		}
	}
}

func TestOfAll(t *testing.T) {
	for _, n := range numbers() {
		want, wantOut := counts(new(big.Int).Lsh(big.NewInt(int64(n)), 32))
		if v, out := fix.Of(n); v != want || out != wantOut {
			t.Errorf("Of(%d) = %d, %t; want %d, %t", n, v, out, want, wantOut)
		}
	}
}

func TestPartsTable(t *testing.T) {
	for _, x := range []struct{ a, floor, rest, near int }{
		{0, 0, 0, 0}, {1, 0, 1, 0}, {-1, -1, one - 1, 0},
		{half - 1, 0, half - 1, 0}, {half, 0, half, 1}, {half + 1, 0, half + 1, 1},
		{-half - 1, -1, half - 1, -1}, {-half, -1, half, 0}, {-half + 1, -1, half + 1, 0},
		{one - 1, 0, one - 1, 1}, {one, 1, 0, 1}, {one + 1, 1, 1, 1},
		{-one - 1, -2, one - 1, -1}, {-one, -1, 0, -1}, {-one + 1, -1, 1, -1},
		{3*one + half - 1, 3, half - 1, 3}, {3*one + half, 3, half, 4},
		{lim - 1, top - 1, one - 1, top}, {lim - half, top - 1, half, top}, {lim - half - 1, top - 1, half - 1, top - 1},
		{lim, top, 0, top}, {lim + 1, top, 0, top}, {lim + half, top, 0, top}, {math.MaxInt, top, 0, top},
		{-lim + 1, -top, 1, -top}, {-lim, -top, 0, -top}, {-lim - 1, -top, 0, -top}, {-lim - one, -top, 0, -top}, {math.MinInt, -top, 0, -top},
	} {
		floor, rest, near := fix.Floor(x.a), fix.Rest(x.a), fix.Near(x.a)
		if floor != x.floor || rest != x.rest || near != x.near {
			t.Errorf("Floor(%d), Rest, Near = %d, %d, %d; want %d, %d, %d", x.a, floor, rest, near, x.floor, x.rest, x.near)
		}
	}
}

func TestPartsAll(t *testing.T) {
	for _, a := range numbers() {
		floor, rest := wantedParts(a, 0)
		near, _ := wantedParts(a, half)
		if fix.Floor(a) != floor || fix.Rest(a) != rest || fix.Near(a) != near {
			t.Errorf("Floor(%d), Rest, Near = %d, %d, %d; want %d, %d, %d", a, fix.Floor(a), fix.Rest(a), fix.Near(a), floor, rest, near)
		}
	}
}

// P1.3

func TestSubTakesBackAdd(t *testing.T) {
	held := 0
	pairs(func(a, b int) {
		sum, out := fix.Add(a, b)
		if out {
			return
		}
		held++
		if back, out := fix.Sub(sum, b); back != a || out {
			t.Errorf("Sub(Add(%d, %d), %d) = %d, %t; want %d, false", a, b, b, back, out, a)
		}
	})
	// Were everything told as clamped, the loop above would ask nothing.
	if held < 1000 {
		t.Errorf("only %d sums were told as not clamped", held)
	}
}
