package root_test

import (
	"math"
	"math/big"
	"testing"

	"outrigger/api"
	"outrigger/fix"
	"outrigger/root"
	"outrigger/wide"
)

const (
	one = api.One
	lim = api.Lim

	lowHi   = -1 << 61
	highHi  = 1<<61 - 1
	highLo  = 1<<62 - 1
	oneWide = 1 << 62 // what one of Hi is, in Lo

	// The square of lim is limHi, 0; that of lim + 1 is limHi, nextLo.
	limHi  = 1 << 54
	nextLo = 1<<59 + 1
)

func w(hi, lo int) api.Wide { return api.Wide{Hi: hi, Lo: lo} }

// around is numbers with their neighbours, of both signs; what goes beyond int wraps round.
func around(numbers ...int) []int {
	var all []int
	for _, n := range numbers {
		all = append(all, n-1, n, n+1, -n-1, -n, -n+1)
	}
	return all
}

// edges is numbers at which an answer changes its kind, alone or with another one of them.
func edges() []int {
	all := around(0, 3, 5, 1<<16, 1<<26, one/2, one, 2*one, 4*one, 1<<45, lim/2, lim, 2*lim, 1<<62)
	return append(all, math.MinInt, math.MinInt+1, math.MaxInt-1, math.MaxInt)
}

// spread is numbers of all sizes and both signs, the same ones at each run.
func spread(count int) []int {
	all := make([]int, 0, count)
	x := uint64(1)
	for i := range count {
		x ^= x << 13
		x ^= x >> 7
		x ^= x << 17
		all = append(all, int(x)>>(i%64))
	}
	return all
}

// numbers is the edges and spread ones.
func numbers() []int { return append(edges(), spread(4096)...) }

// pairs hands on every edge with every edge, and the spread numbers two by two.
func pairs(each func(a, b int)) {
	for _, a := range edges() {
		for _, b := range edges() {
			each(a, b)
		}
	}
	s := spread(4096)
	for i := range len(s) - 1 {
		each(s[i], s[i+1])
	}
	// Neighbours in the spread are nearly of one size; these are not.
	for i := range len(s) - 23 {
		each(s[i], s[i+23])
	}
}

// asWide is a whole number without an end as the struct that stands for it.
func asWide(n *big.Int) api.Wide {
	// Of a divisor above 0, DivMod goes down.
	hi, lo := new(big.Int).DivMod(n, number(oneWide), new(big.Int))
	return w(int(hi.Int64()), int(lo.Int64()))
}

// wides is structs at which a root changes its kind, squares and their neighbours, and ones between; some are no wide numbers.
func wides() []api.Wide {
	var all []api.Wide
	for _, hi := range append(around(0, 1, 1<<28, limHi), math.MinInt, lowHi-1, lowHi, lowHi+1, highHi-1, highHi, highHi+1, math.MaxInt) {
		for _, lo := range append(around(0, 4, one, nextLo), highLo-1, highLo, oneWide, oneWide+1, math.MinInt, math.MaxInt) {
			all = append(all, w(hi, lo))
		}
	}
	for _, n := range numbers() {
		// Beyond this a square is no wide number.
		side := number(n >> 3)
		square := new(big.Int).Mul(side, side)
		for _, beside := range []int64{-1, 0, 1} {
			all = append(all, asWide(new(big.Int).Add(square, big.NewInt(beside))))
		}
	}
	s := spread(4096)
	for i := range len(s) - 1 {
		all = append(all, w(s[i]>>2, s[i+1]&highLo))
	}
	return all
}

// What follows tells the document's words once more, by whole numbers without an end.

func number(n int) *big.Int { return big.NewInt(int64(n)) }

// counts is the value that a number counts as, and whether that is another one.
func counts(n int) (*big.Int, bool) {
	x := number(n)
	if x.CmpAbs(number(lim)) <= 0 {
		return x, false
	}
	return number(x.Sign() * lim), true
}

func isWide(x api.Wide) bool {
	return x.Hi >= lowHi && x.Hi <= highHi && x.Lo >= 0 && x.Lo <= highLo
}

// wantedRoot is the root of a number, and whether there is none.
func wantedRoot(n *big.Int) (int, bool) {
	if n.Sign() < 0 {
		return 0, true
	}
	side := new(big.Int).Sqrt(n)
	if side.Cmp(number(lim)) > 0 {
		return lim, true
	}
	return int(side.Int64()), false
}

func wantedWide(x api.Wide) (int, bool) {
	if !isWide(x) {
		return 0, true
	}
	n := new(big.Int).Mul(number(x.Hi), number(oneWide))
	return wantedRoot(n.Add(n, number(x.Lo)))
}

func wantedSqrt(a int) (int, bool) {
	x, aOut := counts(a)
	n, out := wantedRoot(x.Mul(x, number(one)))
	return n, aOut || out
}

func wantedHyp(a, b int) (int, bool) {
	x, aOut := counts(a)
	y, bOut := counts(b)
	n, out := wantedRoot(x.Add(x.Mul(x, x), y.Mul(y, y)))
	return n, aOut || bOut || out
}

// P4.1

func TestWideTable(t *testing.T) {
	for _, x := range []struct {
		w    api.Wide
		want int
		out  bool
	}{
		{w(0, 0), 0, false}, {w(0, 1), 1, false}, {w(0, 2), 1, false}, {w(0, 3), 1, false}, {w(0, 4), 2, false}, {w(0, 5), 2, false}, {w(0, 8), 2, false}, {w(0, 9), 3, false}, {w(0, 10), 3, false},
		{w(0, 99), 9, false}, {w(0, 100), 10, false}, {w(0, 101), 10, false}, {w(0, 1<<40-1), 1<<20 - 1, false}, {w(0, 1<<40), 1 << 20, false}, {w(0, 1<<40+1), 1 << 20, false},
		// About 2^62, where Hi begins.
		{w(0, highLo), 1<<31 - 1, false}, {w(1, 0), 1 << 31, false}, {w(1, 1), 1 << 31, false}, {w(1, 1<<32), 1 << 31, false}, {w(1, 1<<32+1), 1<<31 + 1, false}, {w(3, highLo), 1<<32 - 1, false}, {w(4, 0), 1 << 32, false}, {w(9, 0), 3 << 31, false}, {w(1<<28, 0), 1 << 45, false},
		// At the square of Lim - 1, of Lim, and of Lim + 1.
		{w(limHi-1, oneWide-2*lim), lim - 2, false}, {w(limHi-1, oneWide-2*lim+1), lim - 1, false}, {w(limHi-1, oneWide-2*lim+2), lim - 1, false},
		{w(limHi-1, highLo), lim - 1, false}, {w(limHi, 0), lim, false}, {w(limHi, 1), lim, false}, {w(limHi, nextLo-1), lim, false}, {w(limHi, nextLo), lim, true}, {w(limHi, nextLo+1), lim, true},
		{w(limHi+1, 0), lim, true}, {w(4*limHi, 0), lim, true}, {w(highHi, 0), lim, true}, {w(highHi, highLo-1), lim, true}, {w(highHi, highLo), lim, true},
		// Below 0.
		{w(-1, highLo), 0, true}, {w(-1, highLo-3), 0, true}, {w(-1, 0), 0, true}, {w(-4, 0), 0, true}, {w(-limHi, 0), 0, true}, {w(lowHi, 0), 0, true}, {w(lowHi, 1), 0, true}, {w(lowHi, highLo), 0, true},
		// What is no wide number counts as 0, and is told.
		{w(0, -1), 0, true}, {w(0, oneWide), 0, true}, {w(4, -1), 0, true}, {w(4, oneWide), 0, true}, {w(-4, -1), 0, true}, {w(limHi+1, -1), 0, true}, {w(lowHi-1, 0), 0, true}, {w(highHi+1, 0), 0, true}, {w(lowHi, -1), 0, true}, {w(highHi, oneWide), 0, true},
		{w(math.MinInt, math.MinInt), 0, true}, {w(math.MaxInt, math.MaxInt), 0, true}, {w(math.MinInt, 0), 0, true}, {w(math.MaxInt, 0), 0, true}, {w(0, math.MinInt), 0, true}, {w(0, math.MaxInt), 0, true},
	} {
		if n, out := root.Wide(x.w); n != x.want || out != x.out {
			t.Errorf("Wide(%v) = %d, %t; want %d, %t", x.w, n, out, x.want, x.out)
		}
	}
}

func TestWideAll(t *testing.T) {
	for _, x := range wides() {
		want, wantOut := wantedWide(x)
		if n, out := root.Wide(x); n != want || out != wantOut {
			t.Errorf("Wide(%v) = %d, %t; want %d, %t", x, n, out, want, wantOut)
		}
	}
}

// Every small number, so that no root is missed between two squares.
func TestWideSmall(t *testing.T) {
	side := 0
	for n := range 20000 {
		if (side+1)*(side+1) == n {
			side++
		}
		if got, out := root.Wide(wide.Of(n)); got != side || out {
			t.Errorf("Wide(Of(%d)) = %d, %t; want %d, false", n, got, out, side)
		}
	}
}

// P4.2

func TestSqrtTable(t *testing.T) {
	for _, x := range []struct {
		a, want int
		out     bool
	}{
		{0, 0, false}, {one, one, false}, {4 * one, 2 * one, false}, {9 * one, 3 * one, false}, {one / 4, one / 2, false}, {2 * one, 6074000999, false}, {3 * one, 7439101573, false}, {one / 2, 3037000499, false},
		{1, 1 << 16, false}, {2, 92681, false}, {3, 113511, false}, {4, 1 << 17, false}, {one - 1, one - 1, false}, {one + 1, one, false}, {one + 2, one, false}, {one + 3, one + 1, false}, {4*one - 1, 2*one - 1, false}, {4*one + 1, 2 * one, false},
		// Below 0 there is none.
		{-1, 0, true}, {-one, 0, true}, {-4 * one, 0, true}, {-lim + 1, 0, true}, {-lim, 0, true},
		// At the ends, and beyond them.
		{lim - 1, 1<<45 - 1, false}, {lim, 1 << 45, false}, {lim + 1, 1 << 45, true}, {2 * lim, 1 << 45, true}, {math.MaxInt, 1 << 45, true}, {-lim - 1, 0, true}, {math.MinInt, 0, true},
	} {
		if n, out := root.Sqrt(x.a); n != x.want || out != x.out {
			t.Errorf("Sqrt(%d) = %d, %t; want %d, %t", x.a, n, out, x.want, x.out)
		}
	}
}

func TestSqrtAll(t *testing.T) {
	for _, a := range numbers() {
		want, wantOut := wantedSqrt(a)
		if n, out := root.Sqrt(a); n != want || out != wantOut {
			t.Errorf("Sqrt(%d) = %d, %t; want %d, %t", a, n, out, want, wantOut)
		}
	}
}

func TestHypTable(t *testing.T) {
	for _, x := range []struct {
		a, b, want int
		out        bool
	}{
		{0, 0, 0, false}, {0, 1, 1, false}, {1, 0, 1, false}, {1, 1, 1, false}, {2, 2, 2, false}, {3, 4, 5, false}, {-3, 4, 5, false}, {3, -4, 5, false}, {-3, -4, 5, false}, {4, 3, 5, false}, {5, 12, 13, false}, {5, 11, 12, false}, {5, 13, 13, false},
		{3 * one, 4 * one, 5 * one, false}, {-3 * one, -4 * one, 5 * one, false}, {one, one, 6074000999, false}, {-one, one, 6074000999, false}, {one, 0, one, false}, {0, -one, one, false},
		// At the ends, where the sum of the squares is told from the square of Lim + 1 on, which is 2 * Lim + 1 more than that of Lim.
		{lim, 0, lim, false}, {0, lim, lim, false}, {-lim, 0, lim, false}, {0, -lim, lim, false}, {lim - 1, 0, lim - 1, false}, {lim - 1, 1, lim - 1, false}, {lim, 1, lim, false}, {-1, -lim, lim, false},
		{lim, 759250124, lim, false}, {-759250124, lim, lim, false}, {lim, 759250125, lim, true}, {759250125, lim, lim, true}, {-lim, -759250125, lim, true},
		{lim - 1, 759250124, lim - 1, false}, {lim - 1, 759250125, lim, false}, {lim / 5 * 3, lim / 5 * 4, lim / 5 * 5, false},
		{lim, lim, lim, true}, {lim, -lim, lim, true}, {-lim, -lim, lim, true}, {lim - 1, lim - 1, lim, true},
		// What was clamped is told even where the root is a value.
		{lim + 1, 0, lim, true}, {0, lim + 1, lim, true}, {-lim - 1, 0, lim, true}, {0, -lim - 1, lim, true}, {lim + 1, 1, lim, true}, {lim + 1, -lim - 1, lim, true},
		{math.MinInt, 0, lim, true}, {0, math.MinInt, lim, true}, {math.MaxInt, 0, lim, true}, {0, math.MaxInt, lim, true}, {math.MinInt, math.MinInt, lim, true}, {math.MinInt, math.MaxInt, lim, true}, {math.MaxInt, math.MaxInt, lim, true},
	} {
		if n, out := root.Hyp(x.a, x.b); n != x.want || out != x.out {
			t.Errorf("Hyp(%d, %d) = %d, %t; want %d, %t", x.a, x.b, n, out, x.want, x.out)
		}
	}
}

func TestHypAll(t *testing.T) {
	pairs(func(a, b int) {
		want, wantOut := wantedHyp(a, b)
		if n, out := root.Hyp(a, b); n != want || out != wantOut {
			t.Errorf("Hyp(%d, %d) = %d, %t; want %d, %t", a, b, n, out, want, wantOut)
		}
	})
}

// P4.3

func TestRootOfSquare(t *testing.T) {
	for _, a := range numbers() {
		want := fix.Abs(a)
		if n, out := root.Wide(wide.Mul(a, a)); n != want || out {
			t.Errorf("Wide(Mul(%d, %d)) = %d, %t; want %d, false", a, a, n, out, want)
		}
		if n, _ := root.Hyp(a, 0); n != want {
			t.Errorf("Hyp(%d, 0) = %d; want %d", a, n, want)
		}
	}
}

// One less than a square has the root below, but where the square is 0.
func TestRootBelowSquare(t *testing.T) {
	for _, a := range numbers() {
		if a == 0 {
			continue
		}
		less, _ := wide.Add(wide.Mul(a, a), wide.Of(-1))
		if n, out := root.Wide(less); n != fix.Abs(a)-1 || out {
			t.Errorf("Wide(one less than Mul(%d, %d)) = %d, %t; want %d, false", a, a, n, out, fix.Abs(a)-1)
		}
	}
}
