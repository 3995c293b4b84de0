package scale_test

import (
	"math"
	"math/big"
	"testing"

	"outrigger/api"
	"outrigger/fix"
	"outrigger/scale"
	"outrigger/wide"
)

const (
	one  = api.One
	half = api.One / 2
	lim  = api.Lim

	lowHi   = -1 << 61
	highHi  = 1<<61 - 1
	highLo  = 1<<62 - 1
	oneWide = 1 << 62 // what one of Hi is, in Lo

	// As values, 3/2 times this is a half above Lim.
	twoThirds = (2*lim + 1) / 3
	// As values, halves times share is a half below Lim.
	halves = 179951 * half
	share  = (2*lim - 1) / 179951
)

func w(hi, lo int) api.Wide { return api.Wide{Hi: hi, Lo: lo} }

// around is numbers with their neighbours, of both signs; what goes beyond int wraps round.
func around(numbers ...int) []int {
	var all []int
	for _, n := range numbers {
		all = append(all, n-1, n, n+1, -n-1, -n, -n+1)
	}
	return all
}

func ends() []int { return []int{math.MinInt, math.MinInt + 1, math.MaxInt - 1, math.MaxInt} }

// edges is numbers at which an answer changes its kind, alone or with another one of them.
func edges() []int {
	all := around(0, 3, 1<<26, half, one, one+half, 2*one, 3*one, 1<<45, lim/2, lim-half, lim, 2*lim, 1<<62)
	return append(append(all, ends()...), twoThirds, -twoThirds, halves, -halves, share, -share)
}

// fewEdges is the edges that matter three by three.
func fewEdges() []int {
	return append(around(0, 3, half, one, 2*one, lim/2, lim), ends()...)
}

// spread is numbers of all sizes and both signs, the same ones at each run.
func spread(count int) []int {
	all := make([]int, 0, count)
	x := uint64(1)
	for i := range count {
		x ^= x << 13
		x ^= x >> 7
		x ^= x << 17
		all = append(all, int(x)>>(i%64))
	}
	return all
}

// pairs hands on every edge with every edge, and the spread numbers two by two.
func pairs(each func(a, b int)) {
	for _, a := range edges() {
		for _, b := range edges() {
			each(a, b)
		}
	}
	s := spread(16384)
	for i := range len(s) - 1 {
		each(s[i], s[i+1])
	}
	// Neighbours in the spread are nearly of one size; these are not.
	for i := range len(s) - 23 {
		each(s[i], s[i+23])
	}
}

// wides is structs at which Round changes its kind, and ones between; some are no wide numbers.
func wides() []api.Wide {
	var all []api.Wide
	for _, hi := range append(around(0, 1, 1<<27, 1<<28, 1<<54), math.MinInt, lowHi-1, lowHi, lowHi+1, highHi-1, highHi, highHi+1, math.MaxInt) {
		for _, lo := range append(around(0, half, one, one+half, oneWide-half, oneWide-one), highLo-1, highLo, oneWide, oneWide+1, math.MinInt, math.MaxInt) {
			all = append(all, w(hi, lo))
		}
	}
	s := spread(8192)
	for i := range len(s) - 1 {
		all = append(all, w(s[i]>>2, s[i+1]&highLo))
	}
	return all
}

// What follows tells the document's words once more, by whole numbers without an end.

func number(n int) *big.Int { return big.NewInt(int64(n)) }

// counts is the value that a number counts as, and whether that is another one.
func counts(n *big.Int) (int, bool) {
	if n.CmpAbs(number(lim)) <= 0 {
		return int(n.Int64()), false
	}
	return n.Sign() * lim, true
}

// rounded is the greatest whole number that is no greater than n by d and a half more.
func rounded(n, d *big.Int) *big.Int {
	if d.Sign() < 0 {
		n, d = new(big.Int).Neg(n), new(big.Int).Neg(d)
	}
	twice := new(big.Int).Lsh(n, 1)
	// Of a divisor above 0, Div goes down.
	return twice.Div(twice.Add(twice, d), new(big.Int).Lsh(d, 1))
}

func isWide(x api.Wide) bool {
	return x.Hi >= lowHi && x.Hi <= highHi && x.Lo >= 0 && x.Lo <= highLo
}

func wantedRound(x api.Wide) (int, bool) {
	if !isWide(x) {
		return 0, true
	}
	n := new(big.Int).Mul(number(x.Hi), number(oneWide))
	return counts(rounded(n.Add(n, number(x.Lo)), number(one)))
}

func wantedTimes(a, b int) (int, bool) {
	x, aOut := counts(number(a))
	y, bOut := counts(number(b))
	n, out := counts(rounded(new(big.Int).Mul(number(x), number(y)), number(one)))
	return n, aOut || bOut || out
}

func wantedOver(a, b int) (int, bool) {
	x, aOut := counts(number(a))
	y, bOut := counts(number(b))
	if y == 0 {
		return number(a).Sign() * lim, true
	}
	n, out := counts(rounded(new(big.Int).Mul(number(x), number(one)), number(y)))
	return n, aOut || bOut || out
}

func wantedMix(a, b, t int) (int, bool) {
	x, aOut := counts(number(a))
	y, bOut := counts(number(b))
	way, wayOut := counts(new(big.Int).Sub(number(y), number(x)))
	part, partOut := wantedTimes(way, t)
	n, out := counts(new(big.Int).Add(number(x), number(part)))
	return n, aOut || bOut || wayOut || partOut || out
}

// P3.1

func TestRoundTable(t *testing.T) {
	for _, x := range []struct {
		w    api.Wide
		want int
		out  bool
	}{
		{w(0, 0), 0, false}, {w(0, 1), 0, false}, {w(0, 5*one), 5, false}, {w(-1, oneWide-5*one), -5, false}, {w(1, 0), 1 << 30, false}, {w(-1, 0), -1 << 30, false},
		// At a half, and beside it.
		{w(0, half-1), 0, false}, {w(0, half), 1, false}, {w(0, half+1), 1, false}, {w(0, one+half-1), 1, false}, {w(0, one+half), 2, false},
		{w(-1, oneWide-half-1), -1, false}, {w(-1, oneWide-half), 0, false}, {w(-1, oneWide-half+1), 0, false}, {w(-1, oneWide-one-half-1), -2, false}, {w(-1, oneWide-one-half), -1, false},
		{w(-1, highLo), 0, false}, {w(0, highLo), 1 << 30, false}, {w(6, oneWide-half-1), 7<<30 - 1, false}, {w(6, oneWide-half), 7 << 30, false},
		// At the ends, and beyond them.
		{w(1<<28-1, oneWide-half-1), lim - 1, false}, {w(1<<28-1, oneWide-half), lim, false}, {w(1<<28, 0), lim, false}, {w(1<<28, half-1), lim, false}, {w(1<<28, half), lim, true}, {w(1<<28, one), lim, true},
		{w(-1<<28, half), -lim + 1, false}, {w(-1<<28, half-1), -lim, false}, {w(-1<<28, 0), -lim, false}, {w(-1<<28-1, oneWide-half), -lim, false}, {w(-1<<28-1, oneWide-half-1), -lim, true}, {w(-1<<28-1, 0), -lim, true},
		{w(1<<54, 0), lim, true}, {w(-1<<54, 0), -lim, true},
		{w(highHi, highLo), lim, true}, {w(highHi, highLo-half), lim, true}, {w(highHi, 0), lim, true}, {w(lowHi, 0), -lim, true}, {w(lowHi, highLo), -lim, true},
		// What is no wide number counts as 0, and is told.
		{w(0, -1), 0, true}, {w(0, oneWide), 0, true}, {w(5, -half), 0, true}, {w(lowHi-1, 0), 0, true}, {w(highHi+1, 0), 0, true}, {w(lowHi, -1), 0, true}, {w(highHi, oneWide), 0, true},
		{w(math.MinInt, math.MinInt), 0, true}, {w(math.MaxInt, math.MaxInt), 0, true}, {w(math.MinInt, 0), 0, true}, {w(0, math.MinInt), 0, true},
	} {
		if n, out := scale.Round(x.w); n != x.want || out != x.out {
			t.Errorf("Round(%v) = %d, %t; want %d, %t", x.w, n, out, x.want, x.out)
		}
	}
}

func TestRoundAll(t *testing.T) {
	for _, x := range wides() {
		want, wantOut := wantedRound(x)
		if n, out := scale.Round(x); n != want || out != wantOut {
			t.Errorf("Round(%v) = %d, %t; want %d, %t", x, n, out, want, wantOut)
		}
	}
}

func TestTimesTable(t *testing.T) {
	for _, x := range []struct {
		a, b, want int
		out        bool
	}{
		{0, 0, 0, false}, {0, -one, 0, false}, {half, half, half / 2, false}, {one, 7, 7, false}, {one, -7, -7, false},
		{3 * one, 5 * one, 15 * one, false}, {-3 * one, 5 * one, -15 * one, false}, {3 * one, -5 * one, -15 * one, false}, {-3 * one, -5 * one, 15 * one, false},
		// At a half, and beside it.
		{1, half - 1, 0, false}, {1, half, 1, false}, {1, half + 1, 1, false}, {3, half, 2, false}, {-3, -half, 2, false},
		{-1, half - 1, 0, false}, {-1, half, 0, false}, {-1, half + 1, -1, false}, {-3, half, -1, false}, {3, -half, -1, false},
		// At the ends, and beyond them.
		{lim, one, lim, false}, {lim, -one, -lim, false}, {-lim, one, -lim, false}, {-lim, -one, lim, false}, {lim, one - 1, lim - lim/one, false}, {lim, one + 1, lim, true}, {-lim, one + 1, -lim, true}, {lim, -one - 1, -lim, true}, {-lim, -one - 1, lim, true},
		{1 << 45, 1 << 45, lim, false}, {1 << 45, 1<<45 + 1, lim, true}, {-1 << 45, 1<<45 + 1, -lim, true}, {lim, 2 * one, lim, true}, {lim, lim, lim, true}, {-lim, lim, -lim, true}, {-lim, -lim, lim, true},
		// A half beyond an end is rounded first, then clamped.
		{twoThirds, one + half, lim, true}, {-twoThirds, one + half, -lim, false}, {twoThirds, -one - half, -lim, false}, {-twoThirds, -one - half, lim, true},
		{share, halves, lim, false}, {-share, halves, -lim + 1, false}, {share, -halves, -lim + 1, false}, {-share, -halves, lim, false},
		// What was clamped is told even where the product is a value.
		{lim + 1, 0, 0, true}, {0, -lim - 1, 0, true}, {lim + 1, one, lim, true}, {one, -lim - 1, -lim, true}, {-lim - 1, half, -lim / 2, true}, {half, lim + 1, lim / 2, true},
		{math.MaxInt, 0, 0, true}, {0, math.MinInt, 0, true}, {math.MinInt, 1, -1 << 26, true}, {-1, math.MinInt, 1 << 26, true}, {math.MaxInt, -1, -1 << 26, true}, {math.MinInt, math.MinInt, lim, true}, {math.MinInt, math.MaxInt, -lim, true},
	} {
		if n, out := scale.Times(x.a, x.b); n != x.want || out != x.out {
			t.Errorf("Times(%d, %d) = %d, %t; want %d, %t", x.a, x.b, n, out, x.want, x.out)
		}
	}
}

func TestTimesAll(t *testing.T) {
	pairs(func(a, b int) {
		want, wantOut := wantedTimes(a, b)
		if n, out := scale.Times(a, b); n != want || out != wantOut {
			t.Errorf("Times(%d, %d) = %d, %t; want %d, %t", a, b, n, out, want, wantOut)
		}
	})
}

// P3.2

func TestOverTable(t *testing.T) {
	for _, x := range []struct {
		a, b, want int
		out        bool
	}{
		{one, 3 * one, 1431655765, false}, {-one, 3 * one, -1431655765, false}, {one, -3 * one, -1431655765, false}, {-one, -3 * one, 1431655765, false},
		{2 * one, 3 * one, 2863311531, false}, {-2 * one, 3 * one, -2863311531, false}, {7, 7, one, false}, {7, -7, -one, false}, {7, one, 7, false}, {-7, one, -7, false}, {15 * one, 5 * one, 3 * one, false},
		{0, 1, 0, false}, {0, -5, 0, false}, {0, lim, 0, false}, {0, -lim, 0, false},
		// At a half, and beside it.
		{1, 2*one - 1, 1, false}, {1, 2 * one, 1, false}, {1, 2*one + 1, 0, false}, {3, 2 * one, 2, false}, {-1, -2 * one, 1, false}, {-3, -2 * one, 2, false},
		{-1, 2*one - 1, -1, false}, {-1, 2 * one, 0, false}, {-1, 2*one + 1, 0, false}, {-3, 2 * one, -1, false}, {1, -2 * one, 0, false}, {3, -2 * one, -1, false}, {3, -2*one + 1, -2, false},
		// Rounded up to a whole one.
		{lim - 1, lim, one, false}, {-lim + 1, lim, -one, false}, {lim, lim - 1, one, false}, {lim/2 - 1, lim / 2, one, false},
		// At the ends, and beyond them.
		{lim, one, lim, false}, {lim, -one, -lim, false}, {-lim, one, -lim, false}, {-lim, -one, lim, false}, {lim - 1, one, lim - 1, false}, {-lim + 1, one, -lim + 1, false},
		{1 << 26, 1, lim, false}, {1<<26 - 1, 1, lim - one, false}, {1<<26 + 1, 1, lim, true}, {-1 << 26, 1, -lim, false}, {-1<<26 - 1, 1, -lim, true}, {1<<26 + 1, -1, -lim, true}, {-1<<26 - 1, -1, lim, true},
		{1 << 27, 2, lim, false}, {1<<27 + 1, 2, lim, true}, {-1<<27 - 1, 2, -lim, true},
		{lim, one - 1, lim, true}, {-lim, one - 1, -lim, true}, {lim, 1, lim, true}, {lim, -1, -lim, true}, {-lim, 1, -lim, true}, {-lim, -1, lim, true},
		{lim, lim, one, false}, {lim, -lim, -one, false}, {1, lim, 0, false}, {1 << 25, lim, 1, false}, {1<<25 - 1, lim, 0, false}, {-1 << 25, lim, 0, false}, {-1<<25 - 1, lim, -1, false},
		// A b of 0.
		{0, 0, 0, true}, {1, 0, lim, true}, {-1, 0, -lim, true}, {7 * one, 0, lim, true}, {-7 * one, 0, -lim, true}, {lim, 0, lim, true}, {-lim, 0, -lim, true}, {lim + 1, 0, lim, true}, {-lim - 1, 0, -lim, true}, {math.MaxInt, 0, lim, true}, {math.MinInt, 0, -lim, true},
		// What was clamped is told even where the quotient is a value.
		{lim + 1, one, lim, true}, {-lim - 1, 2 * one, -lim / 2, true}, {0, lim + 1, 0, true}, {0, math.MinInt, 0, true}, {lim, lim + 1, one, true}, {1 << 25, -lim - 1, 0, true}, {-1 << 25, -lim - 1, 1, true},
		{math.MaxInt, one, lim, true}, {math.MinInt, -one, lim, true}, {math.MinInt, math.MinInt, one, true}, {math.MinInt, math.MaxInt, -one, true}, {1, math.MinInt, 0, true}, {lim / 2, math.MinInt, -half, true},
	} {
		if n, out := scale.Over(x.a, x.b); n != x.want || out != x.out {
			t.Errorf("Over(%d, %d) = %d, %t; want %d, %t", x.a, x.b, n, out, x.want, x.out)
		}
	}
}

func TestOverAll(t *testing.T) {
	pairs(func(a, b int) {
		want, wantOut := wantedOver(a, b)
		if n, out := scale.Over(a, b); n != want || out != wantOut {
			t.Errorf("Over(%d, %d) = %d, %t; want %d, %t", a, b, n, out, want, wantOut)
		}
	})
}

// Quotients of small numbers by small multiples of 1 meet exact halves often, which spread numbers do not.
func TestOverNearHalves(t *testing.T) {
	for a := -40; a <= 40; a++ {
		for k := -12; k <= 12; k++ {
			for b := k*one - 1; b <= k*one+1; b++ {
				want, wantOut := wantedOver(a, b)
				if n, out := scale.Over(a, b); n != want || out != wantOut {
					t.Errorf("Over(%d, %d) = %d, %t; want %d, %t", a, b, n, out, want, wantOut)
				}
			}
		}
	}
}

// P3.3

func TestMixTable(t *testing.T) {
	for _, x := range []struct {
		a, b, t, want int
		out           bool
	}{
		{0, 0, 0, 0, false}, {10, 4, 0, 10, false}, {10, 4, one, 4, false}, {10, 4, half, 7, false}, {0, 4, half, 2, false}, {-10, 4, half, -3, false},
		{one, 3 * one, half / 2, one + half, false}, {3 * one, one, half / 2, 2*one + half, false},
		// The product is rounded, not the sum.
		{0, 1, half, 1, false}, {1, 0, half, 1, false}, {0, -1, half, 0, false}, {-1, 0, half, 0, false}, {0, 1, half - 1, 0, false}, {1, 0, half + 1, 0, false},
		// A t below 0 and beyond 1.
		{0, 4, 2 * one, 8, false}, {10, 4, 2 * one, -2, false}, {10, 4, -one, 16, false}, {0, one, one + 1, one + 1, false}, {0, one, -1, -1, false},
		// Each of the three clamped by itself.
		{lim, -lim, one, 0, true}, {-lim, lim, one, 0, true}, {lim, -lim, 0, lim, true}, {lim, -lim, 2 * one, 0, true}, {-lim, lim, half, -lim / 2, true},
		{0, lim, 2 * one, lim, true}, {0, -lim, 2 * one, -lim, true}, {-lim / 2, lim / 2, 2 * one, lim / 2, true}, {0, lim, one + 1, lim, true},
		{lim / 2, lim, 2 * one, lim, true}, {-lim / 2, -lim, 2 * one, -lim, true}, {lim - 1, lim, 2 * one, lim, true}, {-lim + 1, -lim, 2 * one, -lim, true},
		// At the ends.
		{0, lim, one, lim, false}, {0, -lim, one, -lim, false}, {lim, lim, lim, lim, false}, {-lim, -lim, -lim, -lim, false}, {lim, 0, one, 0, false}, {lim - 2, lim - 1, 2 * one, lim, false}, {-lim + 2, -lim + 1, 2 * one, -lim, false}, {lim / 2, -lim / 2, one, -lim / 2, false},
		// What was clamped is told even where the rest is as it would be.
		{lim + 1, lim, 0, lim, true}, {lim, lim + 1, 0, lim, true}, {0, 0, lim + 1, 0, true}, {0, 0, -lim - 1, 0, true}, {-lim - 1, -lim, 0, -lim, true}, {0, lim + 1, half, lim / 2, true}, {0, 1, lim + 1, 1 << 26, true},
		{math.MinInt, 0, one, 0, true}, {0, math.MinInt, half, -lim / 2, true}, {0, 1, math.MinInt, -1 << 26, true}, {math.MaxInt, math.MaxInt, math.MaxInt, lim, true}, {math.MinInt, math.MinInt, math.MinInt, -lim, true}, {math.MinInt, math.MaxInt, math.MaxInt, 0, true},
	} {
		if n, out := scale.Mix(x.a, x.b, x.t); n != x.want || out != x.out {
			t.Errorf("Mix(%d, %d, %d) = %d, %t; want %d, %t", x.a, x.b, x.t, n, out, x.want, x.out)
		}
	}
}

func checkMix(t *testing.T, a, b, by int) {
	t.Helper()
	want, wantOut := wantedMix(a, b, by)
	if n, out := scale.Mix(a, b, by); n != want || out != wantOut {
		t.Errorf("Mix(%d, %d, %d) = %d, %t; want %d, %t", a, b, by, n, out, want, wantOut)
	}
}

func TestMixAll(t *testing.T) {
	few := fewEdges()
	for _, a := range few {
		for _, b := range few {
			for _, by := range few {
				checkMix(t, a, b, by)
			}
		}
	}
	s := spread(16384)
	for i := range len(s) - 46 {
		checkMix(t, s[i], s[i+23], s[i+46])
	}
}

// P3.4

// nearly: does n lie beside a by no more than the rounded product's half, divided by b, and the rounded quotient's half?
func nearly(n, a, b int) bool {
	beside := new(big.Int).Sub(number(n), number(a))
	beside.Mul(beside.Abs(beside), new(big.Int).Abs(number(2*b)))
	return beside.Cmp(number(one+fix.Abs(b))) <= 0
}

func TestOverTakesBackTimes(t *testing.T) {
	held := 0
	pairs(func(a, b int) {
		product, out := scale.Times(a, b)
		if out || b == 0 {
			return
		}
		held++
		back, out := scale.Over(product, b)
		if !nearly(back, a, b) {
			t.Errorf("Over(Times(%d, %d), %d) = %d, %t; want nearly %d", a, b, b, back, out, a)
		}
		// By what is 1 or more, no half is left to be seen.
		if fix.Abs(b) >= one && (back != a || out) {
			t.Errorf("Over(Times(%d, %d), %d) = %d, %t; want %d, false", a, b, b, back, out, a)
		}
	})
	// Were everything told as clamped, the loop above would ask nothing.
	if held < 10000 {
		t.Errorf("only %d products were told as not clamped", held)
	}
}

// A product of values is what Round makes of the exact one, so that sums of exact ones may be rounded once, by those above.
func TestTimesIsRoundOfMul(t *testing.T) {
	pairs(func(a, b int) {
		if a != max(min(a, lim), -lim) || b != max(min(b, lim), -lim) {
			return
		}
		n, out := scale.Times(a, b)
		if want, wantOut := scale.Round(wide.Mul(a, b)); n != want || out != wantOut {
			t.Errorf("Times(%d, %d) = %d, %t; Round of Mul %d, %t", a, b, n, out, want, wantOut)
		}
	})
}
