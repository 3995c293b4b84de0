package wide_test

import (
	"math"
	"math/big"
	"testing"

	"outrigger/api"
	"outrigger/wide"
)

const (
	lim     = api.Lim
	lowHi   = -1 << 61
	highHi  = 1<<61 - 1
	highLo  = 1<<62 - 1
	oneWide = 1 << 62 // what one of Hi is, in Lo
)

func w(hi, lo int) api.Wide { return api.Wide{Hi: hi, Lo: lo} }

func least() api.Wide    { return w(lowHi, 0) }
func greatest() api.Wide { return w(highHi, highLo) }

// around is numbers with their neighbours, of both signs; what goes beyond int wraps round.
func around(numbers ...int) []int {
	var all []int
	for _, n := range numbers {
		all = append(all, n-1, n, n+1, -n-1, -n, -n+1)
	}
	return all
}

func intEdges() []int {
	return append(around(0, 3, 1<<31, 1<<32, 1<<57, lim, 1<<59, 1<<60, 1<<61, 1<<62), math.MinInt, math.MinInt+1, math.MaxInt-1, math.MaxInt)
}

// wideEdges is structs at which an answer changes its kind; some are no wide numbers.
func wideEdges() []api.Wide {
	var all []api.Wide
	for _, hi := range []int{math.MinInt, lowHi - 1, lowHi, lowHi + 1, -1 << 54, -2, -1, 0, 1, 2, 1 << 54, highHi - 1, highHi, highHi + 1, math.MaxInt} {
		for _, lo := range []int{math.MinInt, -1, 0, 1, lim - 1, lim, lim + 1, oneWide - lim - 1, oneWide - lim, oneWide - lim + 1, highLo - 1, highLo, highLo + 1, math.MaxInt} {
			all = append(all, w(hi, lo))
		}
	}
	return all
}

// ks is powers at which Down changes its ways, and ones between.
func ks() []int {
	return []int{math.MinInt, -200, -62, -1, 0, 1, 2, 31, 32, 58, 60, 61, 62, 63, 64, 65, 100, 122, 123, 124, 125, 126, 127, 128, 186, 199, 200, 201, 256, 500, 1 << 40, math.MaxInt}
}

// spread is numbers of all sizes and both signs, the same ones at each run.
func spread(count int) []int {
	all := make([]int, 0, count)
	x := uint64(1)
	for i := range count {
		x ^= x << 13
		x ^= x >> 7
		x ^= x << 17
		all = append(all, int(x)>>(i%64))
	}
	return all
}

// wideSpread is wide numbers of all sizes and both signs.
func wideSpread(count int) []api.Wide {
	s := spread(2 * count)
	all := make([]api.Wide, 0, count)
	for i := range count {
		all = append(all, w(s[2*i]>>2, s[2*i+1]&highLo))
	}
	return all
}

func widePairs(each func(x, y api.Wide)) {
	edges := wideEdges()
	for _, x := range edges {
		for _, y := range edges {
			each(x, y)
		}
	}
	s := wideSpread(4096)
	for i := range len(s) - 1 {
		each(s[i], s[i+1])
	}
}

// What follows tells the document's words once more, by whole numbers without an end.

func number(n int) *big.Int { return big.NewInt(int64(n)) }

func isOne(x api.Wide) bool {
	return x.Hi >= lowHi && x.Hi <= highHi && x.Lo >= 0 && x.Lo <= highLo
}

// meant is the number that a struct counts as.
func meant(x api.Wide) *big.Int {
	if !isOne(x) {
		return new(big.Int)
	}
	n := new(big.Int).Mul(number(x.Hi), number(oneWide))
	return n.Add(n, number(x.Lo))
}

// written is the number as a struct; zero, false, if there is none for it.
func written(n *big.Int) (api.Wide, bool) {
	// Of a divisor above 0, DivMod's rest is never below 0.
	hi, lo := new(big.Int).DivMod(n, number(oneWide), new(big.Int))
	if hi.Cmp(number(lowHi)) < 0 || hi.Cmp(number(highHi)) > 0 {
		return api.Wide{}, false
	}
	return w(int(hi.Int64()), int(lo.Int64())), true
}

func valueOf(n int) *big.Int { return number(min(max(n, -lim), lim)) }

// P2.1

func TestSaneTable(t *testing.T) {
	for _, x := range []struct {
		w    api.Wide
		want bool
	}{
		{w(0, 0), true}, {w(1, 1), true}, {w(-1, 1), true}, {w(0, highLo), true}, {w(-1, highLo), true},
		{least(), true}, {w(lowHi, highLo), true}, {greatest(), true}, {w(highHi, 0), true},
		{w(lowHi-1, 0), false}, {w(highHi+1, 0), false}, {w(lowHi-1, highLo), false}, {w(highHi+1, highLo), false},
		{w(0, -1), false}, {w(0, highLo+1), false}, {w(lowHi, -1), false}, {w(highHi, highLo+1), false},
		{w(math.MinInt, 0), false}, {w(math.MaxInt, 0), false}, {w(0, math.MinInt), false}, {w(0, math.MaxInt), false},
		{w(math.MinInt, math.MinInt), false}, {w(math.MaxInt, math.MaxInt), false}, {w(highHi+1, -1), false},
	} {
		if got := wide.Sane(x.w); got != x.want {
			t.Errorf("Sane(%v) = %t; want %t", x.w, got, x.want)
		}
	}
}

func TestSaneAll(t *testing.T) {
	for _, x := range wideEdges() {
		if got := wide.Sane(x); got != isOne(x) {
			t.Errorf("Sane(%v) = %t; want %t", x, got, isOne(x))
		}
	}
	for _, x := range wideSpread(4096) {
		if !wide.Sane(x) {
			t.Errorf("Sane(%v) = false; want true", x)
		}
	}
}

func TestOfTable(t *testing.T) {
	for _, x := range []struct {
		n    int
		want api.Wide
	}{
		{0, w(0, 0)}, {1, w(0, 1)}, {-1, w(-1, highLo)}, {lim, w(0, lim)}, {-lim, w(-1, oneWide-lim)},
		// Of takes a whole number: beyond Lim it is not clamped.
		{lim + 1, w(0, lim+1)}, {-lim - 1, w(-1, oneWide-lim-1)},
		{highLo, w(0, highLo)}, {oneWide, w(1, 0)}, {oneWide + 1, w(1, 1)},
		{-oneWide + 1, w(-1, 1)}, {-oneWide, w(-1, 0)}, {-oneWide - 1, w(-2, highLo)},
		{math.MaxInt, w(1, highLo)}, {math.MinInt, w(-2, 0)}, {math.MinInt + 1, w(-2, 1)},
	} {
		if got := wide.Of(x.n); got != x.want {
			t.Errorf("Of(%d) = %v; want %v", x.n, got, x.want)
		}
	}
}

func TestOfAll(t *testing.T) {
	for _, n := range append(intEdges(), spread(4096)...) {
		want, _ := written(number(n))
		if got := wide.Of(n); got != want {
			t.Errorf("Of(%d) = %v; want %v", n, got, want)
		}
	}
}

func TestMulTable(t *testing.T) {
	for _, x := range []struct {
		a, b int
		want api.Wide
	}{
		{0, 0, w(0, 0)}, {0, 7, w(0, 0)}, {0, -7, w(0, 0)}, {-7, 0, w(0, 0)}, {0, math.MinInt, w(0, 0)},
		{3, 5, w(0, 15)}, {3, -5, w(-1, oneWide-15)}, {-3, 5, w(-1, oneWide-15)}, {-3, -5, w(0, 15)},
		{1 << 40, 1 << 40, w(1<<18, 0)}, {-1 << 40, 1 << 40, w(-1<<18, 0)}, {-1 << 40, -1 << 40, w(1<<18, 0)},
		{1 << 31, 1 << 31, w(1, 0)}, {1 << 31, -1 << 31, w(-1, 0)}, {1<<31 - 1, 1<<31 + 1, w(0, highLo)}, {-1<<31 + 1, 1<<31 + 1, w(-1, 1)},
		{lim, 1, w(0, lim)}, {-lim, 1, w(-1, oneWide-lim)}, {lim, lim, w(1<<54, 0)}, {-lim, lim, w(-1<<54, 0)}, {-lim, -lim, w(1<<54, 0)},
		{lim - 1, lim - 1, w(1<<54-1, oneWide-2*lim+1)},
		// What is no value counts as the nearest one.
		{lim + 1, 1, w(0, lim)}, {1, lim + 1, w(0, lim)}, {-lim - 1, 1, w(-1, oneWide-lim)}, {1, -lim - 1, w(-1, oneWide-lim)},
		{math.MinInt, 1, w(-1, oneWide-lim)}, {1, math.MinInt, w(-1, oneWide-lim)}, {math.MaxInt, 1, w(0, lim)},
		{math.MinInt, math.MinInt, w(1<<54, 0)}, {math.MinInt, math.MaxInt, w(-1<<54, 0)}, {math.MaxInt, math.MaxInt, w(1<<54, 0)},
	} {
		if got := wide.Mul(x.a, x.b); got != x.want {
			t.Errorf("Mul(%d, %d) = %v; want %v", x.a, x.b, got, x.want)
		}
	}
}

func TestMulAll(t *testing.T) {
	check := func(a, b int) {
		want, _ := written(new(big.Int).Mul(valueOf(a), valueOf(b)))
		if got := wide.Mul(a, b); got != want {
			t.Errorf("Mul(%d, %d) = %v; want %v", a, b, got, want)
		}
	}
	for _, a := range intEdges() {
		for _, b := range intEdges() {
			check(a, b)
		}
	}
	s := spread(8192)
	for i := range len(s) - 1 {
		check(s[i], s[i+1])
	}
}

func TestAddTable(t *testing.T) {
	none := api.Wide{}
	for _, x := range []struct {
		w, x, want api.Wide
		ok         bool
	}{
		{w(0, 0), w(0, 0), w(0, 0), true}, {w(1, 2), w(3, 4), w(4, 6), true}, {w(-1, highLo), w(0, 1), w(0, 0), true},
		{w(0, highLo), w(0, 1), w(1, 0), true}, {w(0, highLo), w(0, highLo), w(1, highLo-1), true}, {w(-1, highLo), w(-1, highLo), w(-1, highLo-1), true},
		{greatest(), w(0, 0), greatest(), true}, {greatest(), w(0, 1), none, false}, {w(0, 1), greatest(), none, false}, {greatest(), greatest(), none, false},
		{w(highHi, highLo-1), w(0, 1), greatest(), true}, {w(highHi, 0), w(1, 0), none, false}, {w(highHi-1, highLo), w(0, 1), w(highHi, 0), true},
		{least(), w(0, 0), least(), true}, {least(), w(-1, highLo), none, false}, {w(-1, highLo), least(), none, false}, {least(), least(), none, false},
		{w(lowHi, 1), w(-1, highLo), least(), true}, {least(), w(-1, 0), none, false}, {w(lowHi+1, 0), w(-1, 0), least(), true},
		// The high parts alone go beyond an end, the carry brings them back.
		{w(lowHi, highLo), w(-1, 1), w(lowHi, 0), true},
		{greatest(), least(), w(-1, highLo), true},
		// What is no wide number counts as 0.
		{w(0, oneWide), w(0, 3), w(0, 3), true}, {w(0, 3), w(0, -1), w(0, 3), true}, {w(highHi+1, 0), w(lowHi-1, 0), w(0, 0), true},
		{w(math.MaxInt, math.MaxInt), w(-4, 5), w(-4, 5), true}, {w(7, 8), w(math.MinInt, math.MinInt), w(7, 8), true}, {greatest(), w(1, -1), greatest(), true},
	} {
		if got, ok := wide.Add(x.w, x.x); got != x.want || ok != x.ok {
			t.Errorf("Add(%v, %v) = %v, %t; want %v, %t", x.w, x.x, got, ok, x.want, x.ok)
		}
	}
}

func TestAddAll(t *testing.T) {
	widePairs(func(x, y api.Wide) {
		want, wantOK := written(new(big.Int).Add(meant(x), meant(y)))
		if got, ok := wide.Add(x, y); got != want || ok != wantOK {
			t.Errorf("Add(%v, %v) = %v, %t; want %v, %t", x, y, got, ok, want, wantOK)
		}
	})
}

func TestNegTable(t *testing.T) {
	for _, x := range []struct{ w, want api.Wide }{
		{w(0, 0), w(0, 0)}, {w(0, 1), w(-1, highLo)}, {w(-1, highLo), w(0, 1)}, {w(2, 0), w(-2, 0)}, {w(-2, 0), w(2, 0)},
		{w(3, 1), w(-4, highLo)}, {w(-4, highLo), w(3, 1)},
		{greatest(), w(lowHi, 1)}, {w(lowHi, 1), greatest()}, {w(highHi, 0), w(lowHi+1, 0)}, {w(lowHi+1, 0), w(highHi, 0)},
		{least(), w(0, 0)},
		{w(0, -1), w(0, 0)}, {w(5, oneWide), w(0, 0)}, {w(highHi+1, 5), w(0, 0)}, {w(lowHi-1, 5), w(0, 0)}, {w(math.MinInt, math.MinInt), w(0, 0)},
	} {
		if got := wide.Neg(x.w); got != x.want {
			t.Errorf("Neg(%v) = %v; want %v", x.w, got, x.want)
		}
	}
}

func TestNegAll(t *testing.T) {
	for _, x := range append(wideEdges(), wideSpread(4096)...) {
		want, _ := written(new(big.Int).Neg(meant(x)))
		if got := wide.Neg(x); got != want {
			t.Errorf("Neg(%v) = %v; want %v", x, got, want)
		}
	}
}

func TestCompareTable(t *testing.T) {
	for _, x := range []struct {
		w, x api.Wide
		want int
	}{
		{w(0, 0), w(0, 0), 0}, {w(1, 2), w(1, 1), 1}, {w(1, 1), w(1, 2), -1}, {w(1, 0), w(0, highLo), 1}, {w(0, highLo), w(1, 0), -1},
		{w(-1, 5), w(0, 1), -1}, {w(-1, highLo), w(0, 0), -1}, {w(-1, 1), w(-1, 2), -1}, {w(-2, highLo), w(-1, 0), -1},
		{greatest(), greatest(), 0}, {least(), least(), 0}, {greatest(), least(), 1}, {least(), greatest(), -1},
		// What is no wide number counts as 0.
		{w(0, -1), w(0, 0), 0}, {w(highHi+1, 0), w(lowHi-1, 0), 0}, {w(highHi+1, 0), w(0, 1), -1}, {w(lowHi-1, 0), w(-1, highLo), 1}, {w(3, oneWide), w(0, -7), 0},
	} {
		if got := wide.Compare(x.w, x.x); got != x.want {
			t.Errorf("Compare(%v, %v) = %d; want %d", x.w, x.x, got, x.want)
		}
	}
}

func TestCompareAll(t *testing.T) {
	widePairs(func(x, y api.Wide) {
		if got, want := wide.Compare(x, y), meant(x).Cmp(meant(y)); got != want {
			t.Errorf("Compare(%v, %v) = %d; want %d", x, y, got, want)
		}
	})
}

// P2.2

func TestDownTable(t *testing.T) {
	for _, x := range []struct {
		w    api.Wide
		k    int
		want api.Wide
	}{
		{w(1<<18, 0), 80, w(0, 1)},
		{w(5, 7), math.MinInt, w(5, 7)}, {w(5, 7), -1, w(5, 7)}, {w(5, 7), 0, w(5, 7)}, {w(-5, 7), -1, w(-5, 7)}, {w(-5, 7), 0, w(-5, 7)},
		{w(5, 7), 1, w(2, 1<<61+3)}, {w(-5, 7), 1, w(-3, 1<<61+3)}, {w(0, 7), 1, w(0, 3)}, {w(-1, highLo), 1, w(-1, highLo)},
		{w(5, 7), 61, w(0, 10)}, {w(5, highLo), 61, w(0, 11)}, {w(5, 7), 62, w(0, 5)}, {w(5, highLo), 62, w(0, 5)}, {w(5, 7), 63, w(0, 2)},
		{w(-5, 0), 61, w(-1, oneWide-10)}, {w(-5, 0), 62, w(-1, oneWide-5)}, {w(-5, 0), 63, w(-1, oneWide-3)},
		{greatest(), 61, w(0, highLo)}, {greatest(), 62, w(0, highHi)}, {greatest(), 122, w(0, 1)}, {greatest(), 123, w(0, 0)}, {greatest(), 124, w(0, 0)},
		{least(), 61, w(-1, 0)}, {least(), 62, w(-1, 1<<61)}, {least(), 63, w(-1, 3<<60)}, {least(), 122, w(-1, highLo-1)}, {least(), 123, w(-1, highLo)}, {least(), 124, w(-1, highLo)},
		{greatest(), 199, w(0, 0)}, {greatest(), 200, w(0, 0)}, {greatest(), 201, w(0, 0)}, {greatest(), math.MaxInt, w(0, 0)},
		{least(), 199, w(-1, highLo)}, {least(), 200, w(-1, highLo)}, {least(), 201, w(-1, highLo)}, {least(), math.MaxInt, w(-1, highLo)},
		{w(0, 0), 200, w(0, 0)}, {w(0, 1), 1, w(0, 0)}, {w(-1, highLo), 200, w(-1, highLo)},
		// What is no wide number counts as 0, at all k.
		{w(0, -1), -1, w(0, 0)}, {w(0, -1), 0, w(0, 0)}, {w(0, -1), 1, w(0, 0)}, {w(lowHi-1, 0), -1, w(0, 0)}, {w(lowHi-1, 0), 200, w(0, 0)}, {w(highHi+1, 0), 62, w(0, 0)}, {w(4, oneWide), 63, w(0, 0)},
	} {
		if got := wide.Down(x.w, x.k); got != x.want {
			t.Errorf("Down(%v, %d) = %v; want %v", x.w, x.k, got, x.want)
		}
	}
}

func checkDown(t *testing.T, x api.Wide, k int) {
	t.Helper()
	// Rsh of a number below 0 goes down, as a division that is no greater does.
	want, _ := written(new(big.Int).Rsh(meant(x), uint(min(max(k, 0), 200))))
	if got := wide.Down(x, k); got != want {
		t.Errorf("Down(%v, %d) = %v; want %v", x, k, got, want)
	}
}

func TestDownAll(t *testing.T) {
	for _, x := range wideEdges() {
		for _, k := range ks() {
			checkDown(t, x, k)
		}
	}
	for _, x := range wideSpread(256) {
		for k := range 202 {
			checkDown(t, x, k)
		}
	}
}

func TestIntTable(t *testing.T) {
	for _, x := range []struct {
		w    api.Wide
		want int
		ok   bool
	}{
		{w(0, 0), 0, true}, {w(0, 1), 1, true}, {w(-1, highLo), -1, true},
		{w(0, lim-1), lim - 1, true}, {w(0, lim), lim, true}, {w(0, lim+1), lim, false}, {w(0, highLo), lim, false}, {w(1, 0), lim, false}, {w(4, 1), lim, false},
		{w(-1, oneWide-lim+1), -lim + 1, true}, {w(-1, oneWide-lim), -lim, true}, {w(-1, oneWide-lim-1), -lim, false}, {w(-1, 0), -lim, false}, {w(-2, highLo), -lim, false}, {w(-4, 1), -lim, false},
		{greatest(), lim, false}, {least(), -lim, false},
		// What is no wide number counts as 0, which is a value.
		{w(0, -1), 0, true}, {w(0, oneWide), 0, true}, {w(highHi+1, 0), 0, true}, {w(lowHi-1, 0), 0, true}, {w(math.MinInt, math.MaxInt), 0, true},
	} {
		if got, ok := wide.Int(x.w); got != x.want || ok != x.ok {
			t.Errorf("Int(%v) = %d, %t; want %d, %t", x.w, got, ok, x.want, x.ok)
		}
	}
}

func TestIntAll(t *testing.T) {
	all := append(wideEdges(), wideSpread(4096)...)
	for _, n := range append(intEdges(), spread(4096)...) {
		of, _ := written(number(n))
		all = append(all, of)
	}
	for _, x := range all {
		n := meant(x)
		wantOK := n.CmpAbs(number(lim)) <= 0
		want := n.Sign() * lim
		if wantOK {
			want = int(n.Int64())
		}
		if got, ok := wide.Int(x); got != want || ok != wantOK {
			t.Errorf("Int(%v) = %d, %t; want %d, %t", x, got, ok, want, wantOK)
		}
	}
}

// P2.3

// total adds from the first to the last.
func total(list []api.Wide) (api.Wide, bool) {
	sum := api.Wide{}
	for _, x := range list {
		var ok bool
		if sum, ok = wide.Add(sum, x); !ok {
			return api.Wide{}, false
		}
	}
	return sum, true
}

func TestSumsDoNotHangOnTheOrder(t *testing.T) {
	// Sums of 64 products lie within 2^122: none of them goes beyond an end, in whatever order.
	s := append(intEdges(), spread(1024)...)
	for from := 0; from+65 < len(s); from++ {
		var there, back []api.Wide
		exact := new(big.Int)
		for i := range 64 {
			a, b := s[from+i], s[from+i+1]
			there = append(there, wide.Mul(a, b))
			back = append([]api.Wide{wide.Mul(b, a)}, back...)
			exact.Add(exact, new(big.Int).Mul(valueOf(a), valueOf(b)))
		}
		want, _ := written(exact)
		one, oneOK := total(there)
		other, otherOK := total(back)
		if one != want || other != want || !oneOK || !otherOK {
			t.Fatalf("from %d: %v, %t there, %v, %t back; want %v", from, one, oneOK, other, otherOK, want)
		}
	}
}

func TestAddInAnyOrder(t *testing.T) {
	held := 0
	z := w(-3, highLo-5)
	widePairs(func(x, y api.Wide) {
		xy, ok1 := wide.Add(x, y)
		yx, ok2 := wide.Add(y, x)
		if xy != yx || ok1 != ok2 {
			t.Errorf("Add(%v, %v) = %v, %t; the other way round %v, %t", x, y, xy, ok1, yx, ok2)
		}
		yz, ok3 := wide.Add(y, z)
		if !ok1 || !ok3 {
			return
		}
		held++
		left, ok4 := wide.Add(xy, z)
		right, ok5 := wide.Add(x, yz)
		if left != right || ok4 != ok5 {
			t.Errorf("%v, %v and %v: %v, %t and %v, %t", x, y, z, left, ok4, right, ok5)
		}
	})
	// Were every sum told as none, the loop above would ask nothing.
	if held < 1000 {
		t.Errorf("only %d sums were there", held)
	}
}

func TestMulInAnyOrder(t *testing.T) {
	s := append(intEdges(), spread(4096)...)
	for i := range len(s) - 2 {
		a, b, c := s[i], s[i+1]>>8, s[i+2]>>8
		if ab, ba := wide.Mul(a, b), wide.Mul(b, a); ab != ba {
			t.Errorf("Mul(%d, %d) = %v; the other way round %v", a, b, ab, ba)
		}
		// b and c are small enough for their sum to be a value.
		sum, ok := wide.Add(wide.Mul(a, b), wide.Mul(a, c))
		if want := wide.Mul(a, b+c); sum != want || !ok {
			t.Errorf("%d times %d and %d: %v, %t; times their sum %v", a, b, c, sum, ok, want)
		}
	}
}
