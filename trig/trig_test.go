package trig_test

import (
	"math"
	"math/big"
	"slices"
	"testing"

	"outrigger/api"
	"outrigger/trig"
)

const (
	one     = api.One
	lim     = api.Lim
	turn    = api.Turn
	half    = api.Turn / 2
	quarter = api.Quarter
	eighth  = api.Quarter / 2

	size     = 1 << 57 // from here on the numbers of a point are not doubled
	least    = math.MinInt
	greatest = math.MaxInt
)

// around is numbers with their neighbours, of both signs; what goes beyond int wraps round.
func around(numbers ...int) []int {
	var all []int
	for _, n := range numbers {
		all = append(all, n-1, n, n+1, -n-1, -n, -n+1)
	}
	return all
}

// spread is numbers of all sizes and both signs, the same ones at each run.
func spread(count int) []int {
	all := make([]int, 0, count)
	x := uint64(1)
	for i := range count {
		x ^= x << 13
		x ^= x >> 7
		x ^= x << 17
		all = append(all, int(x)>>(i%64))
	}
	return all
}

// kinds is angles at which a sine or a cosine changes its kind, within a turn.
func kinds() []int {
	return []int{0, eighth, quarter, 3 * eighth, half, 5 * eighth, 3 * quarter, 7 * eighth, turn}
}

// angles is the angles at which an answer changes its kind, with their neighbours and with whole turns more and less, and others.
func angles() []int {
	var all []int
	for _, n := range kinds() {
		for _, turns := range []int{-1 << 31, -1 << 30, -7, -2, -1, 0, 1, 2, 7, 1 << 30, 1<<31 - 1} {
			all = append(all, n-1+turns*turn, n+turns*turn, n+1+turns*turn)
		}
	}
	all = append(all, around(3, 1<<16, lim, 1<<62)...)
	all = append(all, least, least+1, greatest-1, greatest)
	for k := range 1024 {
		all = append(all, k<<22, k<<22+k)
	}
	return append(all, spread(2048)...)
}

// sides is the numbers of points at which an angle changes its kind, alone or with another one of them.
func sides() []int {
	all := around(0, 3, 4, 1<<16, one, 1<<56, size, lim, 1<<62)
	return append(all, least, least+1, greatest-1, greatest)
}

// points hands on every side with every side, and the spread numbers two by two.
func points(each func(y, x int)) {
	for _, y := range sides() {
		for _, x := range sides() {
			each(y, x)
		}
	}
	s := spread(2048)
	for i := range len(s) - 1 {
		each(s[i], s[i+1])
		// Beside the lines between the kinds, of both signs.
		each(s[i], s[i]+1)
		each(s[i], -s[i])
		each(s[i], 1)
		each(-1, s[i])
	}
	// Neighbours in the spread are nearly of one size; these are not.
	for i := range len(s) - 23 {
		each(s[i], s[i+23])
	}
}

// What follows tells the document's words once more, by whole numbers without an end.

func number(n int) *big.Int { return big.NewInt(int64(n)) }

// whole is a whole number without an end as an int.
func whole(t *testing.T, n *big.Int) int {
	t.Helper()
	if !n.IsInt64() {
		t.Fatalf("%v is no int", n)
	}
	return int(n.Int64())
}

// plus and minus are new numbers: none that is handed in changes.
func plus(a, b *big.Int) *big.Int  { return new(big.Int).Add(a, b) }
func minus(a, b *big.Int) *big.Int { return new(big.Int).Sub(a, b) }

// halved is n divided by 2 to the power of k, rounded down. Of a divisor above 0, Div goes down.
func halved(n *big.Int, k int) *big.Int {
	return new(big.Int).Div(n, new(big.Int).Exp(number(2), number(k), nil))
}

// rounded is n and 2^15 more, halved 16 times.
func rounded(n *big.Int) *big.Int { return halved(plus(n, number(1<<15)), 16) }

// modTurn is n modulo 2^32. Of a divisor above 0, Mod is never below 0.
func modTurn(n *big.Int) *big.Int { return new(big.Int).Mod(n, number(1<<32)) }

// documentAngles is the steps' angles as the document tells them.
func documentAngles() []int {
	return []int{35184372088832, 20770547670515, 10974586953444, 5570871696862, 2796246208089, 1399486241028, 699913886760, 349978300884, 174991820497, 87496244017, 43748163730, 21874087080, 10937044192, 5468522177, 2734261099, 1367130551, 683565276, 341782638, 170891319, 85445659, 42722830, 21361415, 10680707, 5340354, 2670177, 1335088, 667544, 333772, 166886, 83443, 41722, 20861}
}

func wantedAngle(t *testing.T, angle int) int {
	t.Helper()
	return whole(t, modTurn(number(angle)))
}

func wantedBoth(t *testing.T, angle int) (int, int) {
	t.Helper()
	u := modTurn(number(angle))
	q := halved(plus(u, number(1<<29)), 30)
	z := minus(u, new(big.Int).Mul(q, number(1<<30)))
	z.Mul(z, number(1<<16))
	x, y := number(170926505739102), number(0)
	for i, step := range documentAngles() {
		lessX, moreY := halved(y, i), halved(x, i)
		if z.Sign() >= 0 {
			x, y, z = minus(x, lessX), plus(y, moreY), minus(z, number(step))
		} else {
			x, y, z = plus(x, lessX), minus(y, moreY), plus(z, number(step))
		}
	}
	s, c := whole(t, rounded(y)), whole(t, rounded(x))
	return [5]int{s, c, -s, -c, s}[q.Int64()], [5]int{c, -s, -c, s, c}[q.Int64()]
}

func wantedAtan(t *testing.T, y, x int) int {
	t.Helper()
	y, x = min(max(y, -lim), lim), min(max(x, -lim), lim)
	if y == 0 && x == 0 {
		return 0
	}
	a, b, z := new(big.Int).Abs(number(x)), new(big.Int).Abs(number(y)), number(0)
	for a.Cmp(number(size)) < 0 && b.Cmp(number(size)) < 0 {
		a, b = plus(a, a), plus(b, b)
	}
	for i, step := range documentAngles() {
		moreA, lessB := halved(b, i), halved(a, i)
		if b.Sign() > 0 {
			a, b, z = plus(a, moreA), minus(b, lessB), plus(z, number(step))
		} else {
			a, b, z = minus(a, moreA), plus(b, lessB), minus(z, number(step))
		}
	}
	v := rounded(z)
	if x < 0 && y >= 0 {
		v = minus(number(1<<31), v)
	} else if x < 0 {
		v = plus(number(1<<31), v)
	} else if y < 0 {
		v = minus(number(0), v)
	}
	return whole(t, modTurn(v))
}

// apart is how far two angles lie apart, the shorter way round.
func apart(a, b int) int {
	d := (a - b) & (turn - 1)
	return min(d, turn-d)
}

// P5.1

func TestAngleTable(t *testing.T) {
	for _, x := range []struct{ t, want int }{
		{0, 0}, {1, 1}, {-1, turn - 1}, {eighth, eighth}, {quarter, quarter}, {half, half}, {3 * quarter, 3 * quarter}, {7 * eighth, 7 * eighth},
		{-eighth, 7 * eighth}, {-quarter, 3 * quarter}, {-half, half}, {-half - 1, half - 1}, {-3 * quarter, quarter},
		{turn - 1, turn - 1}, {turn, 0}, {turn + 1, 1}, {2*turn - 1, turn - 1}, {2 * turn, 0}, {7*turn + quarter, quarter},
		{-turn - 1, turn - 1}, {-turn, 0}, {-turn + 1, 1}, {-7*turn - quarter, 3 * quarter},
		// An angle is no value: beyond Lim it does not stop.
		{lim, 0}, {lim + 1, 1}, {lim + quarter, quarter}, {-lim - 1, turn - 1}, {-lim - quarter, 3 * quarter},
		{least, 0}, {least + 1, 1}, {greatest - 1, turn - 2}, {greatest, turn - 1},
	} {
		if got := trig.Angle(x.t); got != x.want {
			t.Errorf("Angle(%d) = %d; want %d", x.t, got, x.want)
		}
	}
}

func TestAngleAll(t *testing.T) {
	for _, a := range angles() {
		if got, want := trig.Angle(a), wantedAngle(t, a); got != want {
			t.Errorf("Angle(%d) = %d; want %d", a, got, want)
		}
	}
}

// P5.2

// checkBoth holds all three calls against a sine and a cosine.
func checkBoth(t *testing.T, angle, sin, cos int) {
	t.Helper()
	if s, c := trig.Both(angle); s != sin || c != cos {
		t.Errorf("Both(%d) = %d, %d; want %d, %d", angle, s, c, sin, cos)
	}
	if s := trig.Sin(angle); s != sin {
		t.Errorf("Sin(%d) = %d; want %d", angle, s, sin)
	}
	if c := trig.Cos(angle); c != cos {
		t.Errorf("Cos(%d) = %d; want %d", angle, c, cos)
	}
}

func TestBothTable(t *testing.T) {
	// The sine and the cosine of an eighth, and of its neighbours.
	const e, less, more = 3037000500, 3037000497, 3037000503
	for _, x := range []struct{ t, sin, cos int }{
		{-1, -5, one}, {0, 1, one}, {1, 5, one},
		{eighth - 1, less, more}, {eighth, e, e}, {eighth + 1, more, less},
		{quarter - 1, one, 5}, {quarter, one, -1}, {quarter + 1, one, -5},
		{3*eighth - 1, more, -less}, {3 * eighth, e, -e}, {3*eighth + 1, less, -more},
		{half - 1, 5, -one}, {half, -1, -one}, {half + 1, -5, -one},
		{5*eighth - 1, -less, -more}, {5 * eighth, -e, -e}, {5*eighth + 1, -more, -less},
		{3*quarter - 1, -one, -5}, {3 * quarter, -one, 1}, {3*quarter + 1, -one, 5},
		{7*eighth - 1, -more, less}, {7 * eighth, -e, e}, {7*eighth + 1, -less, more},
		{turn - 1, -5, one}, {turn, 1, one}, {turn + 1, 5, one},
		{123456789, 771491660, 4225108838},
		{-eighth, -e, e}, {-quarter, -one, 1}, {-half, -1, -one}, {-turn, 1, one}, {-turn + eighth, e, e}, {7*turn + quarter, one, -1}, {-7*turn - quarter, -one, 1},
		{lim + quarter, one, -1}, {-lim - quarter, -one, 1}, {least, 1, one}, {least + 1, 5, one}, {greatest, -5, one}, {greatest - eighth, -more, less},
		// Where it shows if a step's angle, the start or a half's rounding were 1 off in its last place.
		{334822545, 2020632885, 3789958683}, {2983811571, -4038511773, -1461905174}, {24748642, 155466336, 4292152641}, {628708505, 3416429835, 2602835234}, {365959252, 2191111636, 3694018661}, {302260790, 1837873703, 3881876393}, {31936587, 200590502, 4290280588},
	} {
		checkBoth(t, x.t, x.sin, x.cos)
	}
}

func TestBothAll(t *testing.T) {
	for _, a := range angles() {
		sin, cos := wantedBoth(t, a)
		checkBoth(t, a, sin, cos)
	}
}

// P5.3

func TestAtanTable(t *testing.T) {
	for _, x := range []struct{ y, x, want int }{
		{0, 0, 0},
		// On the lines between the kinds.
		{0, 1, 0}, {0, 7, 0}, {0, one, 0}, {0, size, 0}, {0, lim, 0}, {1, 0, quarter}, {7, 0, quarter}, {lim, 0, quarter}, {0, -1, half}, {0, -lim, half}, {-1, 0, 3 * quarter}, {-lim, 0, 3 * quarter},
		{1, 1, eighth}, {1, -1, 3 * eighth}, {-1, -1, 5 * eighth}, {-1, 1, 7 * eighth}, {size, size, eighth}, {size, -size, 3 * eighth}, {-size, -size, 5 * eighth}, {-size, size, 7 * eighth}, {lim, lim, eighth}, {lim, -lim, 3 * eighth}, {-lim, -lim, 5 * eighth}, {-lim, lim, 7 * eighth},
		// Between them.
		{3, 4, 439875013}, {4, 3, 633866811}, {3, -4, 1707608635}, {-3, -4, 2587358661}, {-3, 4, 3855092283}, {5, 12, 269865500}, {-12, 5, 3491090972}, {2, 1, 756808419}, {1, 2, 316933405}, {1, -2, 1830550243}, {-1, 2, 3978033891}, {lim, size, 756808419}, {size, lim, 316933405},
		// Beside them.
		{1, size - 1, 0}, {1, size, 0}, {1, lim, 0}, {-1, size - 1, 0}, {-1, lim, 0}, {1, -lim, half}, {-1, -lim, half}, {lim, 1, quarter}, {lim, -1, quarter}, {-lim, 1, 3 * quarter}, {-lim, -1, 3 * quarter}, {size - 1, 1, quarter}, {1 - size, -1, 3 * quarter},
		{size, size - 1, eighth}, {size - 1, size, eighth}, {size - 1, size - 1, eighth}, {lim, lim - 1, eighth}, {one, one + 1, eighth}, {one - 1, -one, 3 * eighth}, {-one, one + 1, 7 * eighth}, {-one, -one - 1, 5 * eighth},
		{1, one, 0}, {-1, one, 0}, {1, -one, half}, {-1, -one, half}, {one, 1, quarter}, {-one, 1, 3 * quarter}, {2, one, 0}, {3, -one, half - 1},
		// What is no value counts as the nearest one.
		{lim + 1, lim, eighth}, {lim, lim + 1, eighth}, {lim + 1, 1, quarter}, {1, lim + 1, 0}, {-lim - 1, -lim, 5 * eighth}, {1, -lim - 1, half}, {-lim - 1, 1, 3 * quarter}, {lim + 1, size, 756808419}, {lim + 1, -size, 1390675229}, {-lim - 1, size, 3538158877}, {0, lim + 1, 0}, {0, -lim - 1, half}, {lim + 1, 0, quarter}, {-lim - 1, 0, 3 * quarter},
		{greatest, greatest, eighth}, {greatest, least, 3 * eighth}, {least, least, 5 * eighth}, {least, greatest, 7 * eighth}, {0, greatest, 0}, {0, least, half}, {greatest, 0, quarter}, {least, 0, 3 * quarter}, {1, least, half}, {-1, least, half}, {least, 1, 3 * quarter}, {greatest, size, 756808419}, {size, greatest, 316933405}, {least, size, 3538158877}, {size, least, 1830550243}, {-size, least, 2464417053},
		// Where it shows if a step's angle were 1 off in its last place, or if the numbers were doubled once more or less.
		{273, 46, 959634172}, {46, 273, 114107653}, {3, 1, 853804318}, {10, 1, 1005611794}, {128155999165440817, 51742377861838136, 811436720}, {283337609055450, size, 1343921}, {size - 1, 5447771417879014, 1047914323}, {size, 15787850477011752, 999154530},
	} {
		if got := trig.Atan(x.y, x.x); got != x.want {
			t.Errorf("Atan(%d, %d) = %d; want %d", x.y, x.x, got, x.want)
		}
	}
}

func TestAtanAll(t *testing.T) {
	points(func(y, x int) {
		if got, want := trig.Atan(y, x), wantedAtan(t, y, x); got != want {
			t.Errorf("Atan(%d, %d) = %d; want %d", y, x, got, want)
		}
	})
}

// An angle hangs on both numbers' sizes to each other, not on their sizes.
func TestAtanDoubled(t *testing.T) {
	points(func(y, x int) {
		y, x = y>>8, x>>8
		if got, want := trig.Atan(2*y, 2*x), trig.Atan(y, x); got != want {
			t.Errorf("Atan(%d, %d) = %d; want %d, as of the halves", 2*y, 2*x, got, want)
		}
	})
}

// P5.4

// The squares are 2^64 together, but for what a sine and a cosine that are off by some 2^-32 make of it.
func TestSquaresOfBoth(t *testing.T) {
	for _, a := range angles() {
		s, c := trig.Both(a)
		squares := plus(new(big.Int).Mul(number(s), number(s)), new(big.Int).Mul(number(c), number(c)))
		beside := minus(squares, new(big.Int).Mul(number(one), number(one)))
		if beside.CmpAbs(number(2*one)) > 0 {
			t.Errorf("Both(%d) = %d, %d, whose squares together are %v beside 2^64", a, s, c, beside)
		}
	}
}

func TestAngleOfBoth(t *testing.T) {
	// No reference is worked out here, so that more angles can be gone over than elsewhere.
	for _, a := range slices.Concat(angles(), spread(1<<16)) {
		s, c := trig.Both(a)
		if got := trig.Atan(s, c); apart(got, a) > 1 {
			t.Errorf("Atan(Both(%d)) = Atan(%d, %d) = %d", a, s, c, got)
		}
	}
}

// What the steps find is what floats find, as far as both are right.
func TestNearFloats(t *testing.T) {
	for _, a := range angles() {
		w := 2 * math.Pi * float64(trig.Angle(a)) / turn
		s, c := trig.Both(a)
		if math.Abs(float64(s)-one*math.Sin(w)) > 3 || math.Abs(float64(c)-one*math.Cos(w)) > 3 {
			t.Errorf("Both(%d) = %d, %d; floats tell %f, %f", a, s, c, one*math.Sin(w), one*math.Cos(w))
		}
	}
	points(func(y, x int) {
		v, w := min(max(y, -lim), lim), min(max(x, -lim), lim)
		want := int(math.Round(math.Atan2(float64(v), float64(w)) / (2 * math.Pi) * turn))
		if got := trig.Atan(y, x); apart(got, want) > 2 {
			t.Errorf("Atan(%d, %d) = %d; floats tell %d", y, x, got, want&(turn-1))
		}
	})
}

// P1

// Every call answers within its ends, whatever it is given; that it answers tells that it did not panic.
func TestWithinEnds(t *testing.T) {
	for _, a := range slices.Concat(angles(), sides()) {
		if u := trig.Angle(a); u < 0 || u >= turn {
			t.Errorf("Angle(%d) = %d; want 0 to 2^32 - 1", a, u)
		}
		s, c := trig.Both(a)
		if max(s, -s, c, -c) > one {
			t.Errorf("Both(%d) = %d, %d; want none beyond 2^32", a, s, c)
		}
		if s != trig.Sin(a) || c != trig.Cos(a) {
			t.Errorf("Both(%d) = %d, %d; Sin, Cos = %d, %d", a, s, c, trig.Sin(a), trig.Cos(a))
		}
	}
	points(func(y, x int) {
		if u := trig.Atan(y, x); u < 0 || u >= turn {
			t.Errorf("Atan(%d, %d) = %d; want 0 to 2^32 - 1", y, x, u)
		}
	})
}
