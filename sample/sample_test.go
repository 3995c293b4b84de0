package sample_test

import (
	"math"
	"math/big"
	"slices"
	"testing"

	"outrigger/api"
	"outrigger/sample"
)

const (
	low    = math.MinInt
	high   = math.MaxInt
	last   = math.MaxUint64
	latest = 1 << 40
	lim    = 1 << 58
)

type words = []uint64

// names is what a sample's numbers are called, in the order of its words.
func names() [5]string { return [5]string{"T", "S", "V[0]", "V[1]", "V[2]"} }

// plain is a sample that may be, no two numbers of which are the same.
func plain() api.Sample { return api.Sample{T: 5, S: 3, V: [3]int{1, -2, 7}} }

// with is a sample but for one number, told by the place of its word.
func with(s api.Sample, place, n int) api.Sample {
	switch place {
	case 0:
		s.T = n
	case 1:
		s.S = n
	default:
		s.V[place-2] = n
	}
	return s
}

// edge is numbers for one place of a sample that may be, and those that may not.
type edge struct{ good, bad []int }

// edges is numbers of all kinds for each place; some that may not be would be 0 or another small number if they were cut to fewer bits, or taken without a sign.
func edges() [5]edge {
	values := edge{
		[]int{-lim, -lim + 1, -1 << 32, -2, -1, 0, 1, 2, 3, 4, 1 << 32, latest, latest + 1, lim - 1, lim},
		[]int{low, low + 1, -1 << 62, -lim - 2, -lim - 1, lim + 1, lim + 2, 1 << 59, 1 << 62, high - 1, high},
	}
	return [5]edge{
		{[]int{0, 1, 2, 1 << 16, 1 << 32, 1<<32 + 1, latest - 1, latest}, []int{low, low + 1, -lim, -latest, -1 << 32, -2, -1, latest + 1, latest + 2, 1 << 41, lim, high - 1, high}},
		{[]int{0, 1, 2, 3}, []int{low, low + 3, -1 << 32, 3 - 1<<32, -256, -4, -3, -2, -1, 4, 5, 7, 8, 256, 259, 1 << 32, 1<<32 + 1, 1<<32 + 3, latest, high - 1, high}},
		values, values, values,
	}
}

// eachGood hands on samples that may be: all that the edges make together.
func eachGood(f func(s api.Sample)) {
	e := edges()
	for _, t := range e[0].good {
		for _, s := range e[1].good {
			for _, x := range e[2].good {
				for _, y := range e[3].good {
					for _, z := range e[4].good {
						f(api.Sample{T: t, S: s, V: [3]int{x, y, z}})
					}
				}
			}
		}
	}
}

// eachBad hands on samples that may not be: each number that may not, alone, among others of three kinds, and together with another one.
func eachBad(f func(s api.Sample)) {
	e := edges()
	for _, around := range []api.Sample{{}, plain(), {T: latest, S: 3, V: [3]int{lim, -lim, lim}}} {
		for i := range e {
			for _, n := range e[i].bad {
				one := with(around, i, n)
				f(one)
				for k := range e {
					if k != i {
						f(with(one, k, e[k].bad[0]))
						f(with(one, k, e[k].bad[len(e[k].bad)-1]))
					}
				}
			}
		}
	}
}

// few is samples that may be, with the edges of each number one at a time.
func few() []api.Sample {
	all := []api.Sample{{}, plain(), {T: latest, S: 3, V: [3]int{lim, lim, lim}}, {T: latest, V: [3]int{-lim, -lim, -lim}}, {T: 9, S: 1, V: [3]int{-1, -1, -1}}}
	for i, e := range edges() {
		for _, n := range e.good {
			all = append(all, with(plain(), i, n))
		}
	}
	return all
}

// spread is words of all sizes, the same ones at each run.
func spread(count int) words {
	all := words{0, last, 1, last - 1, 1 << 63, 1<<63 - 1, 1 << 32, 1<<32 - 1}
	x := uint64(1)
	for i := 0; len(all) < count; i++ {
		x ^= x << 13
		x ^= x >> 7
		x ^= x << 17
		all = append(all, x>>(i%48))
	}
	return all[:count]
}

// wantedSum tells the document's words once more, with products of any size.
func wantedSum(l words) uint64 {
	sum, _ := new(big.Int).SetString("14695981039346656037", 10)
	factor, around := big.NewInt(1099511628211), new(big.Int).Lsh(big.NewInt(1), 64)
	for _, w := range l {
		sum.Xor(sum, new(big.Int).SetUint64(w))
		sum.Mul(sum, factor)
		sum.Mod(sum, around)
	}
	return sum.Uint64()
}

// wantedSane tells the document's words once more.
func wantedSane(s api.Sample) bool {
	value := func(n int) bool { return n >= -288230376151711744 && n <= 288230376151711744 }
	return s.T >= 0 && s.T <= 1099511627776 && s.S >= 0 && s.S <= 3 && value(s.V[0]) && value(s.V[1]) && value(s.V[2])
}

// word is a number as a word, without a conversion that goes around.
func word(n int) uint64 {
	if n < 0 {
		return last - uint64(-(n + 1))
	}
	return uint64(n)
}

// five is a sample's numbers as words, also of one that may not be.
func five(s api.Sample) words {
	return words{word(s.T), word(s.S), word(s.V[0]), word(s.V[1]), word(s.V[2])}
}

// summed is words, and what the document's words say of their sum behind them.
func summed(l words) words { return append(slices.Clone(l), wantedSum(l)) }

// sameRead holds what Read answers against a sample and an error; l stays as it is.
func sameRead(t *testing.T, l words, s api.Sample, e api.Errno) {
	t.Helper()
	was := slices.Clone(l)
	if got, err := sample.Read(l); got != s || err != e {
		t.Fatalf("Read of %v = %+v, %d; want %+v, %d", l, got, int(err), s, int(e))
	}
	if !slices.Equal(l, was) {
		t.Fatalf("Read changed %v to %v", was, l)
	}
}

// wrong holds Read against an error, with which no sample is told.
func wrong(t *testing.T, l words, e api.Errno) {
	t.Helper()
	sameRead(t, l, api.Sample{}, e)
}

// P13.1

func TestSum(t *testing.T) {
	for _, x := range []struct {
		l   words
		sum uint64
	}{
		{nil, 14695981039346656037},
		{words{}, 14695981039346656037},
		{words{0}, 12638153115695167455},
		{words{1}, 12638152016183539244},
		{words{last}, 5808589858502755950},
		{words{1 << 63}, 3414781078840391647},
		{words{0, 0}, 590684067820433389},
		{words{0, 0, 0, 0, 0}, 16482136530319305039},
		{words{1, 2}, 589729691727335466},
		{words{2, 1}, 592596118541513868},
		{words{1, 2, 3, 4, 5}, 1109817072422714760},
		{words{5, 4, 3, 2, 1}, 4557585811942639684},
		{words{1, last, 0, 1 << 63, 1 << 32}, 574183646574789763},
	} {
		if got := sample.Sum(x.l); got != x.sum {
			t.Errorf("Sum of %v = %d; want %d", x.l, got, x.sum)
		}
	}
}

// A sum is as the words say, of lists of all lengths: all words count.
func TestSumOfLists(t *testing.T) {
	for _, size := range []int{0, 1, 2, 3, 4, 5, 6, 7, 8, 25, 26, 63, 64, 65, 255, 256, 257, 300, 1000} {
		for _, l := range []words{spread(size), make(words, size), slices.Repeat(words{last}, size), slices.Repeat(words{7}, size)} {
			if got, want := sample.Sum(l), wantedSum(l); got != want {
				t.Fatalf("Sum of %v = %d; want %d", l, got, want)
			}
		}
	}
}

// The same words in another order have another sum here; of other words two orders may have one sum, as the words tell nothing of that.
func TestSumOfAnotherOrder(t *testing.T) {
	l := words{3, 1 << 40, 5, 0, 17}
	seen := map[uint64]words{sample.Sum(l): l}
	for i := range l {
		for k := range i {
			m := slices.Clone(l)
			m[i], m[k] = m[k], m[i]
			sum := sample.Sum(m)
			if sum != wantedSum(m) {
				t.Fatalf("Sum of %v = %d; want %d", m, sum, wantedSum(m))
			}
			if before := seen[sum]; before != nil {
				t.Fatalf("Sum of %v = %d; that is also the one of %v", m, sum, before)
			}
			seen[sum] = m
		}
	}
}

// A word more goes on from the sum of what came before it.
func TestSumGoesOn(t *testing.T) {
	l := spread(120)
	for n := range l {
		before := sample.Sum(l[:n])
		for _, w := range (words{l[n], 0, 1, last, before}) {
			product := new(big.Int).Mul(new(big.Int).SetUint64(before^w), big.NewInt(1099511628211))
			want := product.Mod(product, new(big.Int).Lsh(big.NewInt(1), 64)).Uint64()
			if got := sample.Sum(append(slices.Clone(l[:n]), w)); got != want {
				t.Fatalf("Sum of %v and %d = %d; want %d", l[:n], w, got, want)
			}
		}
		if got := sample.Sum(append(slices.Clone(l[:n]), before)); got != 0 {
			t.Fatalf("Sum of %v and their sum = %d; want 0", l[:n], got)
		}
	}
}

// P13.2

func TestLimits(t *testing.T) {
	if api.MaxTime != latest || api.Lim != lim {
		t.Error(api.MaxTime, api.Lim)
	}
}

func TestSane(t *testing.T) {
	for i, e := range edges() {
		for _, around := range few() {
			for _, n := range e.good {
				if s := with(around, i, n); !sample.Sane(s) {
					t.Fatalf("%s of %+v may be", names()[i], s)
				}
			}
			for _, n := range e.bad {
				if s := with(around, i, n); sample.Sane(s) {
					t.Fatalf("%s of %+v may not be", names()[i], s)
				}
			}
		}
	}
}

func TestSaneOfAll(t *testing.T) {
	eachGood(func(s api.Sample) {
		if !sample.Sane(s) || !wantedSane(s) {
			t.Fatalf("%+v may be", s)
		}
	})
	eachBad(func(s api.Sample) {
		if sample.Sane(s) || wantedSane(s) {
			t.Fatalf("%+v may not be", s)
		}
	})
}

func TestWords(t *testing.T) {
	for _, x := range []struct {
		s api.Sample
		l words
	}{
		{api.Sample{}, words{0, 0, 0, 0, 0, 16482136530319305039}},
		{api.Sample{T: 5, S: 3, V: [3]int{1, -2, 7}}, words{5, 3, 1, 18446744073709551614, 7, 9466792788615115359}},
		{api.Sample{S: 3, V: [3]int{-1, 0, 1}}, words{0, 3, last, 0, 1, 17476843150831864838}},
		{api.Sample{S: 3, V: [3]int{-lim, 0, -1}}, words{0, 3, 18158513697557839872, 0, last, 6283562991991737009}},
		{api.Sample{T: latest, S: 3, V: [3]int{lim, -lim, -1}}, words{1099511627776, 3, 288230376151711744, 18158513697557839872, last, 8919748772212591281}},
		{api.Sample{T: 9, S: 2, V: [3]int{1 << 32, -1 << 32, 0}}, words{9, 2, 1 << 32, 18446744069414584320, 0, 16164399712093555494}},
	} {
		if got := sample.Words(x.s); !slices.Equal(got, x.l) {
			t.Errorf("Words of %+v = %v; want %v", x.s, got, x.l)
		}
	}
}

func TestWordsOfAll(t *testing.T) {
	for _, s := range few() {
		if got, want := sample.Words(s), summed(five(s)); !slices.Equal(got, want) {
			t.Fatalf("Words of %+v = %v; want %v", s, got, want)
		}
	}
	eachBad(func(s api.Sample) {
		if got := sample.Words(s); len(got) != 0 {
			t.Fatalf("Words of %+v, which may not be, = %v", s, got)
		}
	})
}

// P13.3

func TestRead(t *testing.T) {
	sameRead(t, words{5, 3, 1, 18446744073709551614, 7, 9466792788615115359}, plain(), api.OK)
	sameRead(t, words{0, 0, 0, 0, 0, 16482136530319305039}, api.Sample{}, api.OK)
	sameRead(t, words{1099511627776, 3, 288230376151711744, 18158513697557839872, last, 8919748772212591281}, api.Sample{T: latest, S: 3, V: [3]int{lim, -lim, -1}}, api.OK)
}

// Words of another number are no form, whatever the last one of them or the sixth one is.
func TestReadForm(t *testing.T) {
	wrong(t, nil, api.ErrForm)
	wrong(t, words{}, api.ErrForm)
	good := five(plain())
	for _, size := range []int{0, 1, 2, 3, 4, 5, 7, 8, 12, 26, 64, 70, 256, 262, 1<<16 + 6} {
		long := slices.Repeat(good, size/5+1)[:size]
		for _, l := range []words{long, spread(size), make(words, size), slices.Repeat(words{last}, size)} {
			wrong(t, l, api.ErrForm)
			if size > 0 {
				wrong(t, summed(l[:size-1]), api.ErrForm)
			}
		}
	}
	six := summed(good)
	wrong(t, six[:5], api.ErrForm)
	wrong(t, six[1:], api.ErrForm)
	wrong(t, append(slices.Clone(six), 0), api.ErrForm)
	wrong(t, append(slices.Clone(six), six[5]), api.ErrForm)
	wrong(t, append(words{0}, six...), api.ErrForm)
	// What lies behind a list in its memory does not count.
	wrong(t, six[:0], api.ErrForm)
}

func TestReadSum(t *testing.T) {
	for _, s := range few() {
		l := summed(five(s))
		sum := l[5]
		for _, w := range []uint64{0, 1, 7, last, sum + 1, sum - 1, -sum, ^sum, sum ^ 1<<63, sum ^ 1<<32, sum << 1, wantedSum(nil), wantedSum(l[:4]), wantedSum(l)} {
			if w != sum {
				l[5] = w
				wrong(t, l, api.ErrSum)
			}
		}
	}
	wrong(t, make(words, 6), api.ErrSum)
	wrong(t, words{last, last, last, last, last, last}, api.ErrSum)
}

func TestReadRange(t *testing.T) {
	eachBad(func(s api.Sample) { wrong(t, summed(five(s)), api.ErrRange) })
	for place := range 5 {
		for _, w := range []uint64{1 << 63, 1<<63 + 1, 1<<63 + 3, 1<<63 + latest, 1<<63 + lim, 1<<63 - 1, 1 << 62, last - 1<<62} {
			l := five(plain())
			l[place] = w
			wrong(t, summed(l), api.ErrRange)
		}
	}
	// As the numbers of a V these may be, as a T or an S they may not.
	for _, w := range []uint64{last, last - 1, last - latest + 1, last - lim + 1, lim, latest + 1} {
		for place := range 2 {
			l := five(plain())
			l[place] = w
			wrong(t, summed(l), api.ErrRange)
		}
	}
}

// Of several errors it is the one that the chapter tells first.
func TestReadOrder(t *testing.T) {
	eachBad(func(s api.Sample) {
		l := five(s)
		six := summed(l)
		// A form and a range, with a sum that is right for what there is.
		wrong(t, l, api.ErrForm)
		wrong(t, summed(l[:4]), api.ErrForm)
		wrong(t, summed(six), api.ErrForm)
		wrong(t, append(slices.Clone(six), 0), api.ErrForm)
		// A sum and a range.
		six[5]++
		wrong(t, six, api.ErrSum)
		// All three.
		wrong(t, append(slices.Clone(six), 1), api.ErrForm)
	})
	// A form and a sum.
	good := summed(five(plain()))
	good[5]++
	wrong(t, good[:5], api.ErrForm)
	wrong(t, append(slices.Clone(good), 1), api.ErrForm)
}

// P13.4

func TestBefore(t *testing.T) {
	for _, x := range []struct {
		a, b api.Sample
		is   bool
	}{
		{api.Sample{}, api.Sample{}, false},
		{api.Sample{T: 1}, api.Sample{T: 2}, true},
		{api.Sample{T: 2}, api.Sample{T: 1}, false},
		{api.Sample{T: 1, S: 3}, api.Sample{T: 2, S: 0}, true},
		{api.Sample{T: 2, S: 0}, api.Sample{T: 1, S: 3}, false},
		{api.Sample{T: 1, S: 2}, api.Sample{T: 1, S: 3}, true},
		{api.Sample{T: 1, S: 2}, api.Sample{T: 1, S: 2}, false},
		{api.Sample{T: 1, S: 3}, api.Sample{T: 1, S: 2}, false},
		{api.Sample{T: 1, S: 2, V: [3]int{9, 9, 9}}, api.Sample{T: 1, S: 3}, true},
		{api.Sample{T: 1, S: 2, V: [3]int{0, 0, 1}}, api.Sample{T: 1, S: 2, V: [3]int{1, 1, 0}}, false},
		{api.Sample{T: 1, S: 2, V: [3]int{1, 1, 0}}, api.Sample{T: 1, S: 2, V: [3]int{0, 0, 1}}, false},
		{api.Sample{T: 2, S: 2, V: [3]int{-1, -1, -1}}, api.Sample{T: 1, S: 2, V: [3]int{1, 1, 1}}, false},
		{api.Sample{T: low}, api.Sample{T: high}, true},
		{api.Sample{T: high}, api.Sample{T: low}, false},
		{api.Sample{T: -1, S: 4}, api.Sample{T: 0, S: -1}, true},
		{api.Sample{T: 1, S: low}, api.Sample{T: 1, S: high}, true},
		{api.Sample{T: 1, S: high}, api.Sample{T: 1, S: low}, false},
		{api.Sample{T: 1, S: -1}, api.Sample{T: 1, S: 0}, true},
		{api.Sample{T: 1, S: 4}, api.Sample{T: 1, S: 5}, true},
		{api.Sample{T: latest + 1}, api.Sample{T: latest + 2}, true},
	} {
		if got := sample.Before(x.a, x.b); got != x.is {
			t.Errorf("Before of %+v and %+v = %t", x.a, x.b, got)
		}
	}
}

// Samples by rising T, and of one T by rising S, are in the order in which they come, whatever V is, and whether they may be or not.
func TestBeforeOfAll(t *testing.T) {
	ends := []int{low, low + 1, -lim - 1, -1 << 32, -2, -1, 0, 1, 2, 3, 4, 1 << 32, 1<<32 + 1, latest, latest + 1, lim + 1, high - 1, high}
	var all []api.Sample
	for _, when := range ends {
		for _, sensor := range ends {
			all = append(all, api.Sample{T: when, S: sensor})
		}
	}
	vs := [][3]int{{}, {1, 2, 3}, {-1, -2, -3}, {low, high, 0}, {high, low, 0}}
	for i, a := range all {
		for k, b := range all {
			for n, v := range vs {
				a.V, b.V = v, vs[(i+k+n)%len(vs)]
				if got := sample.Before(a, b); got != (i < k) {
					t.Fatalf("Before of %+v and %+v = %t", a, b, got)
				}
			}
		}
	}
}

// P13.5

// What is laid is read, and what is read is laid again.
func TestLaidIsRead(t *testing.T) {
	eachGood(func(s api.Sample) {
		l := sample.Words(s)
		if got, err := sample.Read(l); got != s || err != api.OK {
			t.Fatalf("Read of the words of %+v, %v, = %+v, %d", s, l, got, int(err))
		}
	})
	for _, s := range few() {
		l := summed(five(s))
		got, _ := sample.Read(l)
		if again := sample.Words(got); !slices.Equal(again, l) {
			t.Fatalf("%v are read as %+v, which is laid as %v", l, got, again)
		}
	}
}

// others is words that are not w: each bit turned, numbers nearby, and edges.
func others(w uint64) words {
	all := words{0, 1, 2, 3, 4, last, 1 << 63, 1<<63 - 1, latest, lim, w + 1, w - 1, w + 256, -w, ^w, w << 1, w >> 1, w<<32 | w>>32}
	for bit := range 64 {
		all = append(all, w^1<<bit, w^3<<bit)
	}
	return slices.DeleteFunc(all, func(x uint64) bool { return x == w })
}

// Another word changes the sum for certain, so it is always this one that tells.
func TestAnotherWord(t *testing.T) {
	for _, s := range few() {
		l := sample.Words(s)
		for place := range l {
			w := l[place]
			for _, x := range others(w) {
				l[place] = x
				wrong(t, l, api.ErrSum)
			}
			l[place] = w
		}
		sameRead(t, l, s, api.OK)
	}
}

// P1, R1 to R5

func TestNil(t *testing.T) {
	if got := sample.Sum(nil); got != 14695981039346656037 {
		t.Error(got)
	}
	wrong(t, nil, api.ErrForm)
}

// Of samples of which nothing is said each call answers.
func TestEmptySample(t *testing.T) {
	if !sample.Sane(api.Sample{}) || len(sample.Words(api.Sample{})) != 6 || sample.Before(api.Sample{}, api.Sample{}) {
		t.Error("the empty sample")
	}
}

// What was handed in is not changed, nor what lies ahead of it and behind it in its memory.
func TestNothingIsChanged(t *testing.T) {
	for _, middle := range []words{nil, summed(five(plain())), summed(five(with(plain(), 1, 9))), spread(5), spread(6), spread(7), spread(100)} {
		around := slices.Concat(spread(10), middle, spread(10))
		was := slices.Clone(around)
		l := around[10 : 10+len(middle)]
		sample.Sum(l)
		sample.Read(l)
		sample.Read(l[:min(5, len(l))])
		if !slices.Equal(around, was) {
			t.Fatalf("what was handed in, %v, was changed", middle)
		}
	}
}

// What is answered has memory of its own: whoever writes on it, or lays more behind it, changes no other answer.
func TestAnswerIsNew(t *testing.T) {
	for _, s := range few() {
		want := summed(five(s))
		first, second := sample.Words(s), sample.Words(s)
		first = first[:cap(first)]
		for i := range first {
			first[i] = 123456789
		}
		if third := sample.Words(s); !slices.Equal(second, want) || !slices.Equal(third, want) {
			t.Fatalf("Words of %+v = %v and %v behind others that were written on; want %v", s, second, third, want)
		}
	}
	l := sample.Words(plain())
	s, _ := sample.Read(l)
	clear(l)
	if s != plain() {
		t.Fatalf("%+v was read of words that were cleared then", s)
	}
}

// A call that is made again answers the same, whatever was called in between: nothing is kept.
func TestNothingIsKept(t *testing.T) {
	l := sample.Words(plain())
	for n, s := range few() {
		sample.Words(s)
		sample.Words(with(s, 1, 4))
		sample.Read(spread(n))
		sample.Read(summed(five(s)))
		sample.Sum(spread(n))
		sample.Before(s, plain())
		if got := sample.Sum(l[:5]); got != l[5] {
			t.Fatalf("Sum of %v = %d", l[:5], got)
		}
		if got := sample.Words(plain()); !slices.Equal(got, l) {
			t.Fatalf("Words of %+v = %v; before it was %v", plain(), got, l)
		}
		sameRead(t, l, plain(), api.OK)
	}
}

// Every call ends, none panics, and an error comes with no sample: of numbers and words of any kind.
func TestAlways(t *testing.T) {
	ints := []int{low, low + 1, -lim - 1, -lim, -1 << 32, -1, 0, 1, 3, 4, latest, latest + 1, lim, lim + 1, high}
	for _, a := range ints {
		for _, b := range ints {
			for _, c := range ints {
				s := api.Sample{T: a, S: b, V: [3]int{c, a, b}}
				sane := wantedSane(s)
				l := sample.Words(s)
				if sample.Sane(s) != sane || (len(l) == 6) != sane || (len(l) == 0) == sane {
					t.Fatalf("of %+v: %t, %v", s, sample.Sane(s), l)
				}
				if sane {
					sameRead(t, summed(five(s)), s, api.OK)
				} else {
					wrong(t, summed(five(s)), api.ErrRange)
				}
				sample.Before(s, plain())
				sample.Before(plain(), s)
			}
		}
	}
	for size := range 300 {
		if s, err := sample.Read(spread(size)); err == api.OK || s != (api.Sample{}) {
			t.Fatalf("Read of %d words that are no sample's = %+v, %d", size, s, int(err))
		}
	}
}
