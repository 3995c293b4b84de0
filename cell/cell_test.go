package cell_test

import (
	"math"
	"slices"
	"testing"

	"outrigger/api"
	"outrigger/cell"
)

const (
	low  = math.MinInt
	high = math.MaxInt
	last = math.MaxUint64
	most = 256
)

type (
	words    = []uint64
	accesses = []api.Access
)

// sizes is how many words a memory has that is tested: none, one, a few, all that count, and more.
func sizes() []int { return []int{0, 1, 2, 3, 7, 64, 65, 255, 256, 257, 258, 300, 512, 1000} }

// otherKinds is numbers that are no kind of access; cut to fewer bits some of them would be one.
func otherKinds() []int {
	return []int{-1, -2, -3, -4, 4, 5, 6, 7, 8, 255, 256, 257, 258, 259, 1 << 32, 1<<32 + 1, 1<<32 + 2, 1<<32 + 3, -1 << 32, low, low + 1, low + 2, low + 3, high - 1, high}
}

// kinds is all kinds of access, and others.
func kinds() []int {
	return append([]int{cell.Load, cell.Store, cell.Swap, cell.More}, otherKinds()...)
}

// noPlaces is places that there are not in a memory of so many words.
func noPlaces(size int) []int {
	counted := min(size, most)
	all := []int{-1, -2, -counted - 1, -most, -most - 1, -1 << 32, 1 << 32, 1<<32 + 1, 1 << 62, low, low + 1, low + most, high - 1, high}
	for i := counted; i <= max(size, most)+1; i++ {
		all = append(all, i)
	}
	return all
}

// numbers is words at which an access may go another way, for one that is laid over a word w.
func numbers(w uint64) words {
	return words{0, 1, 2, w, w - 1, w + 1, -w, -w - 1, -w + 1, 1 << 32, w ^ 1<<32, 1 << 63, w ^ 1<<63, last - 1, last}
}

// spread is words of all sizes, none twice, the same ones at each run.
func spread(count int) words {
	all := words{0, last, 1, last - 1, 1 << 63, 1<<63 - 1, 1 << 32, 1<<32 - 1}
	x := uint64(1)
	for i := 0; len(all) < count; i++ {
		x ^= x << 13
		x ^= x >> 7
		x ^= x << 17
		if w := x >> (i % 48); !slices.Contains(all, w) {
			all = append(all, w)
		}
	}
	return all[:count]
}

// counted is what counts of a memory.
func counted(m words) words { return slices.Clone(m[:min(len(m), 256)]) }

// with is what counts of a memory, but for w at one place.
func with(m words, i int, w uint64) words {
	after := counted(m)
	after[i] = w
	return after
}

// further is a more than w, going around, without a sum that goes around.
func further(w, a uint64) uint64 {
	if left := last - w; a > left {
		return a - left - 1
	}
	return w + a
}

// wantedDo tells the document's words once more.
func wantedDo(m words, x api.Access) (words, uint64) {
	if x.I < 0 || x.I >= 256 || x.I >= len(m) {
		return counted(m), 0
	}
	w := m[x.I]
	switch {
	case x.K == 0:
		return counted(m), w
	case x.K == 1:
		return with(m, x.I, x.A), 0
	case x.K == 2 && w == x.A:
		return with(m, x.I, x.B), 1
	case x.K == 3:
		return with(m, x.I, further(w, x.A)), further(w, x.A)
	}
	return counted(m), 0
}

// wantedRun is one access behind the other.
func wantedRun(m words, l accesses) (words, words) {
	after, told := counted(m), words{}
	for _, x := range l {
		var one uint64
		after, one = wantedDo(after, x)
		told = append(told, one)
	}
	return after, told
}

// sameDo holds what Do answers, and what Run answers of this access alone, against a memory and what is told; m stays as it is.
func sameDo(t *testing.T, m words, x api.Access, after words, told uint64) {
	t.Helper()
	was := slices.Clone(m)
	if got, one := cell.Do(m, x); !slices.Equal(got, after) || one != told {
		t.Fatalf("Do of %v and %+v = %v, %d; want %v, %d", m, x, got, one, after, told)
	}
	if got, all := cell.Run(m, accesses{x}); !slices.Equal(got, after) || !slices.Equal(all, words{told}) {
		t.Fatalf("Run of %v and %+v alone = %v, %v; want %v, %d alone", m, x, got, all, after, told)
	}
	if !slices.Equal(m, was) {
		t.Fatalf("%+v changed what was handed in, %v, to %v", x, was, m)
	}
}

// sameRun holds what Run answers against a memory and what is told; m and l stay as they are.
func sameRun(t *testing.T, m words, l accesses, after, told words) {
	t.Helper()
	was, wasL := slices.Clone(m), slices.Clone(l)
	if got, all := cell.Run(m, l); !slices.Equal(got, after) || !slices.Equal(all, told) {
		t.Fatalf("Run of %v and %+v = %v, %v; want %v, %v", m, l, got, all, after, told)
	}
	if !slices.Equal(m, was) || !slices.Equal(l, wasL) {
		t.Fatalf("Run changed %v and %+v to %v and %+v", was, wasL, m, l)
	}
}

// eachMemory hands on memories of all sizes with words of all kinds, and small ones with one and the same word at each place.
func eachMemory(f func(m words)) {
	f(nil)
	for _, size := range sizes() {
		f(spread(size))
		if size <= 65 {
			f(make(words, size))
			f(slices.Repeat(words{last}, size))
			f(slices.Repeat(words{7}, size))
		}
	}
}

// eachAccess hands on accesses of a memory, of all kinds, at each place and at places that there are not.
func eachAccess(m words, f func(x api.Access)) {
	for _, k := range kinds() {
		for i, w := range counted(m) {
			some := numbers(w)
			if k < 0 || k > 3 {
				some = some[2:5]
			}
			for n, a := range some {
				f(api.Access{K: k, I: i, A: a, B: some[(n+i)%len(some)]})
			}
		}
		for n, i := range noPlaces(len(m)) {
			f(api.Access{K: k, I: i})
			f(api.Access{K: k, I: i, A: uint64(n), B: last})
			f(api.Access{K: k, I: i, A: 7, B: 7})
			if i >= 0 && i < len(m) {
				f(api.Access{K: k, I: i, A: m[i], B: 8})
			}
		}
	}
}

// listed is so many accesses, mixed, of places of a memory of so many words and of some beside, the same ones for each seed. Their numbers are small, so that many a swap is done.
func listed(seed, count, size int) accesses {
	all := make(accesses, count)
	x := uint64(seed)*0x9e3779b97f4a7c15 + 1
	for n := range all {
		x ^= x << 13
		x ^= x >> 7
		x ^= x << 17
		all[n] = api.Access{K: int(x>>8%6) - 1, I: int(x>>16%uint64(size+3)) - 1, A: x >> 40 % 4, B: x >> 48 % 4}
		if x>>56%16 == 0 {
			all[n].A = -all[n].A
		}
	}
	return all
}

func TestConstants(t *testing.T) {
	if cell.Load != 0 || cell.Store != 1 || cell.Swap != 2 || cell.More != 3 {
		t.Error(cell.Load, cell.Store, cell.Swap, cell.More)
	}
	if api.MaxMem != most {
		t.Error(api.MaxMem)
	}
}

// P11.1

func TestNew(t *testing.T) {
	check := func(n, size int) {
		t.Helper()
		m := cell.New(n)
		if len(m) != size {
			t.Fatalf("New(%d) has %d words; want %d", n, len(m), size)
		}
		for i, w := range m {
			if w != 0 {
				t.Fatalf("New(%d) has %d at place %d", n, w, i)
			}
		}
	}
	for n := 1; n <= 256; n++ {
		check(n, n)
	}
	for n := 257; n <= 1100; n++ {
		check(n, 256)
	}
	for n := -1100; n < 1; n++ {
		check(n, 0)
	}
	// Cut to fewer bits these would be another number, or of the other sign.
	for _, n := range []int{1 << 16, 1<<16 + 3, 1 << 31, 1 << 32, 1<<32 + 5, 1 << 40, 1 << 62, high - 1, high} {
		check(n, 256)
	}
	for _, n := range []int{-1 << 16, 3 - 1<<16, -1 << 31, -1 << 32, 5 - 1<<32, -1 << 62, low, low + 1, low + 5, low + 300} {
		check(n, 0)
	}
}

// P11.2

func TestLoad(t *testing.T) {
	m := words{1, last, 0}
	sameDo(t, m, api.Access{K: cell.Load, I: 0}, m, 1)
	sameDo(t, m, api.Access{K: cell.Load, I: 1}, m, last)
	sameDo(t, m, api.Access{K: cell.Load, I: 2}, m, 0)
	sameDo(t, m, api.Access{K: cell.Load, I: 0, A: 1, B: 9}, m, 1)
	sameDo(t, m, api.Access{K: cell.Load, I: 1, A: 5, B: last}, m, last)
	sameDo(t, m, api.Access{K: cell.Load, I: 2, A: last, B: 9}, m, 0)
	sameDo(t, words{1 << 63}, api.Access{K: cell.Load}, words{1 << 63}, 1<<63)
}

func TestStore(t *testing.T) {
	m := words{1, last, 0}
	sameDo(t, m, api.Access{K: cell.Store, I: 0, A: 9}, words{9, last, 0}, 0)
	sameDo(t, m, api.Access{K: cell.Store, I: 1, A: 0}, words{1, 0, 0}, 0)
	sameDo(t, m, api.Access{K: cell.Store, I: 2, A: last, B: 4}, words{1, last, last}, 0)
	sameDo(t, m, api.Access{K: cell.Store, I: 2, A: 1 << 63, B: last}, words{1, last, 1 << 63}, 0)
	sameDo(t, m, api.Access{K: cell.Store, I: 0, A: 1, B: 4}, m, 0)
	sameDo(t, words{5}, api.Access{K: cell.Store, A: 6}, words{6}, 0)
}

func TestSwap(t *testing.T) {
	m := words{1, last, 0, 1 << 32}
	for _, x := range []struct {
		i    int
		a, b uint64
		w    uint64
		told uint64
	}{
		{0, 1, 8, 8, 1}, {0, 1, 0, 0, 1}, {0, 1, last, last, 1}, {0, 1, 1, 1, 1}, {0, 0, 8, 1, 0}, {0, 2, 8, 1, 0}, {0, 2, 2, 1, 0}, {0, 8, 1, 1, 0}, {0, last, 8, 1, 0}, {0, 1 + 1<<32, 8, 1, 0}, {0, 1 + 1<<63, 8, 1, 0},
		{1, last, 8, 8, 1}, {1, last, last, last, 1}, {1, last, 0, 0, 1}, {1, last - 1, 8, last, 0}, {1, 0, 8, last, 0}, {1, 1<<32 - 1, 8, last, 0}, {1, 1<<63 - 1, 8, last, 0},
		{2, 0, 8, 8, 1}, {2, 0, 0, 0, 1}, {2, 0, 1, 1, 1}, {2, 1, 8, 0, 0}, {2, 1, 1, 0, 0}, {2, 1 << 32, 8, 0, 0}, {2, 1 << 63, 8, 0, 0}, {2, last, 8, 0, 0},
		{3, 1 << 32, 8, 8, 1}, {3, 1 << 32, 1 << 32, 1 << 32, 1}, {3, 0, 8, 1 << 32, 0},
	} {
		sameDo(t, m, api.Access{K: cell.Swap, I: x.i, A: x.a, B: x.b}, with(m, x.i, x.w), x.told)
	}
}

func TestMore(t *testing.T) {
	m := words{1, last, 0, 1 << 63}
	for _, x := range []struct {
		i       int
		a, then uint64
	}{
		{0, 0, 1}, {0, 1, 2}, {0, last - 2, last - 1}, {0, last - 1, last}, {0, last, 0}, {0, 1 << 32, 1<<32 + 1},
		{1, 0, last}, {1, 1, 0}, {1, 2, 1}, {1, 1 << 63, 1<<63 - 1}, {1, last, last - 1}, {1, last - 1, last - 2},
		{2, 0, 0}, {2, 1, 1}, {2, 5, 5}, {2, 1 << 63, 1 << 63}, {2, last, last},
		{3, 0, 1 << 63}, {3, 1<<63 - 1, last}, {3, 1 << 63, 0}, {3, 1<<63 + 1, 1}, {3, last, 1<<63 - 1},
	} {
		for _, b := range []uint64{0, 1, 9, last} {
			sameDo(t, m, api.Access{K: cell.More, I: x.i, A: x.a, B: b}, with(m, x.i, x.then), x.then)
		}
	}
}

func TestOtherKinds(t *testing.T) {
	m := words{1, last, 0}
	for _, k := range otherKinds() {
		for i := range m {
			for _, a := range []uint64{0, 1, 5, last} {
				sameDo(t, m, api.Access{K: k, I: i, A: a, B: 8}, m, 0)
			}
		}
	}
}

func TestNoPlace(t *testing.T) {
	for _, size := range sizes() {
		m := slices.Repeat(words{7}, size)
		after := slices.Repeat(words{7}, min(size, 256))
		for _, i := range noPlaces(size) {
			for _, k := range kinds() {
				sameDo(t, m, api.Access{K: k, I: i, A: 7, B: 8}, after, 0)
			}
		}
	}
}

// The word at place 255 is the last one that counts, that at place 256 does not.
func TestLongMemory(t *testing.T) {
	for _, size := range []int{256, 257, 300, 5000} {
		m := spread(size)
		for i := range 256 {
			sameDo(t, m, api.Access{K: cell.Load, I: i}, m[:256], m[i])
			sameDo(t, m, api.Access{K: cell.Store, I: i, A: 5}, with(m, i, 5), 0)
		}
		for i := 256; i < min(size, 600); i++ {
			sameDo(t, m, api.Access{K: cell.Load, I: i}, m[:256], 0)
			sameDo(t, m, api.Access{K: cell.Store, I: i, A: 5}, m[:256], 0)
			sameDo(t, m, api.Access{K: cell.Swap, I: i, A: m[i], B: 5}, m[:256], 0)
			sameDo(t, m, api.Access{K: cell.More, I: i, A: 5}, m[:256], 0)
		}
	}
}

// Do is as the words say, for all kinds, at all places of memories of all sizes.
func TestDo(t *testing.T) {
	eachMemory(func(m words) {
		was := slices.Clone(m)
		eachAccess(m, func(x api.Access) {
			got, one := cell.Do(m, x)
			if after, told := wantedDo(m, x); !slices.Equal(got, after) || one != told {
				t.Fatalf("Do of %v and %+v = %v, %d; want %v, %d", m, x, got, one, after, told)
			}
		})
		if !slices.Equal(m, was) {
			t.Fatalf("Do changed %v to %v", was, m)
		}
	})
}

// P11.3

func TestExample(t *testing.T) {
	l := accesses{{K: cell.More, I: 1, A: 5}, {K: cell.Swap, I: 1, A: 5, B: 7}, {K: cell.Load, I: 1}}
	sameRun(t, words{0, 0}, l, words{0, 7}, words{5, 1, 7})
	sameRun(t, cell.New(2), l, words{0, 7}, words{5, 1, 7})
}

func TestRunOfNone(t *testing.T) {
	eachMemory(func(m words) {
		sameRun(t, m, nil, counted(m), nil)
		sameRun(t, m, accesses{}, counted(m), nil)
	})
}

func TestRunAtOneWord(t *testing.T) {
	sameRun(t, words{3}, accesses{{K: cell.Load}, {K: cell.Store, A: 4}, {K: cell.Load}, {K: cell.More, A: last}, {K: cell.Swap, A: 4, B: 9}, {K: cell.Swap, A: 3, B: 9}, {K: 4, A: 1}, {K: cell.Load}},
		words{9}, words{3, 0, 4, 3, 0, 1, 0, 9})
	sameRun(t, words{last - 1}, accesses{{K: cell.More, A: 1}, {K: cell.More, A: 1}, {K: cell.More, A: 1}}, words{1}, words{last, 0, 1})
	sameRun(t, words{5}, accesses{{K: cell.Store, A: 1}, {K: cell.Store, A: 2}, {K: cell.Store, A: 3}, {K: cell.Load}}, words{3}, words{0, 0, 0, 3})
}

// The second word is at work, and others are, and each access tells in its own place, also where there is no place, or no kind.
func TestRunAtSeveralWords(t *testing.T) {
	sameRun(t, words{1, 2, 3}, accesses{
		{K: cell.Load, I: 2},
		{K: cell.More, I: -1, A: 9},
		{K: cell.More, I: 0, A: 9},
		{K: cell.Store, I: 3, A: 9},
		{K: cell.Load, I: 0},
		{K: cell.Load, I: 3},
		{K: cell.Swap, I: 1, A: 2, B: 10},
		{K: cell.Swap, I: high, A: 0, B: 10},
		{K: -1, I: 1, A: 9},
		{K: cell.Load, I: 1},
		{K: cell.Load, I: low},
		{K: cell.More, I: 2, A: 1},
		{K: high, I: 2, A: 1},
		{K: cell.Store, I: 2, A: 6},
		{K: cell.Load, I: 2},
		{K: cell.Load, I: 256},
	}, words{10, 10, 6}, words{3, 0, 10, 0, 10, 0, 1, 0, 0, 10, 0, 4, 0, 0, 6, 0})
}

func TestRunOfALongMemory(t *testing.T) {
	m := slices.Repeat(words{7}, 300)
	sameRun(t, m, accesses{{K: cell.More, I: 255, A: 1}, {K: cell.More, I: 256, A: 1}, {K: cell.Load, I: 256}, {K: cell.Swap, I: 299, A: 7, B: 1}, {K: cell.Store, I: 299, A: 1}, {K: cell.Load, I: 255}, {K: cell.Load, I: 299}},
		with(m, 255, 8), words{8, 0, 0, 0, 0, 8, 0})
}

// Of accesses all count, however many there are.
func TestRunOfMany(t *testing.T) {
	for _, count := range []int{1, 2, 63, 64, 65, 200, 255, 256, 257, 1000, 1<<16 + 3} {
		told := make(words, count)
		for n := range told {
			told[n] = uint64(n) + 1
		}
		sameRun(t, words{9, 0, 9}, slices.Repeat(accesses{{K: cell.More, I: 1, A: 1}}, count), words{9, uint64(count), 9}, told)
		sameRun(t, words{9}, slices.Repeat(accesses{{K: cell.More, I: 1, A: 1}}, count), words{9}, make(words, count))
	}
}

// eachRun hands on memories with lists of accesses of all lengths.
func eachRun(f func(m words, l accesses)) {
	for seed, size := range sizes() {
		for _, count := range []int{0, 1, 2, 3, 5, 50, 300, 2000} {
			f(make(words, size), listed(3*seed+1, count, size))
			f(spread(size), listed(3*seed+2, count, size))
			// At few words there are many accesses of each.
			f(slices.Repeat(words{2}, size), listed(3*seed+3, count, 3))
		}
	}
}

// Run is as the words say, and as Do of each access, one behind the other.
func TestRun(t *testing.T) {
	eachRun(func(m words, l accesses) {
		after, told := wantedRun(m, l)
		sameRun(t, m, l, after, told)
		one := m
		for n, x := range l {
			var answer uint64
			if one, answer = cell.Do(one, x); answer != told[n] {
				t.Fatalf("Do of access %d of %+v told %d; want %d", n, l, answer, told[n])
			}
		}
		if len(l) > 0 && !slices.Equal(one, after) {
			t.Fatalf("Do of each of %+v left %v; want %v", l, one, after)
		}
	})
}

// A list that is cut in two is done in two runs as in one.
func TestRunInTwo(t *testing.T) {
	eachRun(func(m words, l accesses) {
		after, told := cell.Run(m, l)
		for _, cut := range []int{0, len(l) / 3, len(l)} {
			middle, first := cell.Run(m, l[:cut])
			end, second := cell.Run(middle, l[cut:])
			if !slices.Equal(end, after) || !slices.Equal(slices.Concat(first, second), told) {
				t.Fatalf("Run of %v and %+v, cut at %d = %v, %v and %v; want %v, %v", m, l, cut, end, first, second, after, told)
			}
		}
	})
}

// P11.4

// All words but the one at the access's place stay.
func TestOneWordAlone(t *testing.T) {
	for _, size := range sizes() {
		m := spread(size)
		for i := range min(size, 256) {
			for k, w := range []uint64{m[i], 5000, 6000, m[i] + 5000} {
				x := api.Access{K: k, I: i, A: 5000, B: 6000}
				if k == cell.Swap {
					x.A = m[i]
				}
				after, _ := cell.Do(m, x)
				if len(after) != min(size, 256) || after[i] != w || !slices.Equal(after[:i], m[:i]) || !slices.Equal(after[i+1:], m[i+1:min(size, 256)]) {
					t.Fatalf("%+v made %v of %v", x, after, m)
				}
			}
		}
	}
}

// Of two swaps that expect the same and lay another word the first one alone is done, whatever lies beside, and also where something is done in between that leaves the word.
func TestTwoSwaps(t *testing.T) {
	for _, size := range []int{1, 2, 3, 255, 256, 257} {
		for _, i := range []int{0, min(size, 256) / 2, min(size, 256) - 1} {
			for _, w := range spread(12) {
				m := slices.Repeat(words{w}, size)
				for _, b := range []uint64{w + 1, w - 1, w + 1<<32, w ^ 1<<63, -w - 1} {
					for _, c := range []uint64{w + 1, w + 2, w ^ 1<<32, b} {
						first, second := api.Access{K: cell.Swap, I: i, A: w, B: b}, api.Access{K: cell.Swap, I: i, A: w, B: c}
						sameRun(t, m, accesses{first, second}, with(m, i, b), words{1, 0})
						sameRun(t, m, accesses{second, first}, with(m, i, c), words{1, 0})
						sameRun(t, m, accesses{first, {K: cell.Load, I: i}, {K: cell.Store, I: -1, A: w}, second, second}, with(m, i, b), words{1, b, 0, 0, 0})
					}
				}
			}
		}
	}
}

// Where the first one lays what it expects, or the word comes back in between, the second one is done too; so are two swaps of two words.
func TestTwoSwapsThatAreBothDone(t *testing.T) {
	for _, w := range spread(12) {
		m := words{w, w}
		sameRun(t, m, accesses{{K: cell.Swap, I: 1, A: w, B: w}, {K: cell.Swap, I: 1, A: w, B: w + 1}}, words{w, w + 1}, words{1, 1})
		sameRun(t, m, accesses{{K: cell.Swap, I: 1, A: w, B: w + 1}, {K: cell.Store, I: 1, A: w}, {K: cell.Swap, I: 1, A: w, B: w + 2}}, words{w, w + 2}, words{1, 0, 1})
		sameRun(t, m, accesses{{K: cell.Swap, I: 1, A: w, B: w + 1}, {K: cell.Swap, I: 0, A: w, B: w + 2}}, words{w + 2, w + 1}, words{1, 1})
		sameRun(t, m, accesses{{K: cell.Swap, I: 1, A: w, B: w + 1}, {K: cell.Swap, I: 1, A: w + 1, B: w}}, m, words{1, 1})
	}
}

// P1, R1 to R5

// Each call answers nil, as a memory of no word and as a list of no access.
func TestNil(t *testing.T) {
	for _, k := range kinds() {
		for _, i := range noPlaces(0) {
			x := api.Access{K: k, I: i, B: 5}
			sameDo(t, nil, x, nil, 0)
			sameDo(t, words{}, x, nil, 0)
			sameRun(t, nil, accesses{x, x, x}, nil, words{0, 0, 0})
		}
	}
	sameRun(t, nil, nil, nil, nil)
	sameRun(t, nil, accesses{}, nil, nil)
	sameRun(t, words{}, nil, nil, nil)
	sameRun(t, words{1, 2}, nil, words{1, 2}, nil)
	sameRun(t, nil, make(accesses, 5), nil, make(words, 5))
}

// An access of which nothing is said is a Load of the first word.
func TestEmptyAccess(t *testing.T) {
	sameDo(t, words{4, 5}, api.Access{}, words{4, 5}, 4)
	sameRun(t, words{4, 5}, make(accesses, 3), words{4, 5}, words{4, 4, 4})
}

// What was handed in is not changed, nor what lies ahead of it and behind it in its memory, also where a later access changes what an earlier one left.
func TestNothingIsChanged(t *testing.T) {
	for _, size := range sizes() {
		around := spread(size + 20)
		was := slices.Clone(around)
		m := around[10 : 10+size]
		list := listed(size+1, 520, size)
		for k := range 4 {
			for _, i := range []int{0, size / 2, size - 1, 255} {
				list = append(list, api.Access{K: k, I: i, A: 5, B: 6}, api.Access{K: cell.Store, I: i, A: 7}, api.Access{K: cell.Swap, I: i, A: 7, B: 8}, api.Access{K: cell.More, I: i, A: 9})
			}
		}
		wasList := slices.Clone(list)
		l := list[10 : len(list)-10]
		for _, x := range list {
			cell.Do(m, x)
		}
		cell.Run(m, l)
		cell.Run(m, list)
		if !slices.Equal(around, was) || !slices.Equal(list, wasList) {
			t.Fatalf("of %d words: what was handed in was changed", size)
		}
	}
}

// What was answered stays, whatever is done to it by later calls.
func TestAnswersStay(t *testing.T) {
	first := cell.New(3)
	second, _ := cell.Do(first, api.Access{K: cell.Store, I: 1, A: 5})
	third, _ := cell.Do(second, api.Access{K: cell.Load, I: 1})
	fourth, told := cell.Run(third, accesses{{K: cell.Load, I: 1}, {K: cell.More, I: 1, A: 1}, {K: cell.Store, I: 2, A: 9}})
	fifth, _ := cell.Run(fourth, nil)
	sixth, _ := cell.Do(fifth, api.Access{K: cell.Swap, I: 0, A: 0, B: 8})
	cell.Run(told, accesses{{K: cell.Store, I: 0, A: 7}})
	for n, x := range []struct{ got, want words }{{first, words{0, 0, 0}}, {second, words{0, 5, 0}}, {third, words{0, 5, 0}}, {fourth, words{0, 6, 9}}, {fifth, words{0, 6, 9}}, {sixth, words{8, 6, 9}}, {told, words{5, 6, 0}}} {
		if !slices.Equal(x.got, x.want) {
			t.Fatalf("answer %d is %v by now; want %v", n+1, x.got, x.want)
		}
	}
}

// What is answered has memory of its own: whoever writes on it, or lays more behind it, changes neither what was handed in, nor the other list, nor a later answer.
func TestAnswerIsNew(t *testing.T) {
	spoil := func(list words) {
		list = list[:cap(list)]
		for i := range list {
			list[i] = 123456789
		}
	}
	for _, size := range sizes() {
		around := spread(size + 5)
		was := slices.Clone(around)
		m := around[:size]
		for k := range 5 {
			x := api.Access{K: k, I: size / 2, A: 5, B: 6}
			after, told := wantedRun(m, accesses{x, x})
			both, bothTold := cell.Run(m, accesses{x, x})
			spoil(both)
			if !slices.Equal(bothTold, told) {
				t.Fatalf("of %d words, kind %d: what is told shares memory with the words", size, k)
			}
			one, _ := cell.Do(m, x)
			none, _ := cell.Run(m, nil)
			for _, list := range []words{bothTold, one, none, cell.New(size)} {
				spoil(list)
			}
			if !slices.Equal(around, was) {
				t.Fatalf("of %d words, kind %d: an answer shares memory with what was handed in", size, k)
			}
			sameRun(t, m, accesses{x, x}, after, told)
			if got := cell.New(size); !slices.Equal(got, make(words, min(size, 256))) {
				t.Fatalf("New(%d) = %v behind another one that was written on", size, got)
			}
		}
	}
}

// A call that is made again answers the same, whatever was called in between: nothing is kept.
func TestNothingIsKept(t *testing.T) {
	m := spread(20)
	l := listed(5, 100, 20)
	after, told := cell.Run(m, l)
	for n, x := range listed(6, 100, 20) {
		cell.Do(m, x)
		cell.Run(spread(n), l[:n])
		cell.New(n)
		sameRun(t, m, l, after, told)
	}
}

// Every call ends, none panics, and what is answered is never longer than may be: of numbers of any kind.
func TestAlways(t *testing.T) {
	ints := []int{low, low + 1, -1 << 32, -257, -256, -255, -1, 0, 1, 2, 3, 4, 5, 63, 64, 255, 256, 257, 1 << 32, 1 << 62, high - 1, high}
	for _, size := range sizes() {
		m := spread(size)
		var l accesses
		for _, k := range ints {
			for _, i := range ints {
				for _, a := range []uint64{0, 1, 1 << 63, last} {
					l = append(l, api.Access{K: k, I: i, A: a, B: ^a})
				}
			}
		}
		for _, x := range l {
			if after, _ := cell.Do(m, x); len(after) != min(size, 256) {
				t.Fatalf("Do of %d words and %+v has %d words", size, x, len(after))
			}
		}
		if after, told := cell.Run(m, l); len(after) != min(size, 256) || len(told) != len(l) {
			t.Fatalf("Run of %d words and %d accesses has %d words, and tells %d", size, len(l), len(after), len(told))
		}
	}
	for _, n := range ints {
		if got := len(cell.New(n)); got > 256 || got > max(n, 0) {
			t.Fatalf("New(%d) has %d words", n, got)
		}
	}
}
