package seq_test

import (
	"math"
	"math/big"
	"math/rand/v2"
	"slices"
	"testing"

	"outrigger/api"
	"outrigger/cell"
	"outrigger/seq"
	"outrigger/task"
)

const (
	low  = math.MinInt
	high = math.MaxInt
	last = math.MaxUint64
)

type (
	words   = []uint64
	program = []api.Ins
)

// text is so many words, all of them others for each number.
func text(number, count int) words {
	w := make(words, count)
	for k := range w {
		w[k] = uint64(number)*1000 + uint64(k)*7 + 3
	}
	return w
}

// starts is numbers for b, those at which there is a board and others.
func starts() []int {
	return []int{low, low + 1, -1 << 32, 4 - 1<<32, -256, -2, -1, 0, 1, 2, 4, 100, 226, 227, 228, 253, 254, 255, 256, 257, 512, 1 << 16, 1 << 32, 1<<32 + 4, high - 1, high}
}

// versions is numbers for ver, those which may be and others.
func versions() []int {
	return []int{low, low + 1, -1 << 32, 2 - 1<<32, -256, -3, -2, -1, 0, 1, 2, 3, 4, 5, 46, 47, 255, 256, 257, 1<<31 - 1, 1 << 31, 1<<32 - 1, 1 << 32, 1<<32 + 1, 1<<32 + 2, 1<<62 - 1, 1 << 62, 1<<62 + 1, high - 4, high - 3, high - 2, high - 1, high}
}

// sizes is numbers for n, those of which there is a board and others.
func sizes() []int {
	return []int{low, low + 1, -1 << 32, 2 - 1<<32, -28, -2, -1, 0, 1, 2, 3, 5, 14, 26, 27, 28, 29, 30, 31, 32, 56, 255, 256, 257, 1 << 32, 1<<32 + 1, high - 1, high}
}

// looks is numbers for k, those which may be and others.
func looks() []int {
	return []int{low, low + 1, -1 << 32, 2 - 1<<32, -6, -2, -1, 0, 1, 2, 3, 4, 5, 6, 7, 8, 12, 255, 256, 257, 1 << 32, 1<<32 + 1, high - 1, high}
}

// there: is there a board of n words at b?
func there(b, n int) bool { return -1 < b && b < 256 && 0 < n && n < 29 }

// sum is two numbers together as a word.
func sum(a, b int) uint64 {
	around := new(big.Int).Lsh(big.NewInt(1), 64)
	n := new(big.Int).Add(big.NewInt(int64(a)), big.NewInt(int64(b)))
	return n.Mod(n, around).Uint64()
}

// wantedWrite tells the document's words once more, place by place.
func wantedWrite(b, ver int, w words) program {
	n := len(w)
	if !there(b, n) || ver < 0 || new(big.Int).SetInt64(int64(ver)).Bit(0) == 1 {
		return nil
	}
	l := make(program, n+3)
	for p := range l {
		switch p {
		case 0:
			l[p] = api.Ins{K: 1, I: b, R: 0, To: 1, A: sum(ver, 1)}
		case n + 1:
			l[p] = api.Ins{K: 1, I: b, R: 0, To: n + 2, A: sum(ver, 2)}
		case n + 2:
			l[p] = api.Ins{K: 6, I: 0, R: 0, To: n + 3, A: 1}
		default:
			l[p] = api.Ins{K: 1, I: b + p, R: 0, To: p + 1, A: w[p-1]}
		}
	}
	return l
}

// wantedTry tells the document's words once more, place by place.
func wantedTry(b, n, k int) program {
	if !there(b, n) || k < 1 || k > 6 {
		return nil
	}
	l := make(program, k*n+4*k+2)
	nought, one := len(l)-2, len(l)-1
	for p := range l[:nought] {
		look, in := p/(n+4), p%(n+4)
		switch in {
		case 0:
			l[p] = api.Ins{K: 0, I: b, R: 0, To: p + 1, A: 0}
		case 1:
			l[p] = api.Ins{K: 5 - 1, I: 0, R: 0, To: look*(n+4) + n + 4, A: 0}
		case n + 2:
			l[p] = api.Ins{K: 0, I: b, R: 31, To: p + 1, A: 0}
		case n + 3:
			l[p] = api.Ins{K: 5, I: 0, R: 31, To: one, A: 0}
		default:
			l[p] = api.Ins{K: 0, I: b + in - 1, R: in - 1, To: p + 1, A: 0}
		}
	}
	l[nought] = api.Ins{K: 6, I: 0, R: 0, To: one, A: 0}
	l[one] = api.Ins{K: 6, I: 0, R: 0, To: one + 1, A: 1}
	return l
}

// sameProgram holds a program against another one, instruction by instruction.
func sameProgram(t *testing.T, name string, of []int, l, want program) {
	t.Helper()
	if len(l) != len(want) {
		t.Fatalf("%s%v: %d instructions, not %d", name, of, len(l), len(want))
	}
	for p, x := range want {
		if l[p] != x {
			t.Fatalf("%s%v: instruction %d is %+v, not %+v", name, of, p, l[p], x)
		}
	}
}

// sameWrite holds a write against what is wanted, and asks whether it changed its words.
func sameWrite(t *testing.T, b, ver int, w words, want program) {
	t.Helper()
	was := slices.Clone(w)
	sameProgram(t, "Write", []int{b, ver, len(w)}, seq.Write(b, ver, w), want)
	if !slices.Equal(w, was) {
		t.Fatalf("Write(%d, %d) changed %v to %v", b, ver, was, w)
	}
}

// sameTry holds a try against what is wanted.
func sameTry(t *testing.T, b, n, k int, want program) {
	t.Helper()
	sameProgram(t, "Try", []int{b, n, k}, seq.Try(b, n, k), want)
}

// seeded is thrown numbers, the same ones for each seed.
func seeded(seed int) *rand.Rand { return rand.New(rand.NewPCG(uint64(seed), 15)) }

// P15.1

func TestWriteTold(t *testing.T) {
	sameWrite(t, 4, 6, words{11, last, 33}, program{
		{K: task.Put, I: 4, A: 7, To: 1},
		{K: task.Put, I: 5, A: 11, To: 2},
		{K: task.Put, I: 6, A: last, To: 3},
		{K: task.Put, I: 7, A: 33, To: 4},
		{K: task.Put, I: 4, A: 8, To: 5},
		{K: task.End, A: 1, To: 6},
	})
	sameWrite(t, 255, 0, words{0}, program{
		{K: task.Put, I: 255, A: 1, To: 1},
		{K: task.Put, I: 256, A: 0, To: 2},
		{K: task.Put, I: 255, A: 2, To: 3},
		{K: task.End, A: 1, To: 4},
	})
}

// Whether there is one is asked of each number by itself, and of all together.
func TestWrite(t *testing.T) {
	for _, b := range starts() {
		for _, ver := range versions() {
			for _, n := range []int{0, 1, 2, 5, 27, 28, 29, 30, 57} {
				sameWrite(t, b, ver, text(9, n), wantedWrite(b, ver, text(9, n)))
			}
		}
	}
}

func TestWriteOfNone(t *testing.T) {
	for _, x := range [][3]int{
		{-1, 0, 1}, {256, 0, 1}, {low, 0, 1}, {high, 0, 1},
		{0, -1, 1}, {0, -2, 1}, {0, 1, 1}, {0, 3, 1}, {0, 1<<62 + 1, 1}, {0, low, 1}, {0, low + 1, 1}, {0, high, 1},
		{0, 0, 0}, {0, 0, 29}, {0, 0, 256}, {0, 0, 1000}, {-1, -1, 29}, {256, 1, 0},
	} {
		sameWrite(t, x[0], x[1], text(1, x[2]), nil)
	}
}

// Each number of words from 1 to 28, whatever lies behind them in their memory.
func TestWriteOfWords(t *testing.T) {
	all := text(1, 60)
	sameWrite(t, 4, 2, nil, nil)
	for n := range len(all) {
		sameWrite(t, 4, 2, all[:n], wantedWrite(4, 2, all[:n]))
		sameWrite(t, 4, 2, all[n:], wantedWrite(4, 2, all[n:]))
		count := len(seq.Write(4, 2, all[:n]))
		if may := n >= 1 && n <= 28; may && count != n+3 || !may && count != 0 {
			t.Errorf("a write of %d words has %d instructions", n, count)
		}
	}
	for _, w := range (words{0, 1, 2, 1 << 32, 1<<63 - 1, 1 << 63, last - 1, last}) {
		for k := range 28 {
			l := text(5, 28)
			l[k] = w
			sameWrite(t, 200, 8, l, wantedWrite(200, 8, l))
		}
	}
}

func TestWriteAtAll(t *testing.T) {
	for b := range 256 {
		for n := 1; n <= 28; n++ {
			sameWrite(t, b, 2*(b+n), text(b, n), wantedWrite(b, 2*(b+n), text(b, n)))
		}
	}
}

// The version and 1, and 2, as words.
func TestWriteVersions(t *testing.T) {
	for _, x := range []struct {
		ver      int
		odd, all uint64
	}{
		{0, 1, 2},
		{2, 3, 4},
		{4, 5, 6},
		{254, 255, 256},
		{1<<31 - 2, 2147483647, 2147483648},
		{1<<32 - 2, 4294967295, 4294967296},
		{1 << 32, 4294967297, 4294967298},
		{1 << 62, 4611686018427387905, 4611686018427387906},
		{high - 3, 9223372036854775805, 9223372036854775806},
		{high - 1, 9223372036854775807, 9223372036854775808},
	} {
		l := seq.Write(20, x.ver, text(0, 3))
		if len(l) != 6 || l[0].A != x.odd || l[4].A != x.all {
			t.Errorf("Write(20, %d): %+v", x.ver, l)
		}
	}
}

// P15.2

func TestTryTold(t *testing.T) {
	sameTry(t, 4, 2, 3, program{
		{K: task.Load, I: 4, To: 1},
		{K: task.Odd, To: 6},
		{K: task.Load, I: 5, R: 1, To: 3},
		{K: task.Load, I: 6, R: 2, To: 4},
		{K: task.Load, I: 4, R: 31, To: 5},
		{K: task.Like, R: 31, To: 19},

		{K: task.Load, I: 4, To: 7},
		{K: task.Odd, To: 12},
		{K: task.Load, I: 5, R: 1, To: 9},
		{K: task.Load, I: 6, R: 2, To: 10},
		{K: task.Load, I: 4, R: 31, To: 11},
		{K: task.Like, R: 31, To: 19},

		{K: task.Load, I: 4, To: 13},
		{K: task.Odd, To: 18},
		{K: task.Load, I: 5, R: 1, To: 15},
		{K: task.Load, I: 6, R: 2, To: 16},
		{K: task.Load, I: 4, R: 31, To: 17},
		{K: task.Like, R: 31, To: 19},

		{K: task.End, To: 19},
		{K: task.End, A: 1, To: 20},
	})
	sameTry(t, 255, 1, 1, program{
		{K: task.Load, I: 255, To: 1},
		{K: task.Odd, To: 5},
		{K: task.Load, I: 256, R: 1, To: 3},
		{K: task.Load, I: 255, R: 31, To: 4},
		{K: task.Like, R: 31, To: 6},
		{K: task.End, To: 6},
		{K: task.End, A: 1, To: 7},
	})
}

func TestTry(t *testing.T) {
	for _, b := range starts() {
		for _, n := range sizes() {
			for _, k := range looks() {
				sameTry(t, b, n, k, wantedTry(b, n, k))
			}
		}
	}
}

func TestTryOfNone(t *testing.T) {
	for _, x := range [][3]int{
		{-1, 1, 1}, {256, 1, 1}, {low, 1, 1}, {high, 1, 1},
		{0, 0, 1}, {0, -1, 1}, {0, 29, 1}, {0, low, 1}, {0, high, 1},
		{0, 1, 0}, {0, 1, -1}, {0, 1, 7}, {0, 1, low}, {0, 1, high},
		{-1, 0, 0}, {256, 29, 7}, {255, 28, 7}, {255, 29, 6},
	} {
		sameTry(t, x[0], x[1], x[2], nil)
	}
}

func TestTryAtAll(t *testing.T) {
	for b := range 256 {
		for n := 1; n <= 28; n++ {
			k := 1 + (b+n)%6
			sameTry(t, b, n, k, wantedTry(b, n, k))
		}
	}
}

// How many there are, and where the first look, one in the middle and the last one go on.
func TestTryPlaces(t *testing.T) {
	for _, x := range []struct {
		n, k, count           int
		first, middle, latest int // where Odd goes on
		nought, one           int
	}{
		{1, 1, 7, 5, 5, 5, 5, 6},
		{1, 2, 12, 5, 5, 10, 10, 11},
		{1, 6, 32, 5, 15, 30, 30, 31},
		{2, 3, 20, 6, 12, 18, 18, 19},
		{3, 5, 37, 7, 21, 35, 35, 36},
		{27, 1, 33, 31, 31, 31, 31, 32},
		{28, 1, 34, 32, 32, 32, 32, 33},
		{28, 5, 162, 32, 96, 160, 160, 161},
		{28, 6, 194, 32, 96, 192, 192, 193},
	} {
		l := seq.Try(0, x.n, x.k)
		if len(l) != x.count {
			t.Fatalf("Try(0, %d, %d) has %d instructions, not %d", x.n, x.k, len(l), x.count)
		}
		size := x.n + 4
		middle, latest := (x.k-1)/2*size, (x.k-1)*size
		if l[1].To != x.first || l[middle+1].To != x.middle || l[latest+1].To != x.latest {
			t.Errorf("Try(0, %d, %d): looks go on at %d, %d, %d", x.n, x.k, l[1].To, l[middle+1].To, l[latest+1].To)
		}
		for _, at := range []int{0, middle, latest} {
			if like := l[at+size-1]; like.K != task.Like || like.To != x.one {
				t.Errorf("Try(0, %d, %d): the look at %d ends with %+v", x.n, x.k, at, like)
			}
		}
		if l[x.nought] != (api.Ins{K: task.End, To: x.one}) || l[x.one] != (api.Ins{K: task.End, A: 1, To: x.count}) {
			t.Errorf("Try(0, %d, %d) ends with %+v, %+v", x.n, x.k, l[x.nought], l[x.one])
		}
	}
}

// P15.3

// filled is 32 registers, each another word, some of them from 2^63 on.
func filled() [32]uint64 {
	var r [32]uint64
	for i := range r {
		r[i] = uint64(100 + i)
	}
	r[0], r[1], r[3], r[5], r[27], r[28] = 1<<63+8, 1<<63-1, 1<<63, last, 1<<63+7, last-1
	return r
}

// read is the words that filled has of a board of n words.
func read(n int) words {
	w := words{1<<63 - 1, 102, 1 << 63, 104, last, 106, 107, 108, 109, 110, 111, 112, 113, 114, 115, 116, 117, 118, 119, 120, 121, 122, 123, 124, 125, 126, 1<<63 + 7, last - 1}
	return w[:n]
}

// sameTaken holds what a task has read against what is wanted, nothing if that is nil.
func sameTaken(t *testing.T, u api.Task, n, ver int, want words) {
	t.Helper()
	got, w, ok := seq.Taken(u, n)
	if got != ver || ok != (want != nil) || !slices.Equal(w, want) {
		t.Errorf("Taken(%+v, %d) is %d, %v, %v, not %d, %v", u, n, got, w, ok, ver, want)
	}
}

func TestTaken(t *testing.T) {
	for _, n := range sizes() {
		whole := api.Task{R: filled(), Done: true, Ans: 1}
		if n >= 1 && n <= 28 {
			sameTaken(t, whole, n, 1<<62+4, read(n))
		} else {
			sameTaken(t, whole, n, 0, nil)
		}
		sameTaken(t, api.Task{R: filled(), Ans: 1}, n, 0, nil)
		sameTaken(t, api.Task{R: filled()}, n, 0, nil)
		for _, answer := range []int{low, low + 1, -1 << 32, 1 - 1<<32, -255, -2, -1, 0, 2, 3, 28, 255, 256, 257, 1 << 32, 1<<32 + 1, high - 1, high} {
			sameTaken(t, api.Task{R: filled(), Done: true, Ans: answer}, n, 0, nil)
			sameTaken(t, api.Task{R: filled(), Ans: answer}, n, 0, nil)
		}
	}
	for n := 1; n <= 28; n++ {
		sameTaken(t, api.Task{R: filled(), Done: true, Ans: 1}, n, 1<<62+4, read(n))
		sameTaken(t, api.Task{Done: true, Ans: 1}, n, 0, make(words, n))
	}
}

// Half of register 0, cut down.
func TestTakenHalf(t *testing.T) {
	for _, x := range []struct {
		r    uint64
		half int
	}{
		{0, 0}, {1, 0}, {2, 1}, {3, 1}, {4, 2}, {8, 4}, {9, 4}, {1 << 32, 2147483648},
		{1<<63 - 2, 4611686018427387903}, {1<<63 - 1, 4611686018427387903},
		{1 << 63, 4611686018427387904}, {1<<63 + 1, 4611686018427387904}, {1<<63 + 2, 4611686018427387905},
		{last - 2, 9223372036854775806}, {last - 1, 9223372036854775807}, {last, 9223372036854775807},
	} {
		u := api.Task{R: filled(), Done: true, Ans: 1}
		u.R[0] = x.r
		sameTaken(t, u, 5, x.half, read(5))
		u.R[0] = x.r
		sameTaken(t, u, 28, x.half, read(28))
		u.Ans = 0
		sameTaken(t, u, 5, 0, nil)
	}
}

// What else a task has does not matter, whatever it is.
func TestTakenOfTheRest(t *testing.T) {
	for _, l := range []program{nil, {}, {{}}, {{K: 9, To: -1}}, seq.Try(0, 9, 2), seq.Write(0, 2, text(1, 2))} {
		for _, pc := range []int{low, -1, 0, 1, 9, 10, 11, 200, high} {
			sameTaken(t, api.Task{Code: l, Pc: pc, R: filled(), Done: true, Ans: 1}, 6, 1<<62+4, read(6))
			sameTaken(t, api.Task{Code: l, Pc: pc, R: filled(), Done: true}, 6, 0, nil)
			sameTaken(t, api.Task{Code: l, Pc: pc, R: filled(), Ans: 1}, 6, 0, nil)
		}
	}
}

// Of a try on its way nothing is taken, until it is done.
func TestTakenOnTheWay(t *testing.T) {
	m := slices.Concat(words{6}, text(4, 3))
	u := task.Start(seq.Try(0, 3, 2))
	for range 5 {
		sameTaken(t, u, 3, 0, nil)
		u, m = task.Step(u, m)
	}
	sameTaken(t, u, 3, 3, text(4, 3))
}

// The programs

// begun asks whether a program can be started, and has its first access to do.
func begun(t *testing.T, l program) {
	t.Helper()
	u := task.Start(l)
	if !task.Sane(l) || u.Done || u.Pc != 0 || u.Ans != 0 || u.R != [32]uint64{} || !slices.Equal(u.Code, l) {
		t.Fatalf("%+v is started as %+v", l, u)
	}
}

func TestProgramsAreSane(t *testing.T) {
	for _, b := range []int{0, 1, 128, 227, 228, 254, 255} {
		for n := 1; n <= 28; n++ {
			for k := 1; k <= 6; k++ {
				begun(t, seq.Try(b, n, k))
			}
			for _, ver := range []int{0, 2, 46, 1 << 32, high - 1} {
				begun(t, seq.Write(b, ver, text(3, n)))
			}
		}
	}
}

// What is no write and no try is no program: it is done, and nothing is taken.
func TestNoProgram(t *testing.T) {
	for _, l := range []program{seq.Write(-1, 0, text(1, 1)), seq.Write(0, 1, text(1, 1)), seq.Write(0, 0, nil), seq.Try(256, 1, 1), seq.Try(0, 29, 1), seq.Try(0, 1, 7)} {
		u := task.Start(l)
		if !u.Done || u.Ans != -1 {
			t.Errorf("%+v is started as %+v", l, u)
		}
		sameTaken(t, u, 1, 0, nil)
	}
}

// sameMemory holds a memory against what is wanted.
func sameMemory(t *testing.T, m, want words) {
	t.Helper()
	if !slices.Equal(m, want) {
		t.Fatalf("the memory is %v, not %v", m, want)
	}
}

// written does a write, all of it: it answers 1, within as many steps as it has words, and 2.
func written(t *testing.T, b, ver int, w, m words) words {
	t.Helper()
	u, after, n := task.Steps(task.Start(seq.Write(b, ver, w)), m, 99)
	if !u.Done || u.Ans != 1 || n != len(w)+2 {
		t.Fatalf("Write(%d, %d) answers %d in %d steps", b, ver, u.Ans, n)
	}
	return after
}

// tried does a try where nobody writes, and holds what it reads against what is wanted: its first look is enough, and the memory stays as it is.
func tried(t *testing.T, b, k, ver int, want, m words) {
	t.Helper()
	n := len(want)
	u, after, steps := task.Steps(task.Start(seq.Try(b, n, k)), m, 99)
	if !u.Done || u.Ans != 1 || steps != n+2 {
		t.Fatalf("Try(%d, %d, %d) answers %d in %d steps", b, n, k, u.Ans, steps)
	}
	sameTaken(t, u, n, ver, want)
	sameMemory(t, after, m)
}

// invain does a try while a write is halted: each look is in vain at once.
func invain(t *testing.T, b, n, k int, m words) {
	t.Helper()
	u, after, steps := task.Steps(task.Start(seq.Try(b, n, k)), m, 99)
	if !u.Done || u.Ans != 0 || steps != k {
		t.Fatalf("Try(%d, %d, %d) answers %d in %d steps", b, n, k, u.Ans, steps)
	}
	sameTaken(t, u, n, 0, nil)
	sameMemory(t, after, m)
}

// The chapter's example.
func TestExample(t *testing.T) {
	m := cell.New(4)
	tried(t, 0, 2, 0, words{0, 0, 0}, m)
	m = written(t, 0, 0, words{2, 3, 5}, m)
	sameMemory(t, m, words{2, 2, 3, 5})
	u, after, n := task.Steps(task.Start(seq.Try(0, 3, 2)), m, 99)
	if !u.Done || u.Ans != 1 || n != 5 {
		t.Errorf("the try answers %d in %d steps", u.Ans, n)
	}
	sameTaken(t, u, 3, 1, words{2, 3, 5})
	sameMemory(t, after, m)
}

// A board of each size, at the memory's first word, in its middle and where its last word is the memory's last one.
func TestWrittenAndTried(t *testing.T) {
	for n := 1; n <= 28; n++ {
		for _, b := range []int{0, 100, 255 - n} {
			m := text(77, 256)
			m[b] = 0
			want := slices.Clone(m)
			for ver := 0; ver < 8; ver += 2 {
				m = written(t, b, ver, text(ver, n), m)
				want[b] = uint64(ver) + 2
				copy(want[b+1:], text(ver, n))
				sameMemory(t, m, want)
				for k := 1; k <= 6; k++ {
					tried(t, b, k, ver/2+1, text(ver, n), m)
				}
			}
		}
	}
}

// Where the board reaches beyond the memory's end, the words there tell 0 and keep nothing.
func TestBeyondTheEnd(t *testing.T) {
	for n := 1; n <= 28; n++ {
		for inside := range n {
			b := 255 - inside
			m := text(77, 256)
			m[b] = 8
			want := slices.Clone(m)
			m = written(t, b, 8, text(1, n), m)
			want[b] = 10
			copy(want[b+1:], text(1, n))
			sameMemory(t, m, want)
			seen := make(words, n)
			copy(seen[:inside], text(1, n))
			tried(t, b, 2, 5, seen, m)
		}
	}
}

// So it is of a memory that is shorter, also of one of no words.
func TestShortMemory(t *testing.T) {
	m := written(t, 2, 4, text(1, 3), text(2, 4))
	sameMemory(t, m, words{2003, 2010, 6, 1003})
	tried(t, 2, 3, 3, words{1003, 0, 0}, m)
	m = written(t, 0, 4, text(1, 3), nil)
	sameMemory(t, m, nil)
	tried(t, 0, 3, 0, words{0, 0, 0}, m)
	tried(t, 255, 3, 0, words{0, 0, 0}, text(1, 255))
}

// Versions as great as can be.
func TestGreatVersions(t *testing.T) {
	for _, x := range []struct {
		ver, writes int
	}{
		{1<<32 - 2, 1 << 31}, {1 << 62, 1<<61 + 1}, {high - 3, 1<<62 - 1}, {high - 1, 1 << 62},
	} {
		m := written(t, 1, x.ver, text(3, 2), words{9, 8, 7, 6, 5})
		sameMemory(t, m, words{9, uint64(x.ver) + 2, 3003, 3010, 5})
		tried(t, 1, 4, x.writes, text(3, 2), m)
	}
	tried(t, 0, 1, high, words{4}, words{last - 1, 4})
}

// A version that is odd tells that somebody writes, whatever it is.
func TestSomebodyWrites(t *testing.T) {
	for _, odd := range (words{1, 3, 255, 1<<32 + 1, 1<<63 - 1, 1<<63 + 1, last - 2, last}) {
		for k := 1; k <= 6; k++ {
			for _, n := range []int{1, 3, 28} {
				m := text(4, 40)
				m[5] = odd
				invain(t, 5, n, k, m)
			}
		}
	}
}

// Of a write that is halted anywhere, a try reads what was there ahead, nothing, or what is there behind.
func TestHalted(t *testing.T) {
	for n := 1; n <= 28; n++ {
		for halt := 0; halt <= n+2; halt++ {
			m := slices.Concat(words{9, 4}, text(1, n), words{9})
			_, m, _ = task.Steps(task.Start(seq.Write(1, 4, text(2, n))), m, halt)
			switch halt {
			case 0:
				tried(t, 1, 3, 2, text(1, n), m)
			case n + 2:
				tried(t, 1, 3, 3, text(2, n), m)
			default:
				invain(t, 1, n, 3, m)
			}
		}
	}
}

// P15.4

const (
	most   = 40   // that one alone writes, or tries
	memory = 80   // words
	void   = 1e12 // what lies beside boards, and more
)

// writer is who writes: how often it has written, and may, how many accesses of the next write it has done, and its task.
type writer struct {
	written, most, did, pc int
	r                      [32]uint64
}

// reader is who tries: how often it has, and may, by how many looks; while it does, in which look it is, how many accesses of that it has done, the version as it began that and as it began at all, and its task.
type reader struct {
	tried, most, looks int
	busy               bool
	look, did          int
	seen, early        int
	pc                 int
	r                  [32]uint64
}

// line is a board with who writes and two who read; and how many tries were whole by each look, and, at the end, how many were in vain.
type line struct {
	b, n, from int
	w          writer
	r          [2]reader
	whole      [7]int
}

// world is two boards in one memory. It has no list in it, so that one can be held against another.
type world struct {
	mem   [memory]uint64
	lines [2]line
}

// of is a board at b of n words, with a version to begin with, so many writes, and who tries so often by so many looks each.
func of(b, n, from, writes, first, second, looks int) line {
	return line{b: b, n: n, from: from, w: writer{most: writes}, r: [2]reader{{most: first, looks: looks}, {most: second, looks: looks}}}
}

// what is the words that are written at a time, and those that lay there ahead of the first one.
func what(b, n, time int) words { return text(500*b+time, n) }

// version is what word b has, less what it had to begin with.
func (x *line) version() int {
	if x.w.did > 0 {
		return 2*x.w.written + 1
	}
	return 2 * x.w.written
}

// lies is the word i of the board.
func (x *line) lies(i int) uint64 {
	if i == 0 {
		return uint64(x.from) + uint64(x.version())
	}
	if i < x.w.did {
		return what(x.b, x.n, x.w.written+1)[i-1]
	}
	return what(x.b, x.n, x.w.written)[i-1]
}

// lie is the memory as it is to be.
func (w *world) lie() (m [memory]uint64) {
	for i := range m {
		m[i] = void + uint64(i)
	}
	for n := range w.lines {
		x := &w.lines[n]
		if x.n == 0 {
			continue
		}
		for i := range x.n + 1 {
			m[x.b+i] = x.lies(i)
		}
	}
	return m
}

// begin is a world of boards.
func begin(lines ...line) (w world) {
	copy(w.lines[:], lines)
	w.mem = w.lie()
	return w
}

// can tells whether a hand has something to do: of each board first who writes, then who read.
func (w *world) can(hand int) bool {
	x := &w.lines[hand/3]
	if hand%3 == 0 {
		return x.w.written < x.w.most
	}
	r := &x.r[hand%3-1]
	return r.busy || r.tried < r.most
}

// access does a step of a task in the memory.
func (w *world) access(u api.Task) api.Task {
	u, m := task.Step(u, w.mem[:])
	copy(w.mem[:], m)
	return u
}

// write is one access of who writes. It is done when it has done as many as there are words, and 2.
func (w *world) write(t *testing.T, x *line) {
	t.Helper()
	h := &x.w
	u := task.Start(seq.Write(x.b, x.from+2*h.written, what(x.b, x.n, h.written+1)))
	if h.did > 0 {
		u.Pc, u.R = h.pc, h.r
	}
	u = w.access(u)
	h.did, h.pc, h.r = h.did+1, u.Pc, u.R
	if u.Done != (h.did == x.n+2) || u.Done && u.Ans != 1 {
		t.Fatalf("behind %d accesses of a write: %v, %d", h.did, u.Done, u.Ans)
	}
	if u.Done {
		*h = writer{written: h.written + 1, most: h.most}
	}
}

// looked does what is known of one access of a look, and tells whether the try is done, and whether it is whole.
func (x *line) looked(r *reader) (done, whole bool) {
	now := x.version()
	if r.did++; r.did == 1 {
		r.seen = now
	}
	switch {
	case r.did == x.n+2 && r.seen == now:
		return true, true
	case r.did == x.n+2, r.did == 1 && now%2 == 1:
		r.look, r.did, r.seen = r.look+1, 0, 0
	}
	return r.look == r.looks, false
}

// read is one access of who tries.
func (w *world) read(t *testing.T, x *line, r *reader) {
	t.Helper()
	u := task.Start(seq.Try(x.b, x.n, r.looks))
	if r.busy {
		u.Pc, u.R = r.pc, r.r
	} else {
		r.busy, r.early = true, x.version()
	}
	u = w.access(u)
	r.pc, r.r = u.Pc, u.R
	done, whole := x.looked(r)
	if u.Done != done {
		t.Fatalf("in look %d, behind %d accesses of it: %v", r.look, r.did, u.Done)
	}
	if !done && u.Pc/(x.n+4) != r.look {
		t.Fatalf("the task is at %d, in look %d", u.Pc, r.look)
	}
	if done {
		x.ended(t, r, u, whole)
		*r = reader{tried: r.tried + 1, most: r.most, looks: r.looks}
	}
}

// ended holds what a try has read against what was written.
func (x *line) ended(t *testing.T, r *reader, u api.Task, whole bool) {
	t.Helper()
	now := x.version()
	if r.early == now && now%2 == 0 && (!whole || r.look > 0) {
		t.Fatalf("nobody wrote, and a try was not whole by its first look: %v, %d", whole, r.look)
	}
	ver, got, ok := seq.Taken(u, x.n)
	if ok != whole || u.Ans == 1 != whole || u.Ans == 0 == whole {
		t.Fatalf("a try answers %d, where it is whole: %v", u.Ans, whole)
	}
	if !whole {
		x.whole[6]++
		return
	}
	x.whole[r.look]++
	time := ver - x.from/2
	if time < r.early/2 || time > now/2 || !slices.Equal(got, what(x.b, x.n, time)) {
		t.Fatalf("write %d was read, of %d to %d: %v", time, r.early/2, now/2, got)
	}
}

// step is one access of a hand, and what follows of it.
func (w *world) step(t *testing.T, hand int) {
	t.Helper()
	x := &w.lines[hand/3]
	if hand%3 == 0 {
		w.write(t, x)
	} else {
		w.read(t, x, &x.r[hand%3-1])
	}
	if w.mem != w.lie() {
		t.Fatalf("hand %d left %v, not %v", hand, w.mem, w.lie())
	}
}

// steps is so many of them of one hand.
func (w *world) steps(t *testing.T, hand, count int) {
	t.Helper()
	for range count {
		if !w.can(hand) {
			t.Fatalf("hand %d has nothing to do", hand)
		}
		w.step(t, hand)
	}
}

// everyOrder goes through all turns of the hands, one access each; of a world at which it came once it knows what follows. It tells how many there were.
func everyOrder(t *testing.T, first world) int {
	t.Helper()
	seen := map[world]bool{first: true}
	for open := []world{first}; len(open) > 0; {
		w := open[len(open)-1]
		open = open[:len(open)-1]
		for hand := range 6 {
			if !w.can(hand) {
				continue
			}
			next := w
			next.step(t, hand)
			if !seen[next] {
				seen[next] = true
				open = append(open, next)
			}
		}
	}
	return len(seen)
}

func TestEveryOrder(t *testing.T) {
	for _, x := range []line{
		of(0, 1, 0, 1, 1, 0, 1),
		of(0, 1, 0, 3, 1, 0, 3),
		of(0, 1, 0, 6, 1, 0, 6),
		of(3, 2, 0, 3, 2, 0, 2),
		of(0, 2, 46, 2, 1, 1, 1),
		of(7, 3, 8, 3, 1, 0, 4),
		of(40, 5, 0, 3, 1, 0, 2),
		of(9, 2, high-5, 3, 1, 0, 3),
	} {
		if n := everyOrder(t, begin(x)); n < 4*(x.n+2)*x.w.most {
			t.Errorf("a board of %d words: %d worlds alone", x.n, n)
		}
	}
}

// Two boards, one beside the other, or with words between.
func TestEveryOrderOfTwo(t *testing.T) {
	everyOrder(t, begin(of(0, 1, 0, 1, 1, 0, 1), of(2, 1, 0, 1, 1, 0, 1)))
	everyOrder(t, begin(of(30, 2, 0, 1, 1, 0, 1), of(10, 1, 4, 1, 1, 0, 1)))
}

// inDrawnOrder goes through turns that are thrown, where each hand is favoured for a while.
func inDrawnOrder(t *testing.T, d *rand.Rand, w world) world {
	t.Helper()
	favoured, left := 0, 0
	for slices.ContainsFunc([]int{0, 1, 2, 3, 4, 5}, w.can) {
		if left == 0 {
			favoured, left = d.IntN(6), 1+d.IntN(1<<d.IntN(7))
		}
		left--
		hand := favoured
		if d.IntN(9) == 0 {
			hand = d.IntN(6)
		}
		if w.can(hand) {
			w.step(t, hand)
		}
	}
	return w
}

func TestDrawnOrders(t *testing.T) {
	var whole [7]int
	for n := 1; n <= 28; n++ {
		for seed := range 12 {
			d := seeded(100*n + seed)
			x := of(d.IntN(memory-n), n, 2*d.IntN(20), d.IntN(most), d.IntN(most), d.IntN(most), 1+seed%6)
			w := inDrawnOrder(t, d, begin(x))
			for look, count := range w.lines[0].whole {
				whole[look] += count
			}
		}
	}
	if least := slices.Min(whole[:]); least < 5 {
		t.Errorf("tries that were whole, by their looks, or in vain: %v alone", whole)
	}
}

// Where a write is done in the middle of each of so many looks, the next one is whole, or the try is in vain, if that was the last look.
func TestLateLooks(t *testing.T) {
	for n := 1; n <= 28; n++ {
		for k := 1; k <= 6; k++ {
			for disturbed := range k + 1 {
				w := begin(of(n, n, 2*k, disturbed, 1, 0, k))
				d := seeded(1000*n + 10*k + disturbed)
				for range disturbed {
					ahead := 1 + d.IntN(n+1)
					w.steps(t, 1, ahead)
					w.steps(t, 0, n+2)
					w.steps(t, 1, n+2-ahead)
				}
				if disturbed < k {
					w.steps(t, 1, n+2)
				}
				want := [7]int{}
				want[disturbed] = 1
				if disturbed == k {
					want = [7]int{6: 1}
				}
				if w.lines[0].whole != want {
					t.Fatalf("%d of %d looks at %d words were disturbed: %v", disturbed, k, n, w.lines[0].whole)
				}
			}
		}
	}
}

// Two boards in one memory do not touch one another.
func TestDrawnOrdersOfTwo(t *testing.T) {
	for seed := range 100 {
		d := seeded(5000 + seed)
		a, b := 1+d.IntN(28), 1+d.IntN(28)
		at := d.IntN(5)
		behind := at + a + 1 + d.IntN(3)
		inDrawnOrder(t, d, begin(of(at, a, 2*d.IntN(9), 12, 9, 9, 1+d.IntN(6)), of(behind, b, 2*d.IntN(9), 12, 9, 9, 1+d.IntN(6))))
	}
}

// As task.Run has them, which picks who does the next access: all the turns of a write and a try.
func TestRun(t *testing.T) {
	told := map[int]int{}
	for turns := range 1 << 10 {
		picks := []int{}
		for i := range 10 {
			picks = append(picks, turns>>i&1)
		}
		picks = append(picks, 0, 0, 0, 0, 1, 1, 1, 1, 1, 1, 1, 1)
		l, m := task.Run([]api.Task{task.Start(seq.Write(0, 2, text(2, 2))), task.Start(seq.Try(0, 2, 2))}, slices.Concat(words{2}, text(1, 2)), picks)
		if !l[0].Done || l[0].Ans != 1 || !l[1].Done {
			t.Fatalf("turns %v: %v, %v", picks, l[0].Done, l[1].Done)
		}
		sameMemory(t, m, slices.Concat(words{4}, text(2, 2)))
		ver, w, ok := seq.Taken(l[1], 2)
		if told[ver]++; ok && !slices.Equal(w, text(ver, 2)) || ok && ver != 1 && ver != 2 {
			t.Fatalf("turns %v: %d, %v", picks, ver, w)
		}
	}
	if len(told) != 3 {
		t.Errorf("what was told, and how often: %v", told)
	}
}

// P1, R1 to R5

// Each call answers nil, as no words and no task.
func TestNil(t *testing.T) {
	sameWrite(t, 0, 0, nil, nil)
	sameWrite(t, -1, -1, nil, nil)
	for _, n := range []int{-1, 0, 1, 28, 29} {
		sameTaken(t, api.Task{}, n, 0, nil)
		sameTaken(t, api.Task{Done: true}, n, 0, nil)
		sameTaken(t, api.Task{Ans: 1}, n, 0, nil)
	}
}

// What was handed in is not changed, nor what lies ahead of it and behind it in its memory.
func TestNothingIsChanged(t *testing.T) {
	for n := range 31 {
		around := text(6, 60)
		seq.Write(4, 2, around[15:15+n])
		if !slices.Equal(around, text(6, 60)) {
			t.Fatalf("a write of %d words changed them to %v", n, around)
		}
	}
	for _, answer := range []int{0, 1} {
		u := api.Task{Code: seq.Try(3, 2, 1), Pc: 9, R: filled(), Done: true, Ans: answer}
		was := u
		was.Code = slices.Clone(u.Code)
		seq.Taken(u, 28)
		if !slices.Equal(u.Code, was.Code) || u.R != was.R || u.Pc != was.Pc || u.Done != was.Done || u.Ans != was.Ans {
			t.Fatalf("Taken changed %+v to %+v", was, u)
		}
	}
}

// What is answered is no part of what was handed in, nor of what was answered before: each is changed without the others.
func TestAnswerIsNew(t *testing.T) {
	for n := 1; n <= 28; n++ {
		w := text(3, n)
		l, again := seq.Write(4, 2, w), seq.Write(4, 2, w)
		clear(w)
		sameProgram(t, "Write", nil, l, wantedWrite(4, 2, text(3, n)))
		clear(l[:cap(l)])
		sameProgram(t, "Write", nil, again, wantedWrite(4, 2, text(3, n)))
		sameWrite(t, 4, 2, text(3, n), wantedWrite(4, 2, text(3, n)))

		l, again = seq.Try(4, n, 3), seq.Try(4, n, 3)
		clear(l[:cap(l)])
		sameProgram(t, "Try", nil, again, wantedTry(4, n, 3))
		sameTry(t, 4, n, 3, wantedTry(4, n, 3))

		u := api.Task{R: filled(), Done: true, Ans: 1}
		_, got, _ := seq.Taken(u, n)
		_, other, _ := seq.Taken(u, n)
		clear(got[:cap(got)])
		if u.R != filled() || !slices.Equal(other, read(n)) {
			t.Errorf("%v, %v", u.R, other)
		}
		sameTaken(t, u, n, 1<<62+4, other)
	}
}

// A call that is made again answers the same, whatever was called in between: nothing is kept.
func TestNothingIsKept(t *testing.T) {
	write, try := seq.Write(20, 6, text(5, 4)), seq.Try(20, 4, 3)
	d := seeded(77)
	for range 300 {
		b, n, x := d.IntN(260)-2, d.IntN(31), d.IntN(9)-1
		sameWrite(t, b, x, text(x, n), wantedWrite(b, x, text(x, n)))
		sameTry(t, b, n, x, wantedTry(b, n, x))
		seq.Taken(api.Task{R: filled(), Done: d.IntN(2) == 0, Ans: d.IntN(2)}, n)
		sameProgram(t, "Write", []int{20, 6, 4}, write, wantedWrite(20, 6, text(5, 4)))
		sameProgram(t, "Try", []int{20, 4, 3}, try, wantedTry(20, 4, 3))
		sameWrite(t, 20, 6, text(5, 4), write)
		sameTry(t, 20, 4, 3, try)
	}
}

// Every call ends, and none panics: of numbers of any kind in each place.
func TestAlways(t *testing.T) {
	all := slices.Concat(starts(), versions(), sizes(), looks())
	slices.Sort(all)
	all = slices.Compact(all)
	for _, a := range all {
		for _, b := range all {
			for _, w := range []words{nil, {}, text(1, 1), text(1, 28), text(1, 29), text(1, 300)} {
				sameWrite(t, a, b, w, wantedWrite(a, b, w))
			}
			for _, c := range all {
				sameTry(t, a, b, c, wantedTry(a, b, c))
			}
			seq.Taken(api.Task{Pc: a, Done: true, Ans: b, R: filled()}, a)
			seq.Taken(api.Task{Pc: a, Done: true, Ans: 1, R: filled()}, b)
		}
	}
}
