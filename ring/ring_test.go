package ring_test

import (
	"math"
	"math/big"
	"math/rand/v2"
	"slices"
	"testing"

	"outrigger/api"
	"outrigger/cell"
	"outrigger/ring"
	"outrigger/task"
)

const (
	low  = math.MinInt
	high = math.MaxInt
	last = math.MaxUint64
)

type (
	words   = []uint64
	program = []api.Ins
)

// six is six words, all of them others for each n.
func six(n int) words {
	w := make(words, 6)
	for k := range w {
		w[k] = uint64(n)*1000 + uint64(k)*7 + 3
	}
	return w
}

// counted is so many words, each 1 more than the one ahead.
func counted(count int) words {
	l := make(words, count)
	for i := range l {
		l[i] = uint64(i + 1)
	}
	return l
}

// starts is numbers for b, those at which there is a ring and others.
func starts() []int {
	return []int{low, low + 1, -1 << 32, 4 - 1<<32, -256, -2, -1, 0, 1, 2, 4, 100, 204, 205, 246, 247, 254, 255, 256, 257, 512, 1 << 16, 1 << 32, 1<<32 + 4, high - 1, high}
}

// counts is numbers for c, those of which there is a ring and others.
func counts() []int {
	return []int{low, low + 1, -1 << 32, 2 - 1<<32, -8, -2, -1, 0, 1, 2, 3, 4, 5, 6, 7, 8, 9, 10, 16, 256, 257, 1 << 32, 1<<32 + 2, high - 1, high}
}

// numbers is numbers for tail and head, for a ring of c places.
func numbers(c int) []int {
	return []int{low, low + 1, -1 << 32, 5 - 1<<32, -c, -2, -1, 0, 1, 2, c - 2, c - 1, c, c + 1, 2*c - 1, 2 * c, 2*c + 1, 5*c + 3, 47, 256, 1<<31 - 1, 1 << 31, 1<<32 - 1, 1 << 32, 1<<32 + 5, 1 << 62, high - 8, high - 1, high}
}

// there: is there a ring of c places at b, and is n the number of something laid?
func there(b, c, n int) bool {
	return 0 <= b && b < 256 && 0 < c && c < 9 && n > -1
}

// word is a whole number of any size as a word.
func word(n *big.Int) uint64 {
	around := new(big.Int).Lsh(big.NewInt(1), 64)
	return new(big.Int).Mod(n, around).Uint64()
}

// sum is two numbers together as a word.
func sum(a, b int) uint64 { return word(new(big.Int).Add(big.NewInt(int64(a)), big.NewInt(int64(b)))) }

// seat is the first word of the place in which the number n lies: the places are counted one by one, from one that was begun anew.
func seat(b, c, n int) int {
	round := n / c
	at := b + 3
	for range n - round*c {
		at += 6
	}
	return at
}

// wantedPush tells the document's words once more.
func wantedPush(b, c, tail int, w words) program {
	if !there(b, c, tail) || len(w) != 6 {
		return nil
	}
	s := seat(b, c, tail)
	return program{
		{K: 0, I: b, R: 0, To: 1, A: 0},
		{K: 3, I: 0, R: 0, To: 10, A: sum(tail, -c)},
		{K: 1, I: s, R: 0, To: 3, A: w[0]},
		{K: 1, I: s + 1, R: 0, To: 4, A: w[1]},
		{K: 1, I: s + 2, R: 0, To: 5, A: w[2]},
		{K: 1, I: s + 3, R: 0, To: 6, A: w[3]},
		{K: 1, I: s + 4, R: 0, To: 7, A: w[4]},
		{K: 1, I: s + 5, R: 0, To: 8, A: w[5]},
		{K: 1, I: b + 1, R: 0, To: 9, A: sum(tail, 1)},
		{K: 6, I: 0, R: 0, To: 10, A: 1},
		{K: 2, I: b + 2, R: 0, To: 11, A: 1},
		{K: 6, I: 0, R: 0, To: 12, A: 0},
	}
}

// wantedPop tells the document's words once more.
func wantedPop(b, c, head int) program {
	if !there(b, c, head) {
		return nil
	}
	s := seat(b, c, head)
	return program{
		{K: 0, I: b + 1, R: 0, To: 1, A: 0},
		{K: 3, I: 0, R: 0, To: 10, A: sum(head, 0)},
		{K: 0, I: s, R: 1, To: 3, A: 0},
		{K: 0, I: s + 1, R: 2, To: 4, A: 0},
		{K: 0, I: s + 2, R: 3, To: 5, A: 0},
		{K: 0, I: s + 3, R: 4, To: 6, A: 0},
		{K: 0, I: s + 4, R: 5, To: 7, A: 0},
		{K: 0, I: s + 5, R: 6, To: 8, A: 0},
		{K: 1, I: b, R: 0, To: 9, A: sum(head, 1)},
		{K: 6, I: 0, R: 0, To: 10, A: 1},
		{K: 6, I: 0, R: 0, To: 11, A: 0},
	}
}

// sameProgram holds a program against another one, instruction by instruction.
func sameProgram(t *testing.T, name string, of []int, l, want program) {
	t.Helper()
	if len(l) != len(want) {
		t.Fatalf("%s%v: %d instructions, not %d", name, of, len(l), len(want))
	}
	for own, x := range want {
		if l[own] != x {
			t.Fatalf("%s%v: instruction %d is %+v, not %+v", name, of, own, l[own], x)
		}
	}
}

// samePush holds a push against what is wanted, and asks whether it changed its words.
func samePush(t *testing.T, b, c, tail int, w words, want program) {
	t.Helper()
	was := slices.Clone(w)
	sameProgram(t, "Push", []int{b, c, tail, len(w)}, ring.Push(b, c, tail, w), want)
	if !slices.Equal(w, was) {
		t.Fatalf("Push(%d, %d, %d) changed %v to %v", b, c, tail, was, w)
	}
}

// samePop holds a pop against what is wanted.
func samePop(t *testing.T, b, c, head int, want program) {
	t.Helper()
	sameProgram(t, "Pop", []int{b, c, head}, ring.Pop(b, c, head), want)
}

// seeded is thrown numbers, the same ones for each seed.
func seeded(seed int) *rand.Rand { return rand.New(rand.NewPCG(uint64(seed), 14)) }

// P14.1

func TestSize(t *testing.T) {
	for _, x := range [][2]int{
		{low, 0}, {low + 1, 0}, {-1 << 32, 0}, {1 - 1<<32, 0}, {-8, 0}, {-2, 0}, {-1, 0}, {0, 0},
		{1, 9}, {2, 15}, {3, 21}, {4, 27}, {5, 33}, {6, 39}, {7, 45}, {8, 51},
		{9, 0}, {10, 0}, {16, 0}, {256, 0}, {257, 0}, {1 << 32, 0}, {1<<32 + 1, 0}, {high - 1, 0}, {high, 0},
	} {
		if n := ring.Size(x[0]); n != x[1] {
			t.Errorf("Size(%d) is %d, not %d", x[0], n, x[1])
		}
	}
}

// P14.2

func TestPushTold(t *testing.T) {
	samePush(t, 4, 2, 3, words{11, 22, 33, 44, 55, last}, program{
		{K: task.Load, I: 4, To: 1},
		{K: task.Same, A: 1, To: 10},
		{K: task.Put, I: 13, A: 11, To: 3},
		{K: task.Put, I: 14, A: 22, To: 4},
		{K: task.Put, I: 15, A: 33, To: 5},
		{K: task.Put, I: 16, A: 44, To: 6},
		{K: task.Put, I: 17, A: 55, To: 7},
		{K: task.Put, I: 18, A: last, To: 8},
		{K: task.Put, I: 5, A: 4, To: 9},
		{K: task.End, A: 1, To: 10},
		{K: task.More, I: 6, A: 1, To: 11},
		{K: task.End, To: 12},
	})
}

// Whether there is one is asked of each number by itself, and of all together.
func TestPush(t *testing.T) {
	for _, b := range starts() {
		for _, c := range counts() {
			for _, tail := range numbers(c) {
				samePush(t, b, c, tail, six(9), wantedPush(b, c, tail, six(9)))
			}
		}
	}
}

func TestPushOfNone(t *testing.T) {
	for _, x := range [][3]int{
		{-1, 1, 0}, {256, 1, 0}, {low, 1, 0}, {high, 1, 0},
		{0, 0, 0}, {0, -1, 0}, {0, 9, 0}, {0, low, 0}, {0, high, 0},
		{0, 1, -1}, {255, 8, -1}, {0, 1, low}, {-1, 9, -1},
	} {
		samePush(t, x[0], x[1], x[2], six(1), nil)
	}
}

func TestPushOfAllAt(t *testing.T) {
	for b := range 256 {
		for c := 1; c <= 8; c++ {
			samePush(t, b, c, b*3+c, six(b), wantedPush(b, c, b*3+c, six(b)))
		}
	}
}

// Each number of words but six is none, whatever lies behind them in their memory.
func TestPushOfWords(t *testing.T) {
	all := slices.Concat(six(1), six(2), six(3))
	samePush(t, 4, 2, 3, nil, nil)
	for count := range len(all) {
		samePush(t, 4, 2, 3, all[:count], wantedPush(4, 2, 3, all[:count]))
		if n := len(ring.Push(4, 2, 3, all[:count])); count == 6 && n != 12 || count != 6 && n != 0 {
			t.Errorf("a push of %d words has %d instructions", count, n)
		}
	}
	for _, w := range (words{0, 1, 2, 1 << 32, 1<<63 - 1, 1 << 63, last - 1, last}) {
		for k := range 6 {
			l := six(5)
			l[k] = w
			samePush(t, 200, 8, 7, l, wantedPush(200, 8, 7, l))
		}
	}
}

// What is known to be laid, less all places, as a word; one more, as a word.
func TestPushAsWords(t *testing.T) {
	for _, x := range []struct {
		c, tail    int
		full, more uint64
		at         int
	}{
		{1, 0, last, 1, 23},
		{1, 1, 0, 2, 23},
		{1, 2, 1, 3, 23},
		{2, 0, last - 1, 1, 23},
		{2, 1, last, 2, 29},
		{2, 2, 0, 3, 23},
		{2, 3, 1, 4, 29},
		{8, 0, 18446744073709551608, 1, 23},
		{8, 7, last, 8, 65},
		{8, 8, 0, 9, 23},
		{8, 9, 1, 10, 29},
		{8, high, 9223372036854775799, 9223372036854775808, 65},
		{7, high, 9223372036854775800, 9223372036854775808, 23},
		{5, high, 9223372036854775802, 9223372036854775808, 35},
		{3, high - 1, 9223372036854775803, 9223372036854775807, 23},
		{1, high, 9223372036854775806, 9223372036854775808, 23},
	} {
		l := ring.Push(20, x.c, x.tail, six(0))
		if len(l) != 12 || l[1].A != x.full || l[8].A != x.more || l[2].I != x.at || l[7].I != x.at+5 {
			t.Errorf("Push(20, %d, %d): %+v", x.c, x.tail, l)
		}
	}
}

// P14.3

func TestPopTold(t *testing.T) {
	samePop(t, 4, 2, 3, program{
		{K: task.Load, I: 5, To: 1},
		{K: task.Same, A: 3, To: 10},
		{K: task.Load, I: 13, R: 1, To: 3},
		{K: task.Load, I: 14, R: 2, To: 4},
		{K: task.Load, I: 15, R: 3, To: 5},
		{K: task.Load, I: 16, R: 4, To: 6},
		{K: task.Load, I: 17, R: 5, To: 7},
		{K: task.Load, I: 18, R: 6, To: 8},
		{K: task.Put, I: 4, A: 4, To: 9},
		{K: task.End, A: 1, To: 10},
		{K: task.End, To: 11},
	})
}

func TestPop(t *testing.T) {
	for _, b := range starts() {
		for _, c := range counts() {
			for _, head := range numbers(c) {
				samePop(t, b, c, head, wantedPop(b, c, head))
			}
		}
	}
}

func TestPopOfNone(t *testing.T) {
	for _, x := range [][3]int{
		{-1, 1, 0}, {256, 1, 0}, {low, 1, 0}, {high, 1, 0},
		{0, 0, 0}, {0, -1, 0}, {0, 9, 0}, {0, low, 0}, {0, high, 0},
		{0, 1, -1}, {255, 8, -1}, {0, 1, low}, {-1, 9, -1},
	} {
		samePop(t, x[0], x[1], x[2], nil)
	}
}

func TestPopOfAllAt(t *testing.T) {
	for b := range 256 {
		for c := 1; c <= 8; c++ {
			samePop(t, b, c, b*3+c, wantedPop(b, c, b*3+c))
		}
	}
}

// What is known to be taken as a word; one more, as a word.
func TestPopAsWords(t *testing.T) {
	for _, x := range []struct {
		c, head    int
		none, more uint64
		at         int
	}{
		{1, 0, 0, 1, 23},
		{1, 5, 5, 6, 23},
		{2, 1, 1, 2, 29},
		{8, 7, 7, 8, 65},
		{8, 8, 8, 9, 23},
		{8, 9, 9, 10, 29},
		{8, high, 9223372036854775807, 9223372036854775808, 65},
		{7, high, 9223372036854775807, 9223372036854775808, 23},
		{5, high, 9223372036854775807, 9223372036854775808, 35},
		{3, high - 1, 9223372036854775806, 9223372036854775807, 23},
		{1, high, 9223372036854775807, 9223372036854775808, 23},
	} {
		l := ring.Pop(20, x.c, x.head)
		if len(l) != 11 || l[1].A != x.none || l[8].A != x.more || l[2].I != x.at || l[7].I != x.at+5 {
			t.Errorf("Pop(20, %d, %d): %+v", x.c, x.head, l)
		}
	}
}

// filled is 32 registers, each another word, some of them from 2^63 on.
func filled() [32]uint64 {
	var r [32]uint64
	for i := range r {
		r[i] = uint64(100 + i)
	}
	r[0], r[1], r[3], r[5], r[7] = last-9, 1<<63-1, 1<<63, last, 1<<63+7
	return r
}

// sameTaken holds what a task has taken against what is wanted, nothing if that is nil.
func sameTaken(t *testing.T, u api.Task, want words) {
	t.Helper()
	w, ok := ring.Taken(u)
	if ok != (want != nil) || !slices.Equal(w, want) {
		t.Errorf("Taken(%+v) is %v, %v, not %v", u, w, ok, want)
	}
}

func TestTaken(t *testing.T) {
	got := words{1<<63 - 1, 102, 1 << 63, 104, last, 106}
	sameTaken(t, api.Task{R: filled(), Done: true, Ans: 1}, got)
	sameTaken(t, api.Task{R: filled(), Ans: 1}, nil)
	sameTaken(t, api.Task{R: filled()}, nil)
	for _, answer := range []int{low, low + 1, -1 << 32, 1 - 1<<32, -255, -2, -1, 0, 2, 3, 6, 255, 256, 257, 1 << 32, 1<<32 + 1, high - 1, high} {
		sameTaken(t, api.Task{R: filled(), Done: true, Ans: answer}, nil)
		sameTaken(t, api.Task{R: filled(), Ans: answer}, nil)
	}
	sameTaken(t, api.Task{Done: true, Ans: 1}, words{0, 0, 0, 0, 0, 0})
	sameTaken(t, api.Task{}, nil)
}

// What else a task has does not matter, whatever it is.
func TestTakenOfTheRest(t *testing.T) {
	got := words{1<<63 - 1, 102, 1 << 63, 104, last, 106}
	for _, l := range []program{nil, {}, {{}}, {{K: 9, To: -1}}, ring.Pop(0, 1, 0), ring.Push(0, 1, 0, six(1))} {
		for _, pc := range []int{low, -1, 0, 1, 9, 10, 11, 200, high} {
			sameTaken(t, api.Task{Code: l, Pc: pc, R: filled(), Done: true, Ans: 1}, got)
			sameTaken(t, api.Task{Code: l, Pc: pc, R: filled(), Done: true}, nil)
			sameTaken(t, api.Task{Code: l, Pc: pc, R: filled(), Ans: 1}, nil)
		}
	}
}

// Of a pop on its way nothing is taken, until it is done.
func TestTakenOnTheWay(t *testing.T) {
	m := slices.Concat(words{6, 7, 0}, six(4))
	u := task.Start(ring.Pop(0, 1, 6))
	for range 8 {
		sameTaken(t, u, nil)
		u, m = task.Step(u, m)
	}
	sameTaken(t, u, six(4))
}

// The programs

// begun asks whether a program can be started, and has its first access to do.
func begun(t *testing.T, l program) {
	t.Helper()
	u := task.Start(l)
	if !task.Sane(l) || u.Done || u.Pc != 0 || u.Ans != 0 || u.R != [32]uint64{} || !slices.Equal(u.Code, l) {
		t.Fatalf("%+v is started as %+v", l, u)
	}
}

func TestProgramsAreSane(t *testing.T) {
	for _, b := range starts() {
		for _, c := range counts() {
			for _, n := range numbers(c) {
				if there(b, c, n) {
					begun(t, ring.Push(b, c, n, six(3)))
					begun(t, ring.Pop(b, c, n))
				}
			}
		}
	}
}

// What is no push and no pop is no program: it is done, and nothing is taken.
func TestNoProgram(t *testing.T) {
	for _, l := range []program{ring.Push(-1, 1, 0, six(1)), ring.Push(0, 1, 0, nil), ring.Pop(0, 9, 0), ring.Pop(0, 1, -1)} {
		u := task.Start(l)
		if !u.Done || u.Ans != -1 {
			t.Errorf("%+v is started as %+v", l, u)
		}
		sameTaken(t, u, nil)
	}
}

// laid does a push, all of it, and tells whether it found a place, the memory, and how many steps it took.
func laid(b, c, tail int, w, m words) (bool, words, int) {
	u, m, n := task.Steps(task.Start(ring.Push(b, c, tail, w)), m, 99)
	return u.Done && u.Ans == 1, m, n
}

// taken does a pop, all of it, and tells what it took, the memory, and how many steps it took.
func taken(b, c, head int, m words) (words, words, int) {
	u, m, n := task.Steps(task.Start(ring.Pop(b, c, head)), m, 99)
	w, _ := ring.Taken(u)
	return w, m, n
}

// sameMemory holds a memory against what is wanted.
func sameMemory(t *testing.T, m, want words) {
	t.Helper()
	if !slices.Equal(m, want) {
		t.Fatalf("the memory is %v, not %v", m, want)
	}
}

// The chapter's example.
func TestExample(t *testing.T) {
	m := cell.New(ring.Size(1))
	ok, m, n := laid(0, 1, 0, words{2, 3, 5, 7, 11, 13}, m)
	if !ok || n != 8 {
		t.Errorf("the first push: %v, in %d steps", ok, n)
	}
	sameMemory(t, m, words{0, 1, 0, 2, 3, 5, 7, 11, 13})
	ok, m, n = laid(0, 1, 1, six(2), m)
	if ok || n != 2 {
		t.Errorf("the second push: %v, in %d steps", ok, n)
	}
	sameMemory(t, m, words{0, 1, 1, 2, 3, 5, 7, 11, 13})
	w, m, n := taken(0, 1, 0, m)
	if !slices.Equal(w, words{2, 3, 5, 7, 11, 13}) || n != 8 {
		t.Errorf("the first pop: %v, in %d steps", w, n)
	}
	sameMemory(t, m, words{1, 1, 1, 2, 3, 5, 7, 11, 13})
	w, m, n = taken(0, 1, 1, m)
	if w != nil || n != 1 {
		t.Errorf("the second pop: %v, in %d steps", w, n)
	}
	sameMemory(t, m, words{1, 1, 1, 2, 3, 5, 7, 11, 13})
}

// As many pushes find a place as there are places; the next ones do not, until something is taken.
func TestFilledAndEmptied(t *testing.T) {
	for c := 1; c <= 8; c++ {
		m, want := cell.New(ring.Size(c)), cell.New(ring.Size(c))
		for tail := range c {
			ok, after, n := laid(0, c, tail, six(tail), m)
			copy(want[3+6*tail:], six(tail))
			want[1]++
			if m = after; !ok || n != 8 {
				t.Fatalf("push %d of %d places: %v, in %d steps", tail, c, ok, n)
			}
			sameMemory(t, m, want)
		}
		for more := range 3 {
			ok, after, n := laid(0, c, c, six(90+more), m)
			want[2]++
			if m = after; ok || n != 2 {
				t.Fatalf("push %d into a full ring of %d places: %v, in %d steps", more, c, ok, n)
			}
			sameMemory(t, m, want)
		}
		for head := range c {
			w, after, n := taken(0, c, head, m)
			want[0]++
			if m = after; !slices.Equal(w, six(head)) || n != 8 {
				t.Fatalf("pop %d of %d places: %v, in %d steps", head, c, w, n)
			}
			sameMemory(t, m, want)
		}
		w, after, n := taken(0, c, c, m)
		if w != nil || n != 1 {
			t.Fatalf("pop of an empty ring of %d places: %v, in %d steps", c, w, n)
		}
		sameMemory(t, after, want)
	}
}

// A ring goes round: the places are laid anew, one behind the other, while as many lie in it as can, or one.
func TestGoesRound(t *testing.T) {
	for c := 1; c <= 8; c++ {
		for lie := 1; lie <= c; lie++ {
			m := cell.New(ring.Size(c))
			for n := range 40 {
				ok, after, _ := laid(0, c, n, six(n), m)
				if m = after; !ok {
					t.Fatalf("push %d of %d places found none", n, c)
				}
				if at := 3 + n%c*6; !slices.Equal(m[at:at+6], six(n)) {
					t.Fatalf("push %d of %d places: %v", n, c, m)
				}
				if n >= lie-1 {
					w, after, _ := taken(0, c, n-lie+1, m)
					if m = after; !slices.Equal(w, six(n-lie+1)) {
						t.Fatalf("pop %d of %d places took %v", n-lie+1, c, w)
					}
				}
			}
			if m[0] != uint64(41-lie) || m[1] != 40 || m[2] != 0 {
				t.Errorf("%d places, %d lie: %v", c, lie, m[:3])
			}
		}
	}
}

// A ring at the ends of a memory

// At 0 it lies at the memory's first word, and at the last b at which all its words are there at the last one.
func TestAtTheEnds(t *testing.T) {
	for c := 1; c <= 8; c++ {
		for _, b := range []int{0, 256 - ring.Size(c)} {
			want := cell.New(256)
			ok, m, _ := laid(b, c, c-1, six(1), cell.New(256))
			want[b+1] = uint64(c)
			copy(want[b+3+6*(c-1):], six(1))
			if !ok {
				t.Errorf("a ring of %d places at %d is full", c, b)
			}
			sameMemory(t, m, want)
			ok, m, _ = laid(b, c, c, six(2), m)
			want[b+2] = 1
			if ok {
				t.Errorf("a ring of %d places at %d is not full", c, b)
			}
			sameMemory(t, m, want)
			w, m, _ := taken(b, c, c-1, m)
			want[b] = uint64(c)
			if !slices.Equal(w, six(1)) {
				t.Errorf("of a ring of %d places at %d %v was taken", c, b, w)
			}
			sameMemory(t, m, want)
		}
	}
}

// At 255 the word that tells how many were taken is the memory's last one: the others are not there, which tell 0 and keep nothing.
func TestAtTheLastWord(t *testing.T) {
	m := cell.New(256)
	m[255] = 7
	was := slices.Clone(m)
	ok, after, n := laid(255, 8, 0, six(1), m)
	if !ok || n != 8 {
		t.Errorf("a push that finds a place: %v, in %d steps", ok, n)
	}
	sameMemory(t, after, was)
	ok, after, n = laid(255, 8, 15, six(1), m)
	if ok || n != 2 {
		t.Errorf("a push that finds no place: %v, in %d steps", ok, n)
	}
	sameMemory(t, after, was)
	w, after, n := taken(255, 8, 0, m)
	if w != nil || n != 1 {
		t.Errorf("a pop where nothing was laid: %v, in %d steps", w, n)
	}
	sameMemory(t, after, was)
	w, after, n = taken(255, 8, 1, m)
	if !slices.Equal(w, make(words, 6)) || n != 8 {
		t.Errorf("a pop of words that are not there: %v, in %d steps", w, n)
	}
	was[255] = 2
	sameMemory(t, after, was)
}

// At 254 what was laid is told by the memory's last word.
func TestAtTheLastWords(t *testing.T) {
	m := cell.New(256)
	ok, m, _ := laid(254, 1, 0, six(1), m)
	if !ok || m[254] != 0 || m[255] != 1 {
		t.Error(ok, m[254:])
	}
	ok, m, _ = laid(254, 1, 1, six(1), m)
	if ok || m[254] != 0 || m[255] != 1 {
		t.Error(ok, m[254:])
	}
	w, m, _ := taken(254, 1, 0, m)
	if !slices.Equal(w, make(words, 6)) || m[254] != 1 || m[255] != 1 {
		t.Error(w, m[254:])
	}
}

// Numbers are held against each other as words: a push whose number is less than how many places there are is not full of what was taken below 0.
func TestAroundTheEnd(t *testing.T) {
	for c := 1; c <= 8; c++ {
		for tail := range c {
			m := cell.New(ring.Size(c))
			m[0] = last - uint64(c-tail) + 1
			if ok, _, n := laid(0, c, tail, six(1), m); ok || n != 2 {
				t.Errorf("Push(0, %d, %d) finds a place", c, tail)
			}
			m[0]++
			if ok, _, n := laid(0, c, tail, six(1), m); !ok || n != 8 {
				t.Errorf("Push(0, %d, %d) finds no place", c, tail)
			}
		}
		m := cell.New(ring.Size(c))
		m[0], m[1], m[2] = high, 1<<63, last
		if ok, m, _ := laid(0, c, high, six(1), m); !ok || m[1] != 1<<63 || m[2] != last {
			t.Error(ok, m)
		}
		if w, m, _ := taken(0, c, high, m); !slices.Equal(w, make(words, 6)) || m[0] != 1<<63 || m[1] != 1<<63 {
			t.Error(w, m)
		}
		m[0] = high - uint64(c)
		if ok, m, _ := laid(0, c, high, six(1), m); ok || m[1] != 1<<63 || m[2] != 0 {
			t.Error(ok, m)
		}
	}
}

// P14.4

// hand is who lays, or who takes: how much it knows to be done, how often it began and may begin, and, while it is at work, whether it will find what it needs, how many steps it did, and the task.
type hand struct {
	known, begun, most int
	busy, finds        bool
	steps, pc          int
	r                  [32]uint64
}

// most is how often who lays may begin, at most.
const most = 40

// line is a ring with its two hands: who lays first, from a number on; which of its beginnings laid what, and how many found no place.
type line struct {
	b, c, from int
	hands      [2]hand
	in         [most]int
	drops      int
}

// world is two rings in one memory. It has no list in it, so that one can be held against another.
type world struct {
	mem   [128]uint64
	lines [2]line
}

// begin is a world of rings, each with how often each of its hands may begin, in a memory that is full of other words.
func begin(lines ...line) world {
	var w world
	for i := range w.mem {
		w.mem[i] = 1e9 + uint64(i)
	}
	for n, x := range lines {
		x.hands[0].known, x.hands[1].known = x.from, x.from
		w.lines[n] = x
		clear(w.mem[x.b : x.b+ring.Size(x.c)])
		w.mem[x.b], w.mem[x.b+1] = uint64(x.from), uint64(x.from)
	}
	return w
}

// of is a line of a ring at b whose hands may begin so often.
func of(b, c, from, pushes, pops int) line {
	return line{b: b, c: c, from: from, hands: [2]hand{{most: pushes}, {most: pops}}}
}

// can tells whether a hand has something to do.
func (w *world) can(who int) bool {
	h := w.lines[who/2].hands[who%2]
	return h.busy || h.begun < h.most
}

// what is the words that a hand lays at a beginning.
func what(who, begun int) words { return six(100*who + begun) }

// task is that at which a hand is.
func (w *world) task(who int) api.Task {
	x := &w.lines[who/2]
	h := &x.hands[who%2]
	l := ring.Pop(x.b, x.c, h.known)
	if who%2 == 0 {
		l = ring.Push(x.b, x.c, h.known, what(who, h.begun))
	}
	if h.busy {
		return api.Task{Code: l, Pc: h.pc, R: h.r}
	}
	h.busy, h.steps = true, 0
	h.finds = h.known < x.hands[0].known
	if who%2 == 0 {
		h.finds = h.known-x.hands[1].known < x.c
	}
	return task.Start(l)
}

// step is one access of a hand, and what follows of it.
func (w *world) step(t *testing.T, who int) {
	t.Helper()
	u, m := task.Step(w.task(who), w.mem[:])
	copy(w.mem[:], m)
	x := &w.lines[who/2]
	h := &x.hands[who%2]
	h.pc, h.r = u.Pc, u.R
	h.steps++
	if u.Done {
		w.ended(t, who, u)
		*h = hand{known: h.known, begun: h.begun + 1, most: h.most}
	} else if h.steps >= 8 {
		t.Fatalf("hand %d is not done behind eight steps", who)
	}
	w.sound(t)
}

// ended holds what a push or a pop that is done answers against what it found.
func (w *world) ended(t *testing.T, who int, u api.Task) {
	t.Helper()
	x := &w.lines[who/2]
	h := &x.hands[who%2]
	got, ok := ring.Taken(u)
	if (u.Ans == 1) != h.finds || (u.Ans == 0) == h.finds || ok != h.finds {
		t.Fatalf("hand %d answers %d, where what it needs is there: %v", who, u.Ans, h.finds)
	}
	if steps := 2 - who%2; h.finds && h.steps != 8 || !h.finds && h.steps != steps {
		t.Fatalf("hand %d was done in %d steps", who, h.steps)
	}
	switch {
	case who%2 == 0 && h.finds:
		x.in[h.known-x.from] = h.begun
		h.known++
	case who%2 == 0:
		x.drops++
	case h.finds:
		if laid := what(who-1, x.in[h.known-x.from]); !slices.Equal(got, laid) {
			t.Fatalf("hand %d took %v, not %v", who, got, laid)
		}
		h.known++
	}
}

// sound asks whether the memory tells how many were laid, taken and dropped, and has all else as it was.
func (w *world) sound(t *testing.T) {
	t.Helper()
	inside := [len(w.mem)]bool{}
	for _, x := range w.lines {
		if x.c == 0 {
			continue
		}
		told := [3]uint64{w.mem[x.b], w.mem[x.b+1], w.mem[x.b+2]}
		if told != [3]uint64{uint64(x.hands[1].known), uint64(x.hands[0].known), uint64(x.drops)} {
			t.Fatalf("the ring tells %v, where %d were taken, %d laid, %d dropped", told, x.hands[1].known, x.hands[0].known, x.drops)
		}
		for i := range ring.Size(x.c) {
			inside[x.b+i] = true
		}
	}
	for i, in := range inside {
		if !in && w.mem[i] != 1e9+uint64(i) {
			t.Fatalf("word %d, which is no ring's, was changed", i)
		}
	}
}

// emptied takes what lies in the rings when all is done, and holds it against what was laid.
func (w world) emptied(t *testing.T) {
	t.Helper()
	for n, x := range w.lines {
		h := x.hands[1]
		if x.c == 0 {
			continue
		}
		if laid := x.hands[0].known - x.from; laid+x.drops != x.hands[0].begun {
			t.Fatalf("of %d pushes %d were laid, %d dropped", x.hands[0].begun, laid, x.drops)
		}
		m := w.mem[:]
		for ; h.known < x.hands[0].known; h.known++ {
			got, after, _ := taken(x.b, x.c, h.known, m)
			if m = after; !slices.Equal(got, what(2*n, x.in[h.known-x.from])) {
				t.Fatalf("at the end %v is taken as number %d", got, h.known)
			}
		}
		if got, _, _ := taken(x.b, x.c, h.known, m); got != nil {
			t.Fatalf("%v was taken, and not laid", got)
		}
	}
}

// everyOrder goes through all turns of the hands, one access each; of a world at which it came once it knows what follows. It tells how many there were.
func everyOrder(t *testing.T, first world) int {
	t.Helper()
	seen := map[world]bool{first: true}
	for open := []world{first}; len(open) > 0; {
		w := open[len(open)-1]
		open = open[:len(open)-1]
		stuck := true
		for who := range 4 {
			if !w.can(who) {
				continue
			}
			stuck = false
			next := w
			next.step(t, who)
			if !seen[next] {
				seen[next] = true
				open = append(open, next)
			}
		}
		if stuck {
			w.emptied(t)
		}
	}
	return len(seen)
}

func TestEveryOrder(t *testing.T) {
	for _, x := range []line{
		of(0, 1, 0, 1, 1),
		of(0, 1, 0, 3, 3),
		of(5, 1, 0, 4, 5),
		of(0, 2, 0, 4, 4),
		of(7, 2, 3, 5, 4),
		of(0, 3, 2, 5, 3),
		of(9, 2, high-5, 4, 4),
	} {
		if n := everyOrder(t, begin(x)); n < 20*x.hands[0].most*x.hands[1].most {
			t.Errorf("a ring of %d places: %d worlds alone", x.c, n)
		}
	}
}

// Two rings, one beside the other, or with words between.
func TestEveryOrderOfTwo(t *testing.T) {
	everyOrder(t, begin(of(0, 1, 0, 1, 1), of(9, 1, 0, 1, 1)))
	everyOrder(t, begin(of(30, 1, 0, 2, 1), of(10, 2, 0, 1, 1)))
}

// inDrawnOrder goes through turns that are thrown, where each hand is favoured for a while, so that rings run full and empty.
func inDrawnOrder(t *testing.T, d *rand.Rand, w world) world {
	t.Helper()
	favoured, left := 0, 0
	for w.can(0) || w.can(1) || w.can(2) || w.can(3) {
		if left == 0 {
			favoured, left = d.IntN(4), 1+d.IntN(90)
		}
		left--
		who := favoured
		if d.IntN(3) == 0 {
			who = d.IntN(4)
		}
		if w.can(who) {
			w.step(t, who)
		}
	}
	w.emptied(t)
	return w
}

func TestDrawnOrders(t *testing.T) {
	drops, taken := 0, 0
	for c := 1; c <= 8; c++ {
		for seed := range 60 {
			d := seeded(100*c + seed)
			w := inDrawnOrder(t, d, begin(of(d.IntN(70), c, d.IntN(20), most, most+10)))
			drops += w.lines[0].drops
			taken += w.lines[0].hands[1].known - w.lines[0].from
		}
	}
	if drops < 1000 || taken < 1000 {
		t.Errorf("%d were dropped and %d taken alone", drops, taken)
	}
}

// Two rings in one memory do not touch one another: each has at the end what it has alone, with the same turns of its own hands.
func TestDrawnOrdersOfTwo(t *testing.T) {
	for seed := range 300 {
		d := seeded(5000 + seed)
		a, b := 1+d.IntN(8), 1+d.IntN(8)
		at := d.IntN(5)
		two := begin(of(at, a, d.IntN(9), 20, 20), of(at+ring.Size(a)+d.IntN(3), b, d.IntN(9), 20, 20))
		inDrawnOrder(t, d, two)
		alone := [2]world{begin(two.lines[0]), begin(two.lines[1])}
		for range 2000 {
			who := d.IntN(4)
			if two.can(who) {
				two.step(t, who)
				alone[who/2].step(t, who%2)
			}
		}
		for n, x := range two.lines {
			own := x.b + ring.Size(x.c)
			if alone[n].lines[0].drops != x.drops || alone[n].lines[0].hands[0].known != x.hands[0].known {
				t.Fatalf("ring %d of seed %d is another one alone", n, seed)
			}
			// Whose words they are is in them, so the second ring's alone are not those of the two.
			if n == 0 && !slices.Equal(alone[n].mem[x.b:own], two.mem[x.b:own]) {
				t.Fatalf("ring %d of seed %d lies otherwise alone", n, seed)
			}
		}
	}
}

// As task.Run has them, which picks who does the next access.
func TestRun(t *testing.T) {
	for seed := range 200 {
		d := seeded(9000 + seed)
		m := cell.New(ring.Size(2))
		_, m, _ = laid(0, 2, 0, six(1), m)
		picks := make([]int, 60)
		for i := range picks {
			picks[i] = d.IntN(2)
		}
		picks = append(picks, 0, 1, 0, 1, 0, 1, 0, 1, 0, 1, 0, 1, 0, 1, 0, 1)
		l, m := task.Run([]api.Task{task.Start(ring.Push(0, 2, 1, six(2))), task.Start(ring.Pop(0, 2, 0))}, m, picks)
		w, ok := ring.Taken(l[1])
		if !ok || !slices.Equal(w, six(1)) || !l[0].Done || l[0].Ans != 1 {
			t.Fatalf("seed %d: %v, %v", seed, w, l[0].Ans)
		}
		sameMemory(t, m, slices.Concat(words{1, 2, 0}, six(1), six(2)))
	}
}

// P1, R1 to R5

// Each call answers nil, as no words and no task.
func TestNil(t *testing.T) {
	samePush(t, 0, 1, 0, nil, nil)
	samePush(t, -1, 0, -1, nil, nil)
	sameTaken(t, api.Task{}, nil)
	sameTaken(t, api.Task{Done: true}, nil)
	sameTaken(t, api.Task{Ans: 1}, nil)
	if u, m := task.Step(task.Start(ring.Pop(0, 1, 0)), nil); !u.Done || u.Ans != 0 || len(m) != 0 {
		t.Error(u, m)
	}
}

// What was handed in is not changed, nor what lies ahead of it and behind it in its memory.
func TestNothingIsChanged(t *testing.T) {
	for count := range 9 {
		around := counted(20)
		was := slices.Clone(around)
		ring.Push(4, 2, 3, around[5:5+count])
		if !slices.Equal(around, was) {
			t.Fatalf("a push of %d words changed %v to %v", count, was, around)
		}
	}
	for _, answer := range []int{0, 1} {
		u := api.Task{Code: ring.Pop(3, 2, 1), Pc: 9, R: filled(), Done: true, Ans: answer}
		was := u
		was.Code = slices.Clone(u.Code)
		ring.Taken(u)
		if !slices.Equal(u.Code, was.Code) || u.R != was.R || u.Pc != was.Pc || u.Done != was.Done || u.Ans != was.Ans {
			t.Fatalf("Taken changed %+v to %+v", was, u)
		}
	}
}

// What is answered is no part of what was handed in, nor of what was answered before: each is changed without the others.
func TestAnswerIsNew(t *testing.T) {
	w := six(3)
	l, again := ring.Push(4, 2, 3, w), ring.Push(4, 2, 3, w)
	clear(w)
	sameProgram(t, "Push", nil, l, wantedPush(4, 2, 3, six(3)))
	clear(l[:cap(l)])
	sameProgram(t, "Push", nil, again, wantedPush(4, 2, 3, six(3)))
	samePush(t, 4, 2, 3, six(3), wantedPush(4, 2, 3, six(3)))

	l, again = ring.Pop(4, 2, 3), ring.Pop(4, 2, 3)
	clear(l[:cap(l)])
	sameProgram(t, "Pop", nil, again, wantedPop(4, 2, 3))
	samePop(t, 4, 2, 3, wantedPop(4, 2, 3))

	u := api.Task{R: filled(), Done: true, Ans: 1}
	got, _ := ring.Taken(u)
	other, _ := ring.Taken(u)
	clear(got[:cap(got)])
	if u.R != filled() || !slices.Equal(other, words{1<<63 - 1, 102, 1 << 63, 104, last, 106}) {
		t.Errorf("%v, %v", u.R, other)
	}
	sameTaken(t, u, other)
}

// A call that is made again answers the same, whatever was called in between: nothing is kept.
func TestNothingIsKept(t *testing.T) {
	push, pop := ring.Push(20, 3, 5, six(5)), ring.Pop(20, 3, 5)
	d := seeded(77)
	for range 300 {
		b, c, n := d.IntN(260)-2, d.IntN(11)-1, d.IntN(30)-2
		samePush(t, b, c, n, six(n), wantedPush(b, c, n, six(n)))
		samePop(t, b, c, n, wantedPop(b, c, n))
		ring.Size(c)
		ring.Taken(api.Task{R: filled(), Done: d.IntN(2) == 0, Ans: d.IntN(2)})
		sameProgram(t, "Push", []int{20, 3, 5}, push, wantedPush(20, 3, 5, six(5)))
		samePush(t, 20, 3, 5, six(5), push)
		samePop(t, 20, 3, 5, pop)
	}
}

// Every call ends, and none panics: of numbers of any kind in each place.
func TestAlways(t *testing.T) {
	for _, b := range numbers(8) {
		ring.Size(b)
		for _, c := range numbers(8) {
			for _, n := range numbers(8) {
				for _, w := range []words{nil, {}, six(1)[:5], six(1), counted(7), counted(300)} {
					samePush(t, b, c, n, w, wantedPush(b, c, n, w))
				}
				samePop(t, b, c, n, wantedPop(b, c, n))
				ring.Taken(api.Task{Pc: b, Done: true, Ans: c, R: filled()})
			}
		}
	}
}
