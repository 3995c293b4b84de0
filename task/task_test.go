package task_test

import (
	"math"
	"slices"
	"testing"

	"outrigger/api"
	"outrigger/task"
)

const (
	low  = math.MinInt
	high = math.MaxInt
	last = math.MaxUint64
)

type (
	words   = []uint64
	program = []api.Ins
	tasks   = []api.Task
)

// line is a program of these instructions, where each that says nothing of To goes on at the next place.
func line(all ...api.Ins) program {
	for place := range all {
		if all[place].To == 0 {
			all[place].To = place + 1
		}
	}
	return all
}

// idle is a program of so many instructions that change nothing: each is More of a word by 0.
func idle(count int) program { return line(slices.Repeat(program{{K: task.More}}, count)...) }

// filled is 32 registers, each another word, odd and even ones.
func filled() [32]uint64 {
	var r [32]uint64
	for i := range r {
		r[i] = uint64(100+i) << (i % 3)
	}
	r[3], r[4], r[5], r[6] = last, 1<<63, 1<<63+1, 0
	return r
}

// numbers is ints of all kinds: some are 0 or another small number if they are cut to fewer bits.
func numbers() []int {
	return []int{low, low + 1, low + 7, -1 << 32, 3 - 1<<32, -1 << 16, -256, -33, -32, -31, -3, -2, -1, 0, 1, 2, 3, 4, 5, 6, 7, 31, 32, 33, 255, 256, 257, 1 << 16, 1 << 32, 1<<32 + 3, 1 << 62, high - 6, high - 1, high}
}

// bad is lists that are no program, each for one reason.
func bad() []program {
	return []program{
		nil,
		{},
		{{K: 7, To: 1}},
		{{K: -1, To: 1}},
		{{R: 32, To: 1}},
		{{R: -1, To: 1}},
		{{To: 0}},
		{{To: 2}},
		{{K: task.End, A: 5, To: 1}, {K: task.End, To: 1}},
		{{K: task.End, A: 5, To: 2}, {K: task.Load, R: 40, To: 2}},
		idle(201),
		idle(456),
	}
}

// sizes is how many words a memory has that is tested.
func sizes() []int { return []int{0, 1, 2, 7, 255, 256, 257, 300, 1000} }

// counting is so many words, the first one start, each 1 more.
func counting(count int, start uint64) words {
	all := make(words, count)
	for i := range all {
		all[i] = start + uint64(i)
	}
	return all
}

// counted is what counts of a memory.
func counted(m words) words { return slices.Clone(m[:min(len(m), 256)]) }

// with is what counts of a memory, but for w at one place.
func with(m words, i int, w uint64) words {
	after := counted(m)
	after[i] = w
	return after
}

// signed is a word as an int, without a conversion that goes around.
func signed(a uint64) int {
	if a < 1<<63 {
		return int(a)
	}
	return -int(last-a) - 1
}

// place is n modulo count, found without a remainder of what is below 0.
func place(n, count int) int {
	if n >= 0 {
		return n % count
	}
	// -1 lies at count - 1, and each lower one a place before it.
	return count - 1 - (-(n + 1))%count
}

// wantedSane tells the document's words once more.
func wantedSane(l program) bool {
	sane := len(l) > 0 && len(l) <= 200
	for own, x := range l {
		sane = sane && x.K >= 0 && x.K <= 6 && x.R >= 0 && x.R <= 31 && x.To > own && x.To <= len(l)
	}
	return sane
}

// wantedRest tells the document's words once more, of a task of a program.
func wantedRest(t api.Task) api.Task {
	if t.Done {
		return t
	}
	if t.Pc < 0 || t.Pc >= len(t.Code) {
		t.Done, t.Ans = true, -1
		return t
	}
	x := t.Code[t.Pc]
	if x.K < 3 {
		return t
	}
	if x.K == 6 {
		t.Done, t.Ans = true, signed(x.A)
		return t
	}
	r := t.R[x.R]
	if x.K == 3 && r == x.A || x.K == 4 && r&1 != 0 || x.K == 5 && r == t.R[place(x.I, 32)] {
		t.Pc = x.To
	} else {
		t.Pc = t.Pc + 1
	}
	return wantedRest(t)
}

// wantedStart tells the document's words once more.
func wantedStart(l program) api.Task {
	if !wantedSane(l) {
		return api.Task{Done: true, Ans: -1}
	}
	return wantedRest(api.Task{Code: l})
}

// wantedStep tells the document's words once more.
func wantedStep(t api.Task, m words) (api.Task, words) {
	after := counted(m)
	if t.Done {
		return t, after
	}
	if !wantedSane(t.Code) {
		return wantedStart(t.Code), after
	}
	t = wantedRest(t)
	if t.Done {
		return t, after
	}
	x := t.Code[t.Pc]
	there := x.I >= 0 && x.I < len(after)
	switch {
	case x.K == 0 && there:
		t.R[x.R] = after[x.I]
	case x.K == 0:
		t.R[x.R] = 0
	case x.K == 1 && there:
		after[x.I] = x.A
	case x.K == 2 && there:
		after[x.I] += x.A
	}
	t.Pc++
	return wantedRest(t), after
}

// wantedRun is one step behind the other.
func wantedRun(l tasks, m words, picks []int) (tasks, words) {
	all, after := slices.Clone(l), counted(m)
	for _, pick := range picks {
		if len(l) > 0 {
			own := place(pick, len(l))
			all[own], after = wantedStep(all[own], after)
		}
	}
	return all, after
}

// wantedSteps is one step behind the other.
func wantedSteps(t api.Task, m words, most int) (api.Task, words, int) {
	after := counted(m)
	for n := range 1000 {
		if n >= most || t.Done {
			return t, after, n
		}
		t, after = wantedStep(t, after)
	}
	return t, after, 1000
}

// same holds two tasks against each other, all fields, element by element.
func same(a, b api.Task) bool {
	return slices.Equal(a.Code, b.Code) && a.Pc == b.Pc && a.R == b.R && a.Done == b.Done && a.Ans == b.Ans
}

// copied is a task that shares nothing with t.
func copied(t api.Task) api.Task {
	t.Code = slices.Clone(t.Code)
	return t
}

// copiedAll is tasks that share nothing with those of l.
func copiedAll(l tasks) tasks {
	all := make(tasks, len(l))
	for i, t := range l {
		all[i] = copied(t)
	}
	return all
}

// told is a task in short, for a failed test.
type told struct {
	Instructions, Pc int
	R                [32]uint64
	Done             bool
	Ans              int
}

func short(t api.Task) told { return told{len(t.Code), t.Pc, t.R, t.Done, t.Ans} }

// sameStart holds what Start answers against a task; l stays as it is.
func sameStart(t *testing.T, l program, want api.Task) {
	t.Helper()
	was := slices.Clone(l)
	if got := task.Start(l); !same(got, want) {
		t.Fatalf("Start of %+v = %+v; want %+v", l, short(got), short(want))
	}
	if !slices.Equal(l, was) {
		t.Fatalf("Start changed %+v to %+v", was, l)
	}
}

// sameStep holds what Step answers, and what Run answers of one such step, and Steps of one at most, against a task and a memory; u and m stay as they are.
func sameStep(t *testing.T, u api.Task, m words, want api.Task, after words) {
	t.Helper()
	was, wasM := copied(u), slices.Clone(m)
	if got, n := task.Step(u, m); !same(got, want) || !slices.Equal(n, after) {
		t.Fatalf("Step of %+v of %+v at %v = %+v, %v; want %+v, %v", short(u), u.Code, m, short(got), n, short(want), after)
	}
	if all, n := task.Run(tasks{u}, m, []int{0}); len(all) != 1 || !same(all[0], want) || !slices.Equal(n, after) {
		t.Fatalf("Run of a step of %+v of %+v at %v = %+v, %v; want %+v, %v", short(u), u.Code, m, all, n, short(want), after)
	}
	count := 1
	if u.Done {
		count = 0
	}
	if got, n, steps := task.Steps(u, m, 1); !same(got, want) || !slices.Equal(n, after) || steps != count {
		t.Fatalf("one of Steps of %+v of %+v at %v = %+v, %v, %d; want %+v, %v, %d", short(u), u.Code, m, short(got), n, steps, short(want), after, count)
	}
	if !same(u, was) || !slices.Equal(m, wasM) {
		t.Fatalf("a step changed %+v and %v to %+v and %v", was, wasM, u, m)
	}
}

// sameRun holds what Run answers against tasks and a memory; all stays as it is.
func sameRun(t *testing.T, l tasks, m words, picks []int, want tasks, after words) {
	t.Helper()
	was, wasM, wasPicks := copiedAll(l), slices.Clone(m), slices.Clone(picks)
	got, n := task.Run(l, m, picks)
	if !slices.EqualFunc(got, want, same) || !slices.Equal(n, after) {
		t.Fatalf("Run of %+v at %v with %v = %+v, %v; want %+v, %v", l, m, picks, got, n, want, after)
	}
	if !slices.EqualFunc(l, was, same) || !slices.Equal(m, wasM) || !slices.Equal(picks, wasPicks) {
		t.Fatalf("Run changed %+v, %v, %v to %+v, %v, %v", was, wasM, wasPicks, l, m, picks)
	}
}

// sameSteps holds what Steps answers against a task, a memory and how many there were; u and m stay as they are.
func sameSteps(t *testing.T, u api.Task, m words, most int, want api.Task, after words, count int) {
	t.Helper()
	was, wasM := copied(u), slices.Clone(m)
	if got, n, steps := task.Steps(u, m, most); !same(got, want) || !slices.Equal(n, after) || steps != count {
		t.Fatalf("Steps of %+v of %+v at %v, %d = %+v, %v, %d; want %+v, %v, %d", short(u), u.Code, m, most, short(got), n, steps, short(want), after, count)
	}
	if !same(u, was) || !slices.Equal(m, wasM) {
		t.Fatalf("Steps changed %+v and %v to %+v and %v", was, wasM, u, m)
	}
}

// dice is a row of numbers that look thrown, the same ones for each seed.
type dice uint64

// upTo throws a number from 0 to count - 1.
func (d *dice) upTo(count int) int {
	*d ^= *d << 13
	*d ^= *d >> 7
	*d ^= *d << 17
	return int(uint64(*d) >> 8 % uint64(count))
}

// seeded is the dice of a number.
func seeded(seed int) *dice {
	d := dice(uint64(seed)*0x9e3779b97f4a7c15 + 0x1234567)
	for range 5 {
		d.upTo(2)
	}
	return &d
}

// thrownProgram is a program of so many instructions of all kinds, at few words, with few registers and small numbers, so that it often goes on at To.
func thrownProgram(d *dice, count int) program {
	l := make(program, count)
	for own := range l {
		l[own] = api.Ins{K: d.upTo(7), I: d.upTo(5) - 1, R: d.upTo(4), To: own + 1 + d.upTo(min(count-own, 4)), A: uint64(d.upTo(4))}
		switch d.upTo(12) {
		case 0:
			l[own].I = numbers()[d.upTo(len(numbers()))]
		case 1:
			l[own].A = last - l[own].A
		case 2:
			l[own].To = own + 1 + d.upTo(count-own)
		case 3:
			l[own].R = d.upTo(32)
		}
		// Else few would go on for long.
		if l[own].K == task.End && d.upTo(4) != 0 {
			l[own].K = d.upTo(6)
		}
	}
	return l
}

// thrownTask is a task somewhere in a program, with registers of any kind, done or not.
func thrownTask(d *dice, count int) api.Task {
	t := api.Task{Code: thrownProgram(d, count), Pc: d.upTo(count+3) - 1, Ans: d.upTo(3)}
	for r := range t.R {
		t.R[r] = uint64(d.upTo(4))
		if d.upTo(8) == 0 {
			t.R[r] = last - t.R[r]
		}
	}
	t.Done = d.upTo(8) == 0
	if d.upTo(8) == 0 {
		t.Pc = numbers()[d.upTo(len(numbers()))]
	}
	if d.upTo(16) == 0 {
		t.Code[d.upTo(count)].To = 0
	}
	return t
}

// thrownMemory is a memory of so many small words, some of them great.
func thrownMemory(d *dice, count int) words {
	m := make(words, count)
	for i := range m {
		m[i] = uint64(d.upTo(4))
		if d.upTo(8) == 0 {
			m[i] = last - m[i]
		}
	}
	return m
}

func TestConstants(t *testing.T) {
	if task.Load != 0 || task.Put != 1 || task.More != 2 || task.Same != 3 || task.Odd != 4 || task.Like != 5 || task.End != 6 {
		t.Error(task.Load, task.Put, task.More, task.Same, task.Odd, task.Like, task.End)
	}
	if api.MaxMem != 256 || len(api.Task{}.R) != 32 {
		t.Error(api.MaxMem, len(api.Task{}.R))
	}
}

// P12.1

// sane holds what Sane answers against ok, and what Start and Step make of what is no program; l stays as it is.
func sane(t *testing.T, l program, ok bool) {
	t.Helper()
	was := slices.Clone(l)
	if got := task.Sane(l); got != ok {
		t.Fatalf("Sane of %+v = %v", l, got)
	}
	if !slices.Equal(l, was) {
		t.Fatalf("Sane changed %+v to %+v", was, l)
	}
	if !ok {
		sameStart(t, l, api.Task{Done: true, Ans: -1})
		sameStep(t, api.Task{Code: l, R: filled(), Ans: 3}, words{1, 2}, api.Task{Done: true, Ans: -1}, words{1, 2})
	}
}

func TestSaneOfHowMany(t *testing.T) {
	sane(t, nil, false)
	sane(t, program{}, false)
	for count := 1; count <= 200; count++ {
		sane(t, idle(count), true)
	}
	for count := 201; count <= 530; count++ {
		sane(t, idle(count), false)
	}
	for _, count := range []int{1 << 16, 1<<16 + 1, 1<<16 + 200} {
		sane(t, idle(count), false)
	}
}

// eachPlace hands on programs of several sizes with a place of each: the first one, the last one, some between.
func eachPlace(f func(l program, own int)) {
	for _, count := range []int{1, 2, 3, 50, 199, 200} {
		for _, own := range []int{0, count / 3, count / 2, count - 1} {
			f(idle(count), own)
		}
	}
}

func TestSaneOfKinds(t *testing.T) {
	eachPlace(func(l program, own int) {
		for k := -1; k <= 7; k++ {
			l[own].K = k
			sane(t, l, k >= 0 && k <= 6)
		}
		for _, k := range append(numbers(), 8, 9, 254, 256+6, 1<<32+6, low+6, -7, -6) {
			l[own].K = k
			sane(t, l, k >= 0 && k <= 6)
		}
	})
}

func TestSaneOfRegisters(t *testing.T) {
	eachPlace(func(l program, own int) {
		for k := range 7 {
			l[own].K = k
			for r := -1; r <= 32; r++ {
				l[own].R = r
				sane(t, l, r >= 0 && r <= 31)
			}
			for _, r := range append(numbers(), 63, 64, 100, 256+31, 1<<32+31) {
				l[own].R = r
				sane(t, l, r >= 0 && r <= 31)
			}
		}
	})
}

func TestSaneOfTo(t *testing.T) {
	eachPlace(func(l program, own int) {
		for k := range 7 {
			l[own].K = k
			for _, to := range []int{own + 1, len(l), (own + 1 + len(l)) / 2} {
				l[own].To = to
				sane(t, l, true)
			}
			for _, to := range []int{own, own - 1, 0, -1, -own, -own - 1, len(l) + 1, len(l) + 2, 201, 256 + own + 1, 1<<32 + own + 1, own + 1 - 1<<32, low, low + own + 1, high} {
				l[own].To = to
				sane(t, l, false)
			}
		}
	})
}

// Each To alone, of small programs.
func TestSaneOfEachTo(t *testing.T) {
	for count := 1; count <= 8; count++ {
		for own := range count {
			for to := -3; to <= count+3; to++ {
				l := idle(count)
				l[own].To = to
				sane(t, l, to > own && to <= count)
			}
		}
	}
}

// Of I and A nothing is asked.
func TestSaneOfTheRest(t *testing.T) {
	for k := range 7 {
		for _, i := range numbers() {
			for _, a := range []uint64{0, 1, 1<<63 - 1, 1 << 63, last} {
				sane(t, line(api.Ins{K: k, I: i, A: a}, api.Ins{K: k, I: i, R: 31, A: a}), true)
			}
		}
	}
}

func TestSaneOfBad(t *testing.T) {
	for _, l := range bad() {
		sane(t, l, false)
	}
	sane(t, program{{}}, false)
	sane(t, make(program, 5), false)
	sane(t, make(program, 200), false)
}

// A task whose program begins with an access rests there, whatever the access is of.
func TestStartAtAccess(t *testing.T) {
	for k := range 3 {
		for _, i := range numbers() {
			for _, r := range []int{0, 1, 31} {
				l := line(api.Ins{K: k, I: i, R: r, A: 7}, api.Ins{K: task.End, A: 5})
				sameStart(t, l, api.Task{Code: l})
				sameStart(t, l[:1:1], api.Task{Code: l[:1]})
			}
		}
	}
}

// All registers are 0, so Same goes to To of an A of 0 alone.
func TestStartSame(t *testing.T) {
	for _, r := range []int{0, 1, 17, 31} {
		for _, a := range []uint64{0, 1, 2, 1 << 32, 1 << 63, last} {
			l := line(api.Ins{K: task.Same, R: r, A: a, I: 9, To: 3}, api.Ins{K: task.Load}, api.Ins{K: task.End, A: 8}, api.Ins{K: task.End, A: 9})
			if a == 0 {
				sameStart(t, l, api.Task{Code: l, Pc: 3, Done: true, Ans: 9})
			} else {
				sameStart(t, l, api.Task{Code: l, Pc: 1})
			}
		}
	}
	l := line(api.Ins{K: task.Same, To: 2}, api.Ins{K: task.End, A: 8}, api.Ins{K: task.Put, A: 9})
	sameStart(t, l, api.Task{Code: l, Pc: 2})
}

// No register is odd at first.
func TestStartOdd(t *testing.T) {
	for _, r := range []int{0, 1, 17, 31} {
		l := line(api.Ins{K: task.Odd, R: r, A: 1, I: 1, To: 3}, api.Ins{K: task.Load}, api.Ins{K: task.End, A: 8}, api.Ins{K: task.End, A: 9})
		sameStart(t, l, api.Task{Code: l, Pc: 1})
	}
}

// All registers are alike at first.
func TestStartLike(t *testing.T) {
	for _, r := range []int{0, 1, 17, 31} {
		for _, i := range numbers() {
			l := line(api.Ins{K: task.Like, R: r, I: i, A: 1, To: 3}, api.Ins{K: task.Load}, api.Ins{K: task.End, A: 8}, api.Ins{K: task.More, A: 9})
			sameStart(t, l, api.Task{Code: l, Pc: 3})
		}
	}
}

func TestStartEnd(t *testing.T) {
	for a, answer := range map[uint64]int{0: 0, 1: 1, 5: 5, 1 << 32: 1 << 32, 1<<63 - 1: high, 1 << 63: low, 1<<63 + 1: low + 1, last - 1: -2, last: -1} {
		l := line(api.Ins{K: task.End, A: a, I: 3, R: 4})
		sameStart(t, l, api.Task{Code: l, Done: true, Ans: answer})
		far := line(api.Ins{K: task.Odd}, api.Ins{K: task.Same, To: 3}, api.Ins{K: task.End, A: a + 1}, api.Ins{K: task.End, A: a}, api.Ins{K: task.End, A: a + 2})
		sameStart(t, far, api.Task{Code: far, Pc: 3, Done: true, Ans: answer})
	}
}

// What runs off its end is done, from the last place and from one before it.
func TestStartOffTheEnd(t *testing.T) {
	for _, l := range []program{
		line(api.Ins{K: task.Same}),
		line(api.Ins{K: task.Same, A: 1}),
		line(api.Ins{K: task.Odd}),
		line(api.Ins{K: task.Like, I: 5}),
		line(api.Ins{K: task.Same, To: 3}, api.Ins{K: task.Load}, api.Ins{K: task.End}),
		line(api.Ins{K: task.Like, To: 2}, api.Ins{K: task.End}),
		line(slices.Repeat(program{{K: task.Odd}}, 200)...),
		line(slices.Repeat(program{{K: task.Same}}, 200)...),
	} {
		sameStart(t, l, api.Task{Code: l, Pc: len(l), Done: true, Ans: -1})
	}
}

func TestStartOfNoProgram(t *testing.T) {
	for _, l := range bad() {
		sameStart(t, l, api.Task{Done: true, Ans: -1})
	}
}

// To come to rest

// moved holds the place to which x, whose To is 3, leads a task with these registers against to, 1 or 3: at both lies a Put of no place, and a step does the one that the task comes to.
func moved(t *testing.T, x api.Ins, r [32]uint64, to int) {
	t.Helper()
	x.To = 3
	l := line(x, api.Ins{K: task.Put, I: -1}, api.Ins{K: task.End, A: 8}, api.Ins{K: task.Put, I: -1}, api.Ins{K: task.Load, I: -1})
	// Behind the Put at 1 comes an End, behind the one at 3 a Load, at which it rests.
	want := api.Task{Code: l, Pc: to + 1, R: r}
	if to == 1 {
		want.Done, want.Ans = true, 8
	}
	sameStep(t, api.Task{Code: l, R: r}, words{5}, want, words{5})
}

func TestSame(t *testing.T) {
	r := filled()
	for i, w := range r {
		for _, a := range []uint64{w, w + 1, w - 1, w ^ 1<<32, w ^ 1<<63, -w, 0, last} {
			to := 1
			if a == w {
				to = 3
			}
			moved(t, api.Ins{K: task.Same, R: i, A: a, I: 4}, r, to)
		}
	}
}

func TestOdd(t *testing.T) {
	for i := range 32 {
		for w, to := range map[uint64]int{0: 1, 1: 3, 2: 1, 3: 3, 4: 1, 7: 3, 1 << 32: 1, 1<<32 + 1: 3, 1<<63 - 1: 3, 1 << 63: 1, 1<<63 + 1: 3, last - 1: 1, last: 3} {
			r := filled()
			r[i] = w
			moved(t, api.Ins{K: task.Odd, R: i, A: w, I: 4}, r, to)
		}
	}
}

// Register I modulo 32 is looked at, of an I below 0 as well.
func TestLike(t *testing.T) {
	r := filled()
	r[9] = r[20]
	for a := range 32 {
		for b := range 32 {
			to := 1
			if r[a] == r[b] {
				to = 3
			}
			for _, i := range []int{b, b + 32, b + 64, b + 320, b - 32, b - 64, b - 320, b + 1<<32, b - 1<<32, low + b, high - 31 + b} {
				moved(t, api.Ins{K: task.Like, R: a, I: i, A: 4}, r, to)
			}
		}
	}
}

func TestLikeOfTheEnds(t *testing.T) {
	for i, register := range map[int]int{low: 0, low + 1: 1, low + 31: 31, low + 32: 0, -64: 0, -33: 31, -32: 0, -31: 1, -2: 30, -1: 31, 0: 0, 31: 31, 32: 0, 33: 1, 63: 31, 64: 0, high - 32: 31, high - 31: 0, high - 1: 30, high: 31} {
		for like := range 32 {
			var r [32]uint64
			for n := range r {
				r[n] = uint64(n) + 10
			}
			r[7] = r[like]
			to := 1
			if register == like || register == 7 {
				to = 3
			}
			moved(t, api.Ins{K: task.Like, R: 7, I: i}, r, to)
		}
	}
}

// A chain of instructions that rest at none is gone through at once, and changes nothing but Pc.
func TestChain(t *testing.T) {
	l := line(
		api.Ins{K: task.Same, R: 3, A: last, To: 2},
		api.Ins{K: task.End, A: 1},
		api.Ins{K: task.Odd, R: 5, To: 4},
		api.Ins{K: task.End, A: 2},
		api.Ins{K: task.Like, R: 3, I: 3, To: 7},
		api.Ins{K: task.End, A: 3},
		api.Ins{K: task.End, A: 4},
		api.Ins{K: task.Same, R: 3, A: 5, To: 9},
		api.Ins{K: task.Odd, R: 4, To: 10},
		api.Ins{K: task.Like, R: 3, I: 4, To: 11},
		api.Ins{K: task.More, I: 1, A: 1},
		api.Ins{K: task.End, A: 77},
	)
	sameStep(t, api.Task{Code: l, R: filled()}, words{5, 6}, api.Task{Code: l, Pc: 11, R: filled(), Done: true, Ans: 77}, words{5, 7})
	sameStart(t, l, api.Task{Code: l, Pc: 1, Done: true, Ans: 1})
}

// P12.2

// A task that is done stays, whatever else stands in it.
func TestStepOfDone(t *testing.T) {
	codes := append(bad(), idle(1), idle(3), line(api.Ins{K: task.End, A: 4}), line(api.Ins{K: task.Put, A: 9}, api.Ins{K: task.Same}))
	for _, l := range codes {
		for _, pc := range []int{low, -1, 0, 1, 2, 200, high} {
			for _, answer := range []int{low, -1, 0, 1, high} {
				u := api.Task{Code: l, Pc: pc, R: filled(), Done: true, Ans: answer}
				for _, size := range []int{0, 1, 256, 257} {
					m := counting(size, 3)
					sameStep(t, u, m, u, counted(m))
				}
			}
		}
	}
	sameStep(t, api.Task{Done: true}, words{3}, api.Task{Done: true}, words{3})
}

// Of what is no program nothing is left but the answer, whatever the task was at.
func TestStepOfNoProgram(t *testing.T) {
	for _, l := range bad() {
		for _, pc := range []int{low, -1, 0, 1, 2, 200, high} {
			for _, size := range sizes() {
				m := counting(size, 3)
				sameStep(t, api.Task{Code: l, Pc: pc, R: filled(), Ans: 6}, m, api.Task{Done: true, Ans: -1}, counted(m))
			}
		}
	}
	sameStep(t, api.Task{}, words{3}, api.Task{Done: true, Ans: -1}, words{3})
}

// Of a Pc that is no instruction's a task of a program is done where it is, and keeps its registers.
func TestStepOfNoPlace(t *testing.T) {
	for _, count := range []int{1, 2, 9, 200} {
		for _, l := range []program{idle(count), line(slices.Repeat(program{{K: task.End, A: 4}}, count)...)} {
			for _, pc := range []int{low, low + 1, -1 << 32, -200, -2, -1, count, count + 1, 200, 256, 1 << 32, 1<<32 + 1, high - 1, high} {
				u := api.Task{Code: l, Pc: pc, R: filled(), Ans: 6}
				for _, size := range []int{0, 1, 256, 300} {
					m := counting(size, 3)
					want := u
					want.Done, want.Ans = true, -1
					sameStep(t, u, m, want, counted(m))
				}
			}
		}
	}
}

// eachWord hands on memories of all sizes with places that they have, and places that they have not.
func eachWord(f func(m words, i int, there bool)) {
	for _, size := range sizes() {
		m := counting(size, last-2)
		for i := -2; i <= 258; i++ {
			f(m, i, i >= 0 && i < min(size, 256))
		}
		for _, i := range []int{low, low + 1, -257, -256, -1 << 32, 299, 999, 1000, 1 << 16, 1 << 32, 1<<32 + 1, 1 << 62, high} {
			f(m, i, false)
		}
	}
}

// Load lays a word into its register, and 0 of a place that there is not, and changes no other register and no word.
func TestLoad(t *testing.T) {
	eachWord(func(m words, i int, there bool) {
		for _, r := range []int{0, 3, 31} {
			l := line(api.Ins{K: task.Load, I: i, R: r, A: 88}, api.Ins{K: task.Load})
			want := api.Task{Code: l, Pc: 1, R: filled()}
			want.R[r] = 0
			if there {
				want.R[r] = m[i]
			}
			sameStep(t, api.Task{Code: l, R: filled()}, m, want, counted(m))
		}
	})
	for r := range 32 {
		l := line(api.Ins{K: task.Load, I: 1, R: r}, api.Ins{K: task.Load})
		want := api.Task{Code: l, Pc: 1, R: filled()}
		want.R[r] = last
		sameStep(t, api.Task{Code: l, R: filled()}, words{4, last, 6}, want, words{4, last, 6})
	}
}

// Put lays A, and changes no register and no other word.
func TestPut(t *testing.T) {
	eachWord(func(m words, i int, there bool) {
		for _, a := range []uint64{0, 5, 1 << 63, last} {
			l := line(api.Ins{K: task.Put, I: i, R: 3, A: a}, api.Ins{K: task.Load})
			after := counted(m)
			if there {
				after = with(m, i, a)
			}
			sameStep(t, api.Task{Code: l, R: filled()}, m, api.Task{Code: l, Pc: 1, R: filled()}, after)
		}
	})
}

// More makes a word A more, going around, and changes no register and no other word.
func TestMore(t *testing.T) {
	eachWord(func(m words, i int, there bool) {
		for _, a := range []uint64{0, 1, 5, 1 << 63, last} {
			l := line(api.Ins{K: task.More, I: i, R: 3, A: a}, api.Ins{K: task.Load})
			after := counted(m)
			if there {
				after = with(m, i, m[i]+a)
			}
			sameStep(t, api.Task{Code: l, R: filled()}, m, api.Task{Code: l, Pc: 1, R: filled()}, after)
		}
	})
	l := line(api.Ins{K: task.More, A: 3}, api.Ins{K: task.Load})
	sameStep(t, api.Task{Code: l}, words{last - 1}, api.Task{Code: l, Pc: 1}, words{1})
}

// Behind an access a task goes on from the next instruction, not from To.
func TestAccessGoesOnNext(t *testing.T) {
	for k := range 3 {
		l := line(api.Ins{K: k, To: 3}, api.Ins{K: task.Load, I: 1}, api.Ins{K: task.End, A: 2}, api.Ins{K: task.End, A: 3})
		sameStep(t, api.Task{Code: l}, words{0, 1}, api.Task{Code: l, Pc: 1}, words{0, 1})
		off := line(api.Ins{K: task.End}, api.Ins{K: k})
		sameStep(t, api.Task{Code: off, Pc: 1}, words{0, 1}, api.Task{Code: off, Pc: 2, Done: true, Ans: -1}, words{0, 1})
	}
}

// Behind an access a task comes to rest: at the next access, at an End, off its end; and by what the access told.
func TestRestBehindAccess(t *testing.T) {
	l := line(
		api.Ins{K: task.Load, I: 1, R: 2},
		api.Ins{K: task.Odd, R: 2, To: 4},
		api.Ins{K: task.Same, R: 2, A: 6, To: 5},
		api.Ins{K: task.Like, R: 2, I: 34, To: 6},
		api.Ins{K: task.End, A: 1},
		api.Ins{K: task.Put, A: 7},
		api.Ins{K: task.Same, R: 2, A: 8, To: 8},
		api.Ins{K: task.More, I: 1, A: 2},
	)
	at := func(pc int, w uint64) api.Task { return api.Task{Code: l, Pc: pc, R: [32]uint64{2: w}} }
	ended := func(pc int, w uint64, answer int) api.Task {
		u := at(pc, w)
		u.Done, u.Ans = true, answer
		return u
	}
	sameStep(t, at(0, 9), words{3, 5}, ended(4, 5, 1), words{3, 5})
	sameStep(t, at(0, 9), words{3, 6}, at(5, 6), words{3, 6})
	sameStep(t, at(0, 9), words{3, 8}, ended(8, 8, -1), words{3, 8})
	sameStep(t, at(0, 9), words{3, 4}, at(7, 4), words{3, 4})
	sameStep(t, at(0, 9), words{3}, at(7, 0), words{3})
	sameStep(t, at(5, 4), words{3, 4}, at(7, 4), words{7, 4})
	sameStep(t, at(5, 8), words{3, 4}, ended(8, 8, -1), words{7, 4})
	sameStep(t, at(7, 4), words{7, 4}, ended(8, 4, -1), words{7, 6})
}

// A task that is not come to rest does so, and then the access, in one step; one that is done when it does makes no access.
func TestStepOfNotAtRest(t *testing.T) {
	l := line(
		api.Ins{K: task.Same, R: 1, A: 4, To: 3},
		api.Ins{K: task.Odd, R: 1, To: 5},
		api.Ins{K: task.Like, R: 1, I: 2, To: 6},
		api.Ins{K: task.Put, I: 1, A: 50},
		api.Ins{K: task.Load, I: 0, R: 9},
		api.Ins{K: task.End, A: 60},
	)
	r := func(a, b uint64) [32]uint64 { return [32]uint64{1: a, 2: b} }
	m := words{3, 5}
	sameStep(t, api.Task{Code: l, R: r(4, 4)}, m, api.Task{Code: l, Pc: 4, R: r(4, 4)}, words{3, 50})
	sameStep(t, api.Task{Code: l, R: r(5, 5)}, m, api.Task{Code: l, Pc: 5, R: r(5, 5), Done: true, Ans: 60}, m)
	sameStep(t, api.Task{Code: l, R: r(6, 6)}, m, api.Task{Code: l, Pc: 6, R: r(6, 6), Done: true, Ans: -1}, m)
	sameStep(t, api.Task{Code: l, R: r(6, 7)}, m, api.Task{Code: l, Pc: 4, R: r(6, 7)}, words{3, 50})
	sameStep(t, api.Task{Code: l, Pc: 1, R: r(4, 5)}, m, api.Task{Code: l, Pc: 4, R: r(4, 5)}, words{3, 50})
	sameStep(t, api.Task{Code: l, Pc: 2, R: r(4, 4)}, m, api.Task{Code: l, Pc: 6, R: r(4, 4), Done: true, Ans: -1}, m)
	sameStep(t, api.Task{Code: l, Pc: 5, R: r(4, 4), Ans: 9}, m, api.Task{Code: l, Pc: 5, R: r(4, 4), Done: true, Ans: 60}, m)
	end := api.Task{Code: l, Pc: 5, R: r(4, 4), Done: true, Ans: 60}
	end.R[9] = 3
	sameStep(t, api.Task{Code: l, Pc: 4, R: r(4, 4)}, m, end, m)
	// What is told of a task that goes on stays in it.
	sameStep(t, api.Task{Code: l, R: r(4, 4), Ans: 9}, m, api.Task{Code: l, Pc: 4, R: r(4, 4), Ans: 9}, words{3, 50})
}

// eachThrown hands on tasks of programs of all sizes with memories of all sizes.
func eachThrown(f func(d *dice, u api.Task, m words)) {
	for seed := range 6000 {
		d := seeded(seed)
		count := 1 + d.upTo(12)
		if seed%20 == 0 {
			count = 1 + d.upTo(205)
		}
		f(d, thrownTask(d, count), thrownMemory(d, []int{0, 1, 2, 3, 4, 5, 256, 257, 300}[d.upTo(9)]))
	}
}

// Sane, Start and Step are as the words say.
func TestThrown(t *testing.T) {
	eachThrown(func(d *dice, u api.Task, m words) {
		if got := task.Sane(u.Code); got != wantedSane(u.Code) {
			t.Fatalf("Sane of %+v = %v", u.Code, got)
		}
		sameStart(t, u.Code, wantedStart(u.Code))
		want, after := wantedStep(u, m)
		sameStep(t, u, m, want, after)
	})
}

// eachSmall hands on all programs of one and two instructions with few numbers.
func eachSmall(f func(l program)) {
	each := func(own, count int, f func(x api.Ins)) {
		for k := range 7 {
			for n := range 8 {
				for to := own + 1; to <= count; to++ {
					f(api.Ins{K: k, I: n & 1, R: n >> 1 & 1, To: to, A: uint64(n >> 2)})
				}
			}
		}
	}
	each(0, 1, func(x api.Ins) { f(program{x}) })
	each(0, 2, func(x api.Ins) {
		each(1, 2, func(y api.Ins) { f(program{x, y}) })
	})
}

func TestSmall(t *testing.T) {
	eachSmall(func(l program) {
		sameStart(t, l, wantedStart(l))
		for n := range 4 {
			m := words{uint64(n & 1), uint64(n >> 1)}
			u := api.Task{Code: l, R: [32]uint64{uint64(n >> 1), uint64(n & 1)}}
			want, after := wantedStep(u, m)
			sameStep(t, u, m, want, after)
			want, after, count := wantedSteps(u, m, 9)
			sameSteps(t, u, m, 9, want, after, count)
		}
	})
}

// P12.3

// writer is a program that lays word 0 into register 1, puts a there, makes it b more, lays it into register 2, and ends with an answer.
func writer(a, b uint64, answer uint64) program {
	return line(api.Ins{K: task.Load, R: 1}, api.Ins{K: task.Put, A: a}, api.Ins{K: task.More, A: b}, api.Ins{K: task.Load, R: 2}, api.Ins{K: task.End, A: answer})
}

// at is a task of a program at a place with two registers that are not 0.
func at(l program, pc int, one, two uint64) api.Task {
	return api.Task{Code: l, Pc: pc, R: [32]uint64{1: one, 2: two}}
}

func TestRunOfNoTask(t *testing.T) {
	for _, size := range sizes() {
		m := counting(size, 7)
		for _, picks := range [][]int{nil, {}, {0}, {1, -1, low, high}} {
			sameRun(t, nil, m, picks, nil, counted(m))
			sameRun(t, tasks{}, m, picks, nil, counted(m))
		}
	}
}

// Without a pick nothing happens, also to what is not come to rest, and to what is no program.
func TestRunOfNoPick(t *testing.T) {
	l := tasks{{}, {Code: line(api.Ins{K: task.End, A: 3})}, {Code: bad()[4], R: filled()}, task.Start(writer(1, 2, 3)), {Done: true, Ans: 7}, {Code: idle(2), Pc: -5}}
	for _, size := range sizes() {
		m := counting(size, 7)
		sameRun(t, l, m, nil, l, counted(m))
		sameRun(t, l, m, []int{}, l, counted(m))
	}
}

// Of one task each pick is of it.
func TestRunOfOne(t *testing.T) {
	w := writer(10, 5, 4)
	u := task.Start(w)
	ended := at(w, 4, 3, 15)
	ended.Done, ended.Ans = true, 4
	sameRun(t, tasks{u}, words{3}, []int{0}, tasks{at(w, 1, 3, 0)}, words{3})
	sameRun(t, tasks{u}, words{3}, []int{high, low}, tasks{at(w, 2, 3, 0)}, words{10})
	sameRun(t, tasks{u}, words{3}, []int{-1, 1, 7}, tasks{at(w, 3, 3, 0)}, words{15})
	sameRun(t, tasks{u}, words{3}, []int{1, 2, 3, 4}, tasks{ended}, words{15})
	sameRun(t, tasks{u}, words{3}, []int{0, 0, 0, 0, 0, 0, 0}, tasks{ended}, words{15})
}

// Of two tasks at one word, what is told and what is left hangs on the order of the picks.
func TestRunInOrder(t *testing.T) {
	a, b := writer(10, 1, 4), writer(20, 2, 5)
	l := tasks{task.Start(a), task.Start(b)}
	sameRun(t, l, words{3}, []int{0, 0, 1, 1}, tasks{at(a, 2, 3, 0), at(b, 2, 10, 0)}, words{20})
	sameRun(t, l, words{3}, []int{1, 1, 0, 0}, tasks{at(a, 2, 20, 0), at(b, 2, 3, 0)}, words{10})
	sameRun(t, l, words{3}, []int{0, 1, 0, 1}, tasks{at(a, 2, 3, 0), at(b, 2, 3, 0)}, words{20})
	sameRun(t, l, words{3}, []int{0, 1, 1, 0}, tasks{at(a, 2, 3, 0), at(b, 2, 3, 0)}, words{10})
	sameRun(t, l, words{3}, []int{0, 1, 1, 0, 0, 1}, tasks{at(a, 3, 3, 0), at(b, 3, 3, 0)}, words{13})
	first, second := at(a, 4, 3, 11), at(b, 4, 3, 13)
	first.Done, first.Ans, second.Done, second.Ans = true, 4, true, 5
	sameRun(t, l, words{3}, []int{0, 1, 1, 0, 0, 0, 1, 1}, tasks{first, second}, words{13})
	sameRun(t, l, words{3}, []int{0, 1, 1, 0, 0, 0, 0, 0, 1, 0, 1, 1}, tasks{first, second}, words{13})
}

// Of several tasks each pick is of that at its place modulo how many there are, 0 or more.
func TestRunPicks(t *testing.T) {
	for _, count := range []int{1, 2, 3, 4, 5, 7, 8, 31, 32, 33, 200, 300} {
		var l tasks
		for n := range count {
			l = append(l, task.Start(line(api.Ins{K: task.More, A: uint64(n) + 1}, api.Ins{K: task.End, A: uint64(n)})))
		}
		pick := func(p, own int) {
			t.Helper()
			want := slices.Clone(l)
			want[own].Pc, want[own].Done, want[own].Ans = 1, true, own
			sameRun(t, l, words{1000}, []int{p}, want, words{1000 + uint64(own) + 1})
		}
		for own := range count {
			for _, round := range []int{-100, -3, -2, -1, 0, 1, 2, 3, 100} {
				pick(own+round*count, own)
			}
		}
		// How far the ends are above a multiple, by whole numbers of twice the size: 2^63 modulo count, doubled up from 1.
		far := 1 % count
		for range 63 {
			far = far * 2 % count
		}
		pick(high, (far+count-1)%count)
		pick(high-1, (far+2*count-2)%count)
		pick(low, (count-far)%count)
		pick(low+1, (count-far+1)%count)
	}
}

// One and the same task twice is two tasks.
func TestRunOfTheSameTwice(t *testing.T) {
	w := writer(10, 5, 4)
	u := task.Start(w)
	sameRun(t, tasks{u, u}, words{3}, []int{1, 1, 1, 0}, tasks{at(w, 1, 15, 0), at(w, 3, 3, 0)}, words{15})
}

// Only those that are picked do a step: others stay as they are, also where a step would change them without an access.
func TestRunOfOthers(t *testing.T) {
	l := tasks{{}, {Code: line(api.Ins{K: task.End, A: 3})}, task.Start(writer(1, 2, 3)), {Code: bad()[4], R: filled()}, {Code: idle(2), Pc: -5, R: filled()}, {Done: true, Ans: 7}}
	for own := range l {
		want, after := wantedRun(l, words{4}, []int{own})
		for n := range l {
			if n != own && !same(want[n], l[n]) {
				t.Fatal(own, n)
			}
		}
		sameRun(t, l, words{4}, []int{own}, want, after)
	}
}

func TestRunThrown(t *testing.T) {
	for seed := range 1500 {
		d := seeded(seed + 10000)
		l := make(tasks, 1+d.upTo(6))
		for n := range l {
			l[n] = thrownTask(d, 1+d.upTo(10))
		}
		m := thrownMemory(d, d.upTo(5))
		if seed%50 == 0 {
			m = thrownMemory(d, 255+d.upTo(5))
		}
		picks := make([]int, d.upTo(40))
		for n := range picks {
			picks[n] = d.upTo(50) - 25
			if d.upTo(8) == 0 {
				picks[n] = numbers()[d.upTo(len(numbers()))]
			}
		}
		want, after := wantedRun(l, m, picks)
		sameRun(t, l, m, picks, want, after)
		// A row of picks that is cut in two is done in two runs as in one.
		cut := d.upTo(len(picks) + 1)
		half, middle := task.Run(l, m, picks[:cut])
		sameRun(t, half, middle, picks[cut:], want, after)
	}
}

// stair is a program of so many accesses, each of which is seen in word 0.
func stair(count int) program {
	return line(slices.Repeat(program{{K: task.More, A: 1}}, count)...)
}

func TestStepsAtMost(t *testing.T) {
	for _, count := range []int{1, 2, 3, 10, 199, 200} {
		l := stair(count)
		u := task.Start(l)
		for _, most := range append(numbers(), 9, 10, 11, 100, 198, 199, 200, 201, 999, 1000, 1001, 1<<32+1) {
			steps := min(max(most, 0), count)
			want := api.Task{Code: l, Pc: steps}
			if steps == count {
				want.Done, want.Ans = true, -1
			}
			sameSteps(t, u, words{5, 9}, most, want, words{5 + uint64(steps), 9}, steps)
		}
	}
}

// With no step nothing happens, also to what is not come to rest, and to what is no program; a step that makes no access is one too.
func TestStepsOfNone(t *testing.T) {
	end := line(api.Ins{K: task.End, A: 3})
	for _, u := range []api.Task{{}, {Code: end}, {Code: bad()[4], R: filled(), Ans: 5}, task.Start(writer(1, 2, 3)), {Code: idle(2), Pc: -5, R: filled()}} {
		for _, size := range sizes() {
			m := counting(size, 7)
			for _, most := range []int{low, low + 1, -1 << 32, -1000, -1, 0} {
				sameSteps(t, u, m, most, u, counted(m), 0)
			}
		}
	}
	sameSteps(t, api.Task{}, words{7}, 5, api.Task{Done: true, Ans: -1}, words{7}, 1)
	sameSteps(t, api.Task{Code: end, R: filled()}, words{7}, 5, api.Task{Code: end, R: filled(), Done: true, Ans: 3}, words{7}, 1)
	sameSteps(t, api.Task{Code: bad()[4], R: filled(), Ans: 5}, words{7}, high, api.Task{Done: true, Ans: -1}, words{7}, 1)
	sameSteps(t, api.Task{Code: idle(2), Pc: -5, R: filled()}, words{7}, 1000, api.Task{Code: idle(2), Pc: -5, R: filled(), Done: true, Ans: -1}, words{7}, 1)
}

// What is done before does no step.
func TestStepsOfDone(t *testing.T) {
	for _, l := range append(bad(), idle(3), writer(1, 2, 3)) {
		u := api.Task{Code: l, Pc: 0, R: filled(), Done: true, Ans: 8}
		for _, size := range sizes() {
			m := counting(size, 7)
			for _, most := range []int{low, -1, 0, 1, 2, 5, 1000, 1001, high} {
				sameSteps(t, u, m, most, u, counted(m), 0)
			}
		}
	}
	done := task.Start(line(api.Ins{K: task.End, A: 4}))
	sameSteps(t, done, words{1}, 9, done, words{1}, 0)
}

func TestStepsThrown(t *testing.T) {
	eachThrown(func(d *dice, u api.Task, m words) {
		for _, most := range []int{d.upTo(9) - 2, d.upTo(300), 1000, high, low} {
			want, after, count := wantedSteps(u, m, most)
			sameSteps(t, u, m, most, want, after, count)
		}
		// The same steps with a pause between, and one by one.
		want, after, count := task.Steps(u, m, 300)
		half, middle, first := task.Steps(u, m, d.upTo(count+1))
		sameSteps(t, half, middle, 300, want, after, count-first)
		for range count {
			u, m = task.Step(u, m)
		}
		if m = counted(m); !same(u, want) || !slices.Equal(m, after) {
			t.Fatalf("one by one: %+v, %v; want %+v, %v", short(u), m, short(want), after)
		}
	})
}

// P12.4

// forward holds that a task of a program is done within as many steps as it has instructions, and goes forward with each, while between is called before each step with the memory, and answers the one that the step finds.
func forward(t *testing.T, u api.Task, m words, between func(n int, m words) words) {
	t.Helper()
	count := len(u.Code)
	for n := 0; !u.Done; n++ {
		if n == count {
			t.Fatalf("%+v is not done behind %d steps", u.Code, n)
		}
		was := u.Pc
		u, m = task.Step(u, between(n, m))
		if u.Pc <= was && !(u.Done && u.Pc == was) {
			t.Fatalf("%+v goes from %d to %d", u.Code, was, u.Pc)
		}
	}
}

func TestDoneInTime(t *testing.T) {
	for seed := range 3000 {
		d := seeded(seed + 20000)
		l := thrownProgram(d, 1+d.upTo(12))
		if seed%20 == 0 {
			l = thrownProgram(d, 1+d.upTo(200))
		}
		m := thrownMemory(d, d.upTo(6))
		alone := func(n int, m words) words { return m }
		others := func(n int, m words) words {
			other := slices.Clone(m)
			if len(m) > 0 {
				other[d.upTo(len(m))] = uint64(d.upTo(4))
			}
			return other
		}
		another := func(n int, m words) words { return thrownMemory(d, d.upTo(6)) }
		for _, between := range []func(n int, m words) words{alone, others, another} {
			forward(t, task.Start(l), m, between)
			forward(t, api.Task{Code: l, R: filled()}, m, between)
		}
		u, _, count := task.Steps(task.Start(l), m, len(l))
		if !u.Done || count > len(l) {
			t.Fatalf("%+v is done %v behind %d steps of its own", l, u.Done, count)
		}
	}
}

// As many steps as instructions may be taken, and no more are.
func TestDoneAtTheLast(t *testing.T) {
	for count := 1; count <= 200; count++ {
		for k := range 3 {
			l := line(slices.Repeat(program{{K: k, A: 1}}, count)...)
			if u, _, steps := task.Steps(task.Start(l), words{0}, count); !u.Done || steps != count || u.Ans != -1 {
				t.Fatal(count, k, u.Done, steps)
			}
			if u, _, steps := task.Steps(task.Start(l), words{0}, count-1); u.Done || steps != count-1 {
				t.Fatal(count, k, u.Done, steps)
			}
		}
	}
}

// Several tasks that take any turns are each done within as many steps of their own as they have instructions.
func TestDoneInAnyTurns(t *testing.T) {
	for seed := range 500 {
		d := seeded(seed + 30000)
		l := make(tasks, 2+d.upTo(3))
		for n := range l {
			l[n] = task.Start(thrownProgram(d, 1+d.upTo(10)))
		}
		m := thrownMemory(d, 3)
		turns := make([]int, len(l))
		for range 200 {
			pick := d.upTo(len(l))
			l, m = task.Run(l, m, []int{pick})
			turns[pick]++
			if turns[pick] >= len(l[pick].Code) && !l[pick].Done {
				t.Fatalf("%+v is not done behind %d steps of its own", l[pick].Code, turns[pick])
			}
		}
	}
}

// The chapter's example.
func TestExample(t *testing.T) {
	l := line(api.Ins{K: task.Load, I: 0, R: 1}, api.Ins{K: task.Same, R: 1, A: 0, To: 4}, api.Ins{K: task.More, I: 0, A: 1}, api.Ins{K: task.End, A: 5})
	u := task.Start(l)
	sameStart(t, l, api.Task{Code: l})
	sameSteps(t, u, words{0}, 1000, api.Task{Code: l, Pc: 4, Done: true, Ans: -1}, words{0}, 1)
	sameSteps(t, u, words{3}, 1000, api.Task{Code: l, Pc: 3, R: [32]uint64{1: 3}, Done: true, Ans: 5}, words{4}, 2)
	sameSteps(t, u, words{3}, 1, api.Task{Code: l, Pc: 2, R: [32]uint64{1: 3}}, words{3}, 1)
}

// P1, R1 to R5

// Each call answers nil, as no instruction, no task, no word and no pick.
func TestNil(t *testing.T) {
	none := api.Task{Done: true, Ans: -1}
	if task.Sane(nil) {
		t.Error("nil is a program")
	}
	sameStart(t, nil, none)
	sameStep(t, api.Task{}, nil, none, nil)
	sameStep(t, none, nil, none, nil)
	sameRun(t, nil, nil, nil, nil, nil)
	sameRun(t, nil, nil, []int{0, 1, low}, nil, nil)
	sameRun(t, tasks{{}, none}, nil, nil, tasks{{}, none}, nil)
	sameRun(t, tasks{{}, {}}, nil, []int{1}, tasks{{}, none}, nil)
	sameSteps(t, api.Task{}, nil, 0, api.Task{}, nil, 0)
	sameSteps(t, api.Task{}, nil, 9, none, nil, 1)
	l := line(api.Ins{K: task.Load, R: 4}, api.Ins{K: task.Put, A: 5}, api.Ins{K: task.More, A: 5}, api.Ins{K: task.Load, R: 5}, api.Ins{K: task.End, A: 6})
	want := api.Task{Code: l, Pc: 4, R: filled(), Done: true, Ans: 6}
	want.R[4], want.R[5] = 0, 0
	sameSteps(t, api.Task{Code: l, R: filled()}, nil, 9, want, nil, 4)
}

// What was handed in is not changed, nor what lies ahead of it and behind it in its memory.
func TestNothingIsChanged(t *testing.T) {
	eachThrown(func(d *dice, u api.Task, m words) {
		code := slices.Concat(idle(5), u.Code, idle(5))
		around := slices.Concat(words{1, 2, 3}, m, words{4, 5, 6})
		u.Code = code[5 : 5+len(u.Code)]
		all := tasks{{Ans: 1}, copied(u), u, copied(u), {Ans: 2}}
		picks := []int{9, 0, 1, 2, 1, 0, 2, low, high, -2, 9}
		wasCode, wasAround, wasAll, wasPicks := slices.Clone(code), slices.Clone(around), copiedAll(all), slices.Clone(picks)
		task.Sane(u.Code)
		task.Start(u.Code)
		task.Step(u, around[3:3+len(m)])
		task.Steps(u, around[3:3+len(m)], 300)
		task.Run(all[1:4], around[3:3+len(m)], picks[1:10])
		if !slices.Equal(code, wasCode) || !slices.Equal(around, wasAround) || !slices.EqualFunc(all, wasAll, same) || !slices.Equal(picks, wasPicks) {
			t.Fatalf("what was handed in was changed: %+v, %v, %v", u, m, picks)
		}
	})
}

// What was answered stays, whatever is done to it by later calls.
func TestAnswersStay(t *testing.T) {
	for seed := range 300 {
		d := seeded(seed + 40000)
		l := tasks{task.Start(thrownProgram(d, 8)), task.Start(thrownProgram(d, 8)), thrownTask(d, 8)}
		m := thrownMemory(d, 3)
		var all, was []tasks
		var memories, wasMemories []words
		for range 12 {
			l, m = task.Run(l, m, []int{d.upTo(3), d.upTo(3)})
			all, was = append(all, l), append(was, copiedAll(l))
			memories, wasMemories = append(memories, m), append(wasMemories, slices.Clone(m))
			task.Steps(l[0], m, 5)
			task.Step(l[1], m)
		}
		for n := range all {
			if !slices.EqualFunc(all[n], was[n], same) || !slices.Equal(memories[n], wasMemories[n]) {
				t.Fatalf("answer %d of seed %d was changed by later calls", n, seed)
			}
		}
	}
}

// A call that is made again answers the same, whatever was called in between: nothing is kept.
func TestNothingIsKept(t *testing.T) {
	d := seeded(50000)
	u, m := api.Task{Code: thrownProgram(d, 20), R: filled()}, thrownMemory(d, 4)
	l, picks := tasks{u, task.Start(writer(1, 2, 3)), u}, []int{0, 1, 2, 2, 1, 0, -1, 0, 1}
	first, after := task.Step(u, m)
	all, afterAll := task.Run(l, m, picks)
	far, afterFar, count := task.Steps(u, m, 7)
	eachThrown(func(d *dice, other api.Task, n words) {
		task.Start(other.Code)
		task.Step(other, n)
		task.Steps(other, n, 50)
		task.Run(tasks{other, u}, n, picks)
		if d.upTo(20) == 0 {
			sameStep(t, u, m, first, after)
			sameRun(t, l, m, picks, all, afterAll)
			sameSteps(t, u, m, 7, far, afterFar, count)
		}
	})
}

// Every call ends, none panics, and what is answered is as long as may be: of numbers of any kind in each field.
func TestAlways(t *testing.T) {
	for _, number := range numbers() {
		for k := -1; k <= 7; k++ {
			for _, l := range []program{
				{{K: k, I: number, To: 1, A: uint64(number)}},
				{{K: k, R: number, To: 1}},
				{{K: k, To: number}},
				{{K: k, I: number, R: 3, To: 2, A: uint64(number)}, {K: number, To: 2}},
				{{K: number, I: number, R: number, To: number, A: uint64(number)}, {K: k, To: 2}},
			} {
				for _, pc := range numbers() {
					u := api.Task{Code: l, Pc: pc, R: filled(), Ans: number}
					want, after := wantedStep(u, words{1, 2})
					sameStep(t, u, words{1, 2}, want, after)
					task.Steps(u, nil, number)
					if all, m := task.Run(tasks{u, u, u}, words{1, 2}, []int{number, pc}); len(all) != 3 || len(m) != 2 {
						t.Fatal(all, m)
					}
				}
			}
		}
	}
}
