package tests

import (
	"math"
	"math/rand/v2"
	"slices"
	"testing"

	"loop.example/stopgate/impl"
)

// stepIn is what comes to a block at one step.
type stepIn struct {
	x  bool
	y  bool
	dt int
}

var bothWays = []bool{false, true}

// kindsMeasured are the Kinds that have a time or a count, kindsBare those that have none.
var (
	kindsMeasured = []int{1, 2, 3}
	kindsBare     = []int{4, 5}
	kindsNone     = []int{math.MinInt, -5, -3, -1, 0, 6, 7, 11, 12, 13, 256 + 1, 1<<32 + 1, math.MaxInt}
)

// edgeTimes are times and counts at their bounds, next to them, and halfway.
var edgeTimes = []int{0, 1, 2, 3, 499, 500, 501, 998, 999, 1000}

// timesBad are times and counts out of their bounds, by one and by far.
var timesBad = []int{math.MinInt, -1001, -1000, -2, -1, 1001, 1002, 2000, 256 * 256, 1<<32 + 1, math.MaxInt}

// nsOf are some N that a block of a Kind may have.
func nsOf(kind int) []int {
	if kind >= 4 {
		return []int{0}
	}
	return edgeTimes
}

// lastRun is from which place on the first input has been as it is at the last step.
func lastRun(row []stepIn) int {
	from := len(row) - 1
	for from > 0 && row[from-1].x == row[from].x {
		from--
	}
	return from
}

// timeOf is how much time went by at these steps, but never more than a time may be.
func timeOf(row []stepIn) int {
	sum := 0
	for _, s := range row {
		sum += s.dt
	}
	return min(sum, 1000)
}

// comesOn is how often the first input comes on at the steps from a place on.
func comesOn(row []stepIn, from int) int {
	many := 0
	for i := from; i < len(row); i++ {
		if row[i].x && (i == 0 || !row[i-1].x) {
			many++
		}
	}
	return many
}

// wantDelay is T, and whether it is on: the time that went by since the input came on.
func wantDelay(n int, row []stepIn) (int, bool) {
	if !row[len(row)-1].x {
		return 0, false
	}
	long := timeOf(row[lastRun(row)+1:])
	return long, long >= n
}

// wantHold is T, and whether it is on: the time that went by since the input went off, or, if it never was on, since
// ever.
func wantHold(n int, row []stepIn) (int, bool) {
	if row[len(row)-1].x {
		return 0, true
	}
	from := lastRun(row)
	if from == 0 {
		return timeOf(row), false
	}
	long := timeOf(row[from+1:])
	return long, long < n
}

// wantCount is T, and whether it is on: how often the input came on since the other one was on.
func wantCount(n int, row []stepIn) (int, bool) {
	from := len(row)
	for from > 0 && !row[from-1].y {
		from--
	}
	many := min(comesOn(row, from), 1000)
	return many, many >= n
}

// wantLatch says whether it is on: the last step at which one of the two was on tells it.
func wantLatch(row []stepIn) bool {
	for _, s := range slices.Backward(row) {
		if s.x || s.y {
			return !s.y
		}
	}
	return false
}

// wantBehind is a block behind a row of steps, told apart from the program: of the whole row, with nothing that is
// carried from step to step.
func wantBehind(kind int, n int, row []stepIn) impl.Block {
	b := impl.Block{Kind: kind, N: n}
	if len(row) == 0 {
		return b
	}
	b.Was = row[len(row)-1].x
	switch kind {
	case 1:
		b.T, b.On = wantDelay(n, row)
	case 2:
		b.T, b.On = wantHold(n, row)
	case 3:
		b.T, b.On = wantCount(n, row)
	case 4:
		b.On = comesOn(row, len(row)-1) == 1
	case 5:
		b.On = wantLatch(row)
	}
	return b
}

// wantStep is a block behind one step, as the table of the chapter says, line by line.
func wantStep(b impl.Block, s stepIn) impl.Block {
	out := impl.Block{Kind: b.Kind, N: b.N, Was: s.x}
	switch b.Kind {
	case 1:
		if s.x && b.Was {
			out.T = min(b.T+s.dt, 1000)
		}
		out.On = s.x && out.T >= b.N
	case 2:
		if !s.x && !b.Was {
			out.T = min(b.T+s.dt, 1000)
		}
		out.On = s.x || (b.On && out.T < b.N)
	case 3:
		if !s.y {
			out.T = min(b.T+wantIs(s.x && !b.Was), 1000)
		}
		out.On = out.T >= b.N
	case 4:
		out.On = s.x && !b.Was
	case 5:
		out.On = !s.y && (s.x || b.On)
	}
	return out
}

// wantBlockOk says whether a block is ok, told apart from the program.
func wantBlockOk(b impl.Block) bool {
	if slices.Contains(kindsBare, b.Kind) {
		return b.N == 0 && b.T == 0
	}
	return slices.Contains(kindsMeasured, b.Kind) && b.N >= 0 && b.N <= 1000 && b.T >= 0 && b.T <= 1000
}

// checkStep is a block behind one step, which is asked for twice, and held against what is wanted.
func checkStep(t *testing.T, b impl.Block, s stepIn, want impl.Block) impl.Block {
	t.Helper()
	was := b
	got, on := impl.BlockStep(b, s.x, s.y, s.dt)
	if got != want || on != want.On {
		t.Fatalf("BlockStep(%+v, %v, %v, %d) = %+v, %v, not %+v, %v", b, s.x, s.y, s.dt, got, on, want, want.On)
	}
	if again, onAgain := impl.BlockStep(b, s.x, s.y, s.dt); again != got || onAgain != on || b != was {
		t.Fatalf("BlockStep(%+v, %v, %v, %d) = %+v, %v the second time, and %+v is left", was, s.x, s.y, s.dt, again, onAgain, b)
	}
	return got
}

func TestBlockNames(t *testing.T) {
	got := []int{impl.BlockDelay, impl.BlockHold, impl.BlockCount, impl.BlockRise, impl.BlockLatch, impl.BlockMost}
	if !slices.Equal(got, []int{1, 2, 3, 4, 5, 1000}) {
		t.Error(got)
	}
}

func checkNew(t *testing.T, kind int, n int) {
	t.Helper()
	want := impl.Block{Kind: kind, N: n}
	if !wantBlockOk(want) {
		want = impl.Block{}
	}
	if got := impl.BlockNew(kind, n); got != want {
		t.Errorf("BlockNew(%d, %d) = %+v, not %+v", kind, n, got, want)
	}
	if got := impl.BlockOk(impl.BlockNew(kind, n)); got != (want != impl.Block{}) {
		t.Errorf("BlockOk(BlockNew(%d, %d)) = %v", kind, n, got)
	}
}

// Each Kind with every N within its bounds, and with those out of them.
func TestBlockNew(t *testing.T) {
	for kind := -2; kind <= 15; kind++ {
		for n := -5; n <= 1005; n++ {
			checkNew(t, kind, n)
		}
		for _, n := range timesBad {
			checkNew(t, kind, n)
		}
	}
	for _, kind := range kindsNone {
		for _, n := range slices.Concat(edgeTimes, timesBad) {
			checkNew(t, kind, n)
		}
	}
}

// What is just there, and what is one too much, written out.
func TestBlockNewTable(t *testing.T) {
	for _, c := range []struct {
		kind, n int
		ok      bool
	}{
		{1, 0, true}, {1, 1000, true}, {1, -1, false}, {1, 1001, false},
		{2, 0, true}, {2, 1000, true}, {2, -1, false}, {2, 1001, false},
		{3, 0, true}, {3, 1000, true}, {3, -1, false}, {3, 1001, false},
		{4, 0, true}, {4, 1, false}, {4, -1, false}, {4, 1000, false},
		{5, 0, true}, {5, 1, false}, {5, -1, false}, {5, 1000, false},
		{0, 0, false}, {6, 0, false}, {-1, 0, false}, {0, 1, false}, {6, 1, false}, {-1, 1, false},
	} {
		got, want := impl.BlockNew(c.kind, c.n), impl.Block{}
		if c.ok {
			want = impl.Block{Kind: c.kind, N: c.n, On: false, Was: false, T: 0}
		}
		if got != want || impl.BlockOk(got) != c.ok {
			t.Errorf("BlockNew(%d, %d) = %+v", c.kind, c.n, got)
		}
	}
}

// blocksFrom are the blocks of such a Kind, N and T, on or off, with an input that was on or off.
func blocksFrom(kind int, n int, count int) []impl.Block {
	var out []impl.Block
	for _, on := range bothWays {
		for _, was := range bothWays {
			out = append(out, impl.Block{Kind: kind, N: n, On: on, Was: was, T: count})
		}
	}
	return out
}

// blocksOk are the blocks of each Kind with N and T at the edges, also those to which no row of steps leads.
func blocksOk() []impl.Block {
	var out []impl.Block
	for kind := 1; kind <= 5; kind++ {
		for _, n := range nsOf(kind) {
			for _, count := range nsOf(kind) {
				out = append(out, blocksFrom(kind, n, count)...)
			}
		}
	}
	return out
}

// blocksBad are blocks that are not ok, each by one thing alone: by its Kind, by its N, or by its T.
func blocksBad() []impl.Block {
	var out []impl.Block
	for _, kind := range kindsNone {
		for _, n := range []int{0, 1, 1000} {
			out = append(out, blocksFrom(kind, n, 0)...)
			out = append(out, blocksFrom(kind, n, n)...)
		}
	}
	for _, kind := range kindsMeasured {
		for _, bad := range timesBad {
			for _, good := range []int{0, 1, 1000} {
				out = append(out, blocksFrom(kind, bad, good)...)
				out = append(out, blocksFrom(kind, good, bad)...)
			}
		}
	}
	for _, kind := range kindsBare {
		for _, bad := range append([]int{1, 2, 999, 1000}, timesBad...) {
			out = append(out, blocksFrom(kind, bad, 0)...)
			out = append(out, blocksFrom(kind, 0, bad)...)
		}
	}
	return out
}

func TestBlockOk(t *testing.T) {
	for _, b := range blocksBad() {
		if wantBlockOk(b) || impl.BlockOk(b) {
			t.Errorf("BlockOk(%+v)", b)
		}
	}
	for kind := -1; kind <= 13; kind++ {
		for n := -2; n <= 1002; n++ {
			for _, count := range slices.Concat(edgeTimes, timesBad) {
				for _, b := range slices.Concat(blocksFrom(kind, n, count), blocksFrom(kind, count, n)) {
					if got := impl.BlockOk(b); got != wantBlockOk(b) {
						t.Fatalf("BlockOk(%+v) = %v", b, got)
					}
				}
			}
		}
	}
}

// What is just ok, and what is one too much, written out; On and Was make no difference.
func TestBlockOkTable(t *testing.T) {
	for _, c := range []struct {
		kind, n, t int
		ok         bool
	}{
		{1, 0, 0, true}, {1, 1000, 1000, true}, {1, 5, 6, true}, {1, 0, -1, false}, {1, 0, 1001, false}, {1, -1, 0, false}, {1, 1001, 0, false},
		{2, 0, 0, true}, {2, 1000, 1000, true}, {2, 5, 6, true}, {2, 0, -1, false}, {2, 0, 1001, false}, {2, -1, 0, false}, {2, 1001, 0, false},
		{3, 0, 0, true}, {3, 1000, 1000, true}, {3, 5, 6, true}, {3, 0, -1, false}, {3, 0, 1001, false}, {3, -1, 0, false}, {3, 1001, 0, false},
		{4, 0, 0, true}, {4, 0, 1, false}, {4, 1, 0, false}, {4, 1, 1, false}, {4, 0, -1, false}, {4, -1, 0, false},
		{5, 0, 0, true}, {5, 0, 1, false}, {5, 1, 0, false}, {5, 1, 1, false}, {5, 0, -1, false}, {5, -1, 0, false},
		{0, 0, 0, false}, {6, 0, 0, false}, {-1, 0, 0, false}, {0, 1, 1, false}, {6, 1, 1, false}, {-1, 1, 1, false},
	} {
		for _, b := range blocksFrom(c.kind, c.n, c.t) {
			if got := impl.BlockOk(b); got != c.ok {
				t.Errorf("BlockOk(%+v) = %v", b, got)
			}
			got, on := impl.BlockStep(b, false, false, 0)
			if (got.Kind != 0) != c.ok || !c.ok && (got != impl.Block{} || on) {
				t.Errorf("BlockStep(%+v, false, false, 0) = %+v, %v", b, got, on)
			}
		}
	}
}

// stepsOver are all steps over these times.
func stepsOver(times ...int) []stepIn {
	var out []stepIn
	for _, dt := range times {
		for _, x := range bothWays {
			for _, y := range bothWays {
				out = append(out, stepIn{x: x, y: y, dt: dt})
			}
		}
	}
	return out
}

// A block that is not ok is nothing behind a step, and off, whatever the inputs and the time.
func TestBlockStepBad(t *testing.T) {
	for _, b := range blocksBad() {
		for _, s := range stepsOver(0, 1, 1000, -1, 1001) {
			checkStep(t, b, s, impl.Block{})
		}
	}
}

// A block that is ok is nothing behind a time that is none, and off.
func TestBlockStepTimeBad(t *testing.T) {
	for _, b := range blocksOk() {
		for _, s := range stepsOver(timesBad...) {
			checkStep(t, b, s, impl.Block{})
		}
	}
}

// Every block behind one step of every time is as the table says, and ok.
func TestBlockStepTable(t *testing.T) {
	for _, b := range blocksOk() {
		for dt := 0; dt <= 1000; dt++ {
			for _, s := range stepsOver(dt) {
				if got := checkStep(t, b, s, wantStep(b, s)); !impl.BlockOk(got) {
					t.Fatalf("%+v is not ok behind %+v: %+v", b, s, got)
				}
			}
		}
	}
}

// checkRows steps a block on through every row of so many of these steps, each behind the row that led to it.
func checkRows(t *testing.T, b impl.Block, row []stepIn, steps []stepIn, many int) int {
	t.Helper()
	if many == 0 {
		return 1
	}
	rows := 1
	for _, s := range steps {
		longer := append(row, s)
		rows += checkRows(t, checkStep(t, b, s, wantBehind(b.Kind, b.N, longer)), longer, steps, many-1)
	}
	return rows
}

func TestBlockEveryRow(t *testing.T) {
	for kind := 1; kind <= 5; kind++ {
		for n := 0; n <= 6; n++ {
			if kind >= 4 && n > 0 {
				break
			}
			row := make([]stepIn, 0, 8)
			if rows := checkRows(t, impl.BlockNew(kind, n), row, stepsOver(0, 1, 3), 4); rows != 1+12+144+1728+20736 {
				t.Error(rows)
			}
			if rows := checkRows(t, impl.BlockNew(kind, n), row, stepsOver(1), 7); rows != 21845 {
				t.Error(rows)
			}
		}
	}
}

func TestBlockEveryRowFar(t *testing.T) {
	for _, kind := range kindsMeasured {
		for _, n := range edgeTimes {
			checkRows(t, impl.BlockNew(kind, n), make([]stepIn, 0, 8), stepsOver(0, 1, 499, 500, 1000), 3)
		}
	}
}

// Rows of many steps, in which an input stays as it is for a while, and a count or a time goes past its end.
func TestBlockLongRows(t *testing.T) {
	r := rand.New(rand.NewPCG(6, 1))
	for range 300 {
		kind := 1 + r.IntN(5)
		n := nsOf(kind)[r.IntN(len(nsOf(kind)))]
		if kind <= 3 && r.IntN(2) == 0 {
			n = r.IntN(1001)
		}
		stay, seldom, far := 1+r.IntN(20), 1+r.IntN(200), []int{2, 20, 1001}[r.IntN(3)]
		b := impl.BlockNew(kind, n)
		row := []stepIn{}
		x := false
		for range 200 {
			if r.IntN(stay) == 0 {
				x = !x
			}
			row = append(row, stepIn{x: x, y: r.IntN(seldom) == 0, dt: r.IntN(far)})
			b = checkStep(t, b, row[len(row)-1], wantBehind(kind, n, row))
		}
	}
}

// Every N up to the greatest: a delay is on, and a hold off, at the very step at which its time has come, and a
// counter at the very step at which it has counted as far; one ahead of it it is not.
func TestBlockEveryEnd(t *testing.T) {
	on, off := stepIn{x: true, dt: 1}, stepIn{dt: 1}
	for n := 0; n <= 1000; n++ {
		delay, hold, count := impl.BlockNew(1, n), impl.BlockNew(2, n), impl.BlockNew(3, n)
		hold = checkStep(t, hold, on, impl.Block{Kind: 2, N: n, On: true, Was: true})
		for i := 0; i <= 1010; i++ {
			k := min(i, 1000)
			delay = checkStep(t, delay, on, impl.Block{Kind: 1, N: n, On: i >= n, Was: true, T: k})
			hold = checkStep(t, hold, off, impl.Block{Kind: 2, N: n, On: i < n, T: k})
			count = checkStep(t, count, off, impl.Block{Kind: 3, N: n, On: i >= n, T: k})
			count = checkStep(t, count, on, impl.Block{Kind: 3, N: n, On: i+1 >= n, Was: true, T: min(i+1, 1000)})
		}
	}
}

// rowCase is a row of steps, and what the block is behind each of them.
type rowCase struct {
	name    string
	kind, n int
	x, y    string
	dt      []int
	on      string
	t       []int
}

// each is as many times the same.
func each(many int, dt int) []int { return slices.Repeat([]int{dt}, many) }

func checkRow(t *testing.T, c rowCase) {
	t.Helper()
	if many := len(c.x); len(c.y) != many || len(c.dt) != many || len(c.on) != many || len(c.t) != many {
		t.Fatalf("%s: not as long in all its parts", c.name)
	}
	b := impl.BlockNew(c.kind, c.n)
	for i := range c.x {
		s := stepIn{x: c.x[i] == '1', y: c.y[i] == '1', dt: c.dt[i]}
		want := impl.Block{Kind: c.kind, N: c.n, On: c.on[i] == '1', Was: s.x, T: c.t[i]}
		got, on := impl.BlockStep(b, s.x, s.y, s.dt)
		if got != want || on != want.On {
			t.Errorf("%s, step %d: %+v, %v, not %+v, %v", c.name, i, got, on, want, want.On)
			return
		}
		b = got
	}
}

// No time: none that must come, and none that goes by.
func TestBlockNoTime(t *testing.T) {
	for _, c := range []rowCase{
		{"delay of 0, no time", 1, 0, "1101", "0000", each(4, 0), "1101", []int{0, 0, 0, 0}},
		{"delay of 0, off at first", 1, 0, "0011", "0000", each(4, 0), "0011", []int{0, 0, 0, 0}},
		{"delay of 0, time", 1, 0, "1101", "0000", each(4, 5), "1101", []int{0, 5, 0, 0}},
		{"delay of 1, no time", 1, 1, "11110", "00000", each(5, 0), "00000", []int{0, 0, 0, 0, 0}},
		{"delay of 1, time at last", 1, 1, "1111", "0000", []int{0, 0, 1, 0}, "0011", []int{0, 0, 1, 1}},
		{"delay of 1, time at first", 1, 1, "111", "000", []int{1000, 0, 1}, "001", []int{0, 0, 1}},
		{"hold of 0, no time", 2, 0, "1101", "0000", each(4, 0), "1101", []int{0, 0, 0, 0}},
		{"hold of 0, off at first", 2, 0, "0010", "0000", each(4, 0), "0010", []int{0, 0, 0, 0}},
		{"hold of 0, time", 2, 0, "0011000", "0000000", each(7, 5), "0011000", []int{5, 10, 0, 0, 0, 5, 10}},
		{"hold of 1, no time", 2, 1, "010000", "000000", each(6, 0), "011111", []int{0, 0, 0, 0, 0, 0}},
		{"hold of 1, time at last", 2, 1, "10000", "00000", []int{0, 0, 0, 1, 0}, "11100", []int{0, 0, 0, 1, 1}},
		{"hold of 1, time as it goes off", 2, 1, "1000", "0000", []int{0, 1000, 0, 1}, "1110", []int{0, 0, 0, 1}},
		{"hold that never was on", 2, 5, "000", "000", []int{3, 0, 1}, "000", []int{3, 3, 4}},
		{"count of 0, never", 3, 0, "0000", "0000", each(4, 0), "1111", []int{0, 0, 0, 0}},
		{"count of 0, on at first", 3, 0, "1101", "0000", each(4, 0), "1111", []int{1, 1, 1, 2}},
		{"count of 0, back", 3, 0, "0101", "1011", each(4, 7), "1111", []int{0, 1, 0, 0}},
		{"count of 1, no time", 3, 1, "0011", "0000", each(4, 0), "0011", []int{0, 0, 1, 1}},
		{"rise, no time", 4, 0, "1101", "0000", each(4, 0), "1001", []int{0, 0, 0, 0}},
		{"latch, no time", 5, 0, "0100", "0001", each(4, 0), "0110", []int{0, 0, 0, 0}},
	} {
		checkRow(t, c)
	}
}

// An input that is on for one step alone.
func TestBlockOneStepOn(t *testing.T) {
	for _, c := range []rowCase{
		{"delay of 0", 1, 0, "00100", "00000", each(5, 1), "00100", []int{0, 0, 0, 0, 0}},
		{"delay of 1", 1, 1, "00100", "00000", each(5, 1000), "00000", []int{0, 0, 0, 0, 0}},
		{"delay, on and off", 1, 1, "101010", "000000", each(6, 1000), "000000", []int{0, 0, 0, 0, 0, 0}},
		{"hold of 0", 2, 0, "00100", "00000", each(5, 1), "00100", []int{1, 2, 0, 0, 1}},
		{"hold of 2", 2, 2, "0010000", "0000000", each(7, 1), "0011100", []int{1, 2, 0, 0, 1, 2, 3}},
		{"hold, at the first step", 2, 1, "1000", "0000", each(4, 1), "1100", []int{0, 0, 1, 2}},
		{"hold, once more as its time comes", 2, 1, "10010000", "00000000", each(8, 1), "11011000", []int{0, 0, 1, 0, 0, 1, 2, 3}},
		{"count of 1", 3, 1, "0010000", "0000000", each(7, 1), "0011111", []int{0, 0, 1, 1, 1, 1, 1}},
		{"count of 2", 3, 2, "0010000", "0000000", each(7, 1), "0000000", []int{0, 0, 1, 1, 1, 1, 1}},
		{"count, back for one step", 3, 2, "1010101", "0001000", each(7, 1), "0010001", []int{1, 1, 2, 0, 1, 1, 2}},
		{"rise", 4, 0, "0010000", "0000000", each(7, 1), "0010000", each(7, 0)},
		{"rise, at the first step", 4, 0, "1000", "0000", each(4, 1), "1000", each(4, 0)},
		{"latch", 5, 0, "0010000", "0000000", each(7, 1), "0011111", each(7, 0)},
		{"latch, off by one step", 5, 0, "1000000", "0001000", each(7, 1), "1110000", each(7, 0)},
	} {
		checkRow(t, c)
	}
}

// An input that is off for one step alone.
func TestBlockOneStepOff(t *testing.T) {
	for _, c := range []rowCase{
		{"delay of 0", 1, 0, "1110111", "0000000", each(7, 1), "1110111", []int{0, 1, 2, 0, 0, 1, 2}},
		{"delay of 2", 1, 2, "1111011111", "0000000000", each(10, 1), "0011000111", []int{0, 1, 2, 3, 0, 0, 1, 2, 3, 4}},
		{"hold of 0", 2, 0, "1110111", "0000000", each(7, 1), "1110111", each(7, 0)},
		{"hold of 1", 2, 1, "1110111", "0000000", each(7, 1000), "1111111", each(7, 0)},
		{"count of 2", 3, 2, "1110111", "0000000", each(7, 1), "0000111", []int{1, 1, 1, 1, 2, 2, 2}},
		{"count, not back for one step", 3, 1, "1010101", "1101111", each(7, 1), "0010000", []int{0, 0, 1, 0, 0, 0, 0}},
		{"rise", 4, 0, "1110111", "0000000", each(7, 1), "1000100", each(7, 0)},
		{"latch", 5, 0, "1110111", "0000000", each(7, 1), "1111111", each(7, 0)},
		{"latch, not off for one step", 5, 0, "1111111", "1110111", each(7, 1), "0001000", each(7, 0)},
	} {
		checkRow(t, c)
	}
}

// Both inputs on at one step: what comes on there is not counted, also not at the next step, and a latch is off.
func TestBlockBothOn(t *testing.T) {
	for _, c := range []rowCase{
		{"count", 3, 1, "0110100", "0100000", each(7, 1), "0000111", []int{0, 0, 0, 0, 1, 1, 1}},
		{"count, at the first step", 3, 1, "1101", "1000", each(4, 1), "0001", []int{0, 0, 0, 1}},
		{"count of 0", 3, 0, "0110", "0110", each(4, 1), "1111", []int{0, 0, 0, 0}},
		{"count, past its end", 3, 2, "10101011", "00000010", each(8, 1), "00111100", []int{1, 1, 2, 2, 3, 3, 0, 0}},
		{"latch", 5, 0, "0110000", "0100000", each(7, 1), "0011111", each(7, 0)},
		{"latch, at the first step", 5, 0, "1000", "1000", each(4, 1), "0000", each(4, 0)},
		{"latch, put off", 5, 0, "1001000", "0001000", each(7, 1), "1110000", each(7, 0)},
	} {
		checkRow(t, c)
	}
}

// The second input, and the time, of a Kind that goes by neither make no difference.
func TestBlockOtherInputs(t *testing.T) {
	for _, b := range blocksOk() {
		for _, x := range bothWays {
			want := wantStep(b, stepIn{x: x, dt: 1})
			if b.Kind != 3 && b.Kind != 5 {
				checkStep(t, b, stepIn{x: x, y: true, dt: 1}, want)
			}
			if b.Kind >= 3 {
				checkStep(t, b, stepIn{x: x, dt: 0}, want)
				checkStep(t, b, stepIn{x: x, dt: 1000}, want)
			}
		}
	}
}

// endCase is a block with a T, what comes to it, and the T and whether it is on behind the step.
type endCase struct {
	n, t int
	was  bool
	s    stepIn
	then int
	on   bool
}

func checkEnds(t *testing.T, kind int, cases []endCase) {
	t.Helper()
	for _, c := range cases {
		for _, on := range bothWays {
			b := impl.Block{Kind: kind, N: c.n, On: on, Was: c.was, T: c.t}
			checkStep(t, b, c.s, impl.Block{Kind: kind, N: c.n, On: c.on, Was: c.s.x, T: c.then})
		}
	}
}

// A count one below its end, at it, and above it; and at the greatest count there is.
func TestBlockCountEnd(t *testing.T) {
	off, on, back, both := stepIn{dt: 1}, stepIn{x: true, dt: 1}, stepIn{y: true, dt: 1}, stepIn{x: true, y: true, dt: 1}
	checkEnds(t, 3, []endCase{
		{3, 2, false, off, 2, false}, {3, 2, false, on, 3, true}, {3, 2, true, on, 2, false}, {3, 2, true, off, 2, false},
		{3, 3, false, off, 3, true}, {3, 3, false, on, 4, true}, {3, 3, true, on, 3, true}, {3, 3, true, off, 3, true},
		{3, 4, false, off, 4, true}, {3, 4, false, on, 5, true}, {3, 4, true, on, 4, true}, {3, 4, true, off, 4, true},
		{3, 3, false, back, 0, false}, {3, 3, false, both, 0, false}, {3, 4, true, back, 0, false}, {3, 4, true, both, 0, false},
		{1000, 998, false, on, 999, false}, {1000, 999, false, on, 1000, true}, {1000, 1000, false, on, 1000, true},
		{1000, 999, true, on, 999, false}, {1000, 1000, true, off, 1000, true}, {1000, 1000, false, both, 0, false},
		{999, 998, false, on, 999, true}, {999, 999, false, on, 1000, true}, {999, 1000, false, on, 1000, true},
		{0, 1000, false, on, 1000, true}, {0, 1000, true, off, 1000, true}, {0, 1000, false, both, 0, true},
	})
}

// A time at the greatest that there is, and what would make it more, by one and by far.
func TestBlockTimeEnd(t *testing.T) {
	on := func(dt int) stepIn { return stepIn{x: true, dt: dt} }
	checkEnds(t, 1, []endCase{
		{1000, 999, true, on(0), 999, false}, {1000, 999, true, on(1), 1000, true}, {1000, 999, true, on(2), 1000, true}, {1000, 999, true, on(1000), 1000, true},
		{1000, 1000, true, on(0), 1000, true}, {1000, 1000, true, on(1), 1000, true}, {1000, 1000, true, on(1000), 1000, true},
		{1000, 0, true, on(999), 999, false}, {1000, 0, true, on(1000), 1000, true}, {1000, 1, true, on(998), 999, false}, {1000, 1, true, on(999), 1000, true}, {1000, 1, true, on(1000), 1000, true},
		{1000, 1000, false, on(1000), 0, false}, {0, 1000, false, on(1000), 0, true}, {5, 4, true, on(0), 4, false}, {5, 4, true, on(1), 5, true}, {5, 5, true, on(0), 5, true}, {5, 6, true, on(1), 7, true},
	})
}

// The same of a hold, which must have been on to be so still.
func TestBlockHoldEnd(t *testing.T) {
	for _, c := range []endCase{
		{1000, 999, false, stepIn{dt: 0}, 999, true}, {1000, 999, false, stepIn{dt: 1}, 1000, false}, {1000, 999, false, stepIn{dt: 2}, 1000, false}, {1000, 999, false, stepIn{dt: 1000}, 1000, false},
		{1000, 1000, false, stepIn{dt: 0}, 1000, false}, {1000, 1000, false, stepIn{dt: 1}, 1000, false}, {1000, 1000, false, stepIn{dt: 1000}, 1000, false},
		{1000, 0, false, stepIn{dt: 999}, 999, true}, {1000, 0, false, stepIn{dt: 1000}, 1000, false}, {1000, 1, false, stepIn{dt: 998}, 999, true}, {1000, 1, false, stepIn{dt: 999}, 1000, false},
		{1000, 1000, true, stepIn{dt: 1000}, 0, true}, {0, 1000, true, stepIn{dt: 1000}, 0, false}, {1, 1000, true, stepIn{dt: 1000}, 0, true},
		{5, 3, false, stepIn{dt: 1}, 4, true}, {5, 4, false, stepIn{dt: 1}, 5, false}, {5, 5, false, stepIn{dt: 0}, 5, false}, {5, 4, false, stepIn{dt: 0}, 4, true},
	} {
		b := impl.Block{Kind: 2, N: c.n, On: true, Was: c.was, T: c.t}
		want := impl.Block{Kind: 2, N: c.n, On: c.on, T: c.then}
		checkStep(t, b, c.s, want)
		b.On, want.On = false, false
		checkStep(t, b, c.s, want)
		c.s.x = true
		checkStep(t, b, c.s, impl.Block{Kind: 2, N: c.n, On: true, Was: true})
	}
}

// A step of one block turns nothing of another: many, stepped by turns, are each as if it were alone.
func TestBlockApart(t *testing.T) {
	r := rand.New(rand.NewPCG(6, 2))
	var blocks []impl.Block
	for kind := 1; kind <= 5; kind++ {
		for _, n := range nsOf(kind) {
			blocks = append(blocks, impl.BlockNew(kind, n), impl.BlockNew(kind, n))
		}
	}
	rows := make([][]stepIn, len(blocks))
	for range 5000 {
		i := r.IntN(len(blocks))
		s := stepIn{x: r.IntN(2) == 0, y: r.IntN(6) == 0, dt: []int{0, 1, 2, 250, 1000}[r.IntN(5)]}
		before := slices.Clone(blocks)
		rows[i] = append(rows[i], s)
		got := checkStep(t, blocks[i], s, wantBehind(blocks[i].Kind, blocks[i].N, rows[i]))
		if !slices.Equal(blocks, before) {
			t.Fatalf("a step of %+v turned another one", before[i])
		}
		blocks[i] = got
	}
}
