package tests

import (
	"maps"
	"math"
	"math/rand/v2"
	"reflect"
	"slices"
	"strconv"
	"strings"
	"testing"

	"loop.example/stopgate/impl"
)

// layers is how a program, a net and a chart are done.
type layers struct {
	run   runList
	net   func(n impl.Net, s impl.State, m impl.Mem, dt int) (impl.State, impl.Mem)
	chart func(c impl.Chart, k impl.Marks, m impl.Mem) (impl.Marks, impl.Mem)
}

// The layers of the program, and those that the tests have of their own.
var (
	givenLayers = layers{run: impl.StmtsRun, net: impl.NetStep, chart: impl.ChartStep}
	ownLayers   = layers{run: wantRun, net: wantNetStep, chart: wantChartStep}
)

// scanCall is a way to scan.
type scanCall func(p impl.Plc, in []int, dt int) (impl.Plc, []int)

// scans are both ways to scan, by their names.
var scans = map[string]scanCall{"PlcScan": impl.PlcScan, "PlcCode": impl.PlcCode}

// far are numbers that are too great, just so and by far.
var far = []int{1000001, 1000002, -1000001, -1000002, 2000000, -2000000, 1 << 31, -1 << 31, 1<<32 + 5, -1<<32 - 5, math.MaxInt - 1, math.MinInt + 1, math.MaxInt, math.MinInt}

// insOf are some rows of numbers that come in, none among them.
var insOf = [][]int{nil, {}, {1}, {0, 1}, {0, 0, 0, 1}, {5, -5, 1, 0, 7, 9}, {1, 1, 1, 1, 1, 1}, {1000000, -1000000, 1000001, -1000001, math.MaxInt, math.MinInt}}

// insTooMany are more numbers than may come in.
var insTooMany = [][]int{make([]int, 7), {1, 2, 3, 4, 5, 6, 7}, make([]int, 8), make([]int, 12), make([]int, 300)}

func copyPlc(p impl.Plc) impl.Plc {
	return impl.Plc{
		Prog: copyStmts(p.Prog), Net: copyNet(p.Net), Chart: copyChart(p.Chart), State: copyState(p.State), Marks: copyMarks(p.Marks),
		Mem: copyMem(p.Mem), Fault: p.Fault, Scans: p.Scans,
	}
}

// samePlc says whether two controllers are the same in all parts, told apart from the program; both must end.
func samePlc(a impl.Plc, b impl.Plc) bool {
	return sameStmts(a.Prog, b.Prog) && sameNet(a.Net, b.Net) && sameChart(a.Chart, b.Chart) && sameState(a.State, b.State) &&
		sameMarks(a.Marks, b.Marks) && sameMem(a.Mem, b.Mem) && a.Fault == b.Fault && a.Scans == b.Scans
}

func isNoPlc(p impl.Plc) bool {
	return len(p.Prog) == 0 && isNoNet(p.Net) && isNoChart(p.Chart) && isNoState(p.State) && isNoMarks(p.Marks) && isNothing(p.Mem) && !p.Fault && p.Scans == 0
}

// cutTo is a number within its bounds, told apart from the program.
func cutTo(n int) int {
	switch {
	case n > 1000000:
		return 1000000
	case n < -1000000:
		return -1000000
	}
	return n
}

// wantCame is what came in, once these numbers did.
func wantCame(in []int) []int {
	out := make([]int, 6)
	for i, n := range in {
		out[i] = cutTo(n)
	}
	return out
}

// wantMemOk, wantStateOk and wantMarksOk say whether these are ok, in a net and a chart that are, told apart from the
// program.
func wantMemOk(m impl.Mem) bool {
	for kind := 1; kind <= 3; kind++ {
		list := *listOf(&m, kind)
		if len(list) != 6 || slices.ContainsFunc(list, func(n int) bool { return cutTo(n) != n }) {
			return false
		}
	}
	return true
}

func wantStateOk(n impl.Net, s impl.State) bool {
	if len(s.Last) != len(n.Wires) || len(s.Blocks) != len(n.Wires) {
		return false
	}
	for i, first := range wantNew(n).Blocks {
		b := s.Blocks[i]
		if first == (impl.Block{}) && b != first || first != (impl.Block{}) && (!wantBlockOk(b) || b.Kind != first.Kind || b.N != first.N) {
			return false
		}
	}
	return true
}

func wantMarksOk(c impl.Chart, k impl.Marks) bool { return len(k.On) == c.Steps && len(k.Kept) == 6 }

// wantFit says whether the three fit. No program has more code than there may be.
func wantFit(prog []impl.Stmt, n impl.Net, c impl.Chart) bool {
	return impl.StmtsOk(prog) && wantNetOk(n) && wantChartOk(c)
}

func wantPlcOk(p impl.Plc) bool {
	return wantFit(p.Prog, p.Net, p.Chart) && wantStateOk(p.Net, p.State) && wantMarksOk(p.Chart, p.Marks) && wantMemOk(p.Mem) && p.Scans >= 0 && p.Scans <= 1000000
}

// wantPlcNew is the controller of three that fit, ahead of its first scan.
func wantPlcNew(prog []impl.Stmt, n impl.Net, c impl.Chart) impl.Plc {
	zeros := impl.Mem{In: make([]int, 6), Out: make([]int, 6), Var: make([]int, 6)}
	return impl.Plc{Prog: prog, Net: n, Chart: c, State: wantNew(n), Marks: wantFirst(c), Mem: zeros}
}

// wantSafe is a controller behind a scan that goes wrong.
func wantSafe(p impl.Plc) impl.Plc {
	p = copyPlc(p)
	p.Fault, p.Mem.Out = true, make([]int, 6)
	p.Scans = min(p.Scans+1, 1000000)
	return p
}

// wantScan is a controller behind a scan, and what comes out, told apart from the program, out of these layers.
func wantScan(l layers, p impl.Plc, in []int, dt int) (impl.Plc, []int) {
	if !wantPlcOk(p) || len(in) > 6 || dt < 0 || dt > 1000 {
		return impl.Plc{}, nil
	}
	if p.Fault {
		return wantSafe(p), make([]int, 6)
	}
	came := copyMem(p.Mem)
	came.In = wantCame(in)
	done, end, _ := l.run(came, p.Prog, 60)
	if end != 0 {
		return wantSafe(p), make([]int, 6)
	}
	s, wired := l.net(p.Net, p.State, done, dt)
	k, all := l.chart(p.Chart, p.Marks, wired)
	then := copyPlc(p)
	then.State, then.Marks, then.Mem = s, k, all
	then.Scans = min(p.Scans+1, 1000000)
	return then, slices.Clone(all.Out)
}

// wantFall is a controller that is ok once it fell, and is up again.
func wantFall(p impl.Plc) impl.Plc {
	up := wantPlcNew(p.Prog, p.Net, p.Chart)
	up.Mem.Var = slices.Clone(p.Mem.Var)
	return up
}

// plcText tells a controller whose three are ok.
func plcText(p impl.Plc) string {
	return strings.Join([]string{wantStmtsText(p.Prog), wantNetText(p.Net), wantChartText(p.Chart)}, " | ")
}

// plcOf is a controller of three texts, ahead of its first scan.
func plcOf(t *testing.T, prog string, net string, chart string) impl.Plc {
	t.Helper()
	list, ok := impl.StmtsRead(prog)
	n, okNet := impl.NetRead(net)
	c, okChart := impl.ChartRead(chart)
	p := impl.PlcNew(list, n, c)
	if !ok || !okNet || !okChart || !impl.PlcOk(p) {
		t.Fatalf("%q (%v), %q (%v), %q (%v): PlcOk = %v", prog, ok, net, okNet, chart, okChart, impl.PlcOk(p))
	}
	return p
}

// checkScanOf holds both ways to scan against a controller and what comes out.
func checkScanOf(t *testing.T, p impl.Plc, in []int, dt int, want impl.Plc, wantOut []int) {
	t.Helper()
	for name, scan := range scans {
		got, out := scan(p, in, dt)
		if !samePlc(got, want) || !slices.Equal(out, wantOut) {
			t.Fatalf("%s of %q, %+v, %v, %d = %+v, %v, not %+v, %v", name, plcText(p), p, in, dt, got, out, want, wantOut)
		}
		if !impl.PlcSame(got, want) || !slices.Equal(got.Mem.Out, out) || impl.PlcOk(got) != wantPlcOk(want) {
			t.Fatalf("%s of %q, %+v, %v, %d = %+v, which is not itself, or not ok", name, plcText(p), p, in, dt, got)
		}
	}
}

// checkScan is a controller behind one scan, which is asked for in both ways, and twice.
func checkScan(t *testing.T, p impl.Plc, in []int, dt int) (impl.Plc, []int) {
	t.Helper()
	want, wantOut := wantScan(givenLayers, p, in, dt)
	checkScanOf(t, p, in, dt, want, wantOut)
	checkScanOf(t, p, in, dt, want, wantOut)
	return impl.PlcScan(p, in, dt)
}

// checkFall is a controller that is ok once it fell, which is asked for twice.
func checkFall(t *testing.T, p impl.Plc) impl.Plc {
	t.Helper()
	want := wantFall(p)
	for range 2 {
		if got := impl.PlcFall(p); !samePlc(got, want) || !impl.PlcSame(got, want) || !impl.PlcOk(got) {
			t.Fatalf("PlcFall of %q, %+v = %+v, not %+v", plcText(p), p, got, want)
		}
	}
	return impl.PlcFall(p)
}

// checkNoScan says that a scan leaves nothing, and that nothing comes out, in both ways.
func checkNoScan(t *testing.T, name string, p impl.Plc, in []int, dt int) {
	t.Helper()
	for way, scan := range scans {
		if got, out := scan(p, in, dt); !isNoPlc(got) || len(out) != 0 {
			t.Errorf("%s: %s = %+v, %v", name, way, got, out)
		}
	}
}

// checkPlcBad asks all functions of a controller that is not ok.
func checkPlcBad(t *testing.T, name string, p impl.Plc) {
	t.Helper()
	if impl.PlcOk(p) {
		t.Errorf("%s: PlcOk", name)
	}
	checkNoScan(t, name, p, nil, 0)
	checkNoScan(t, name, p, []int{1, 2, 3, 4, 5, 6}, 1)
	if got := impl.PlcFall(p); !isNoPlc(got) {
		t.Errorf("%s: PlcFall = %+v", name, got)
	}
}

// someProg is a program, most often one that ends in time.
func someProg(r *rand.Rand) []impl.Stmt {
	for {
		list := someStmts(r, 16, 3)
		if _, end, _ := impl.StmtsRun(someMem(r), list, 60); end == 0 || r.IntN(5) == 0 {
			return list
		}
	}
}

// somePlc is a controller ahead of its first scan.
func somePlc(r *rand.Rand) impl.Plc {
	return wantPlcNew(someProg(r), someNet(r, r.IntN(9)), someChart(r, 1+r.IntN(6), r.IntN(7), r.IntN(7)))
}

// someKept is the same controller with anything kept in it that may be, also what no row of scans leads to.
func someKept(r *rand.Rand, p impl.Plc) impl.Plc {
	p = copyPlc(p)
	for i, w := range p.Net.Wires {
		p.State.Blocks[i], p.State.Last[i] = someBlock(r, w), r.IntN(2) == 0
	}
	p.Marks, p.Mem = someMarks(r, p.Chart), someMem(r)
	p.Fault = r.IntN(6) == 0
	p.Scans = []int{0, 1, 7, 999998, 999999, 1000000, r.IntN(1000001)}[r.IntN(7)]
	return p
}

// someIn is some numbers that come in, at most as many as may.
func someIn(r *rand.Rand) []int {
	var in []int
	for range r.IntN(7) {
		n := []int{0, 0, 0, 1, 1, -1, 2, 9, r.IntN(2000001) - 1000000}[r.IntN(9)]
		if r.IntN(12) == 0 {
			n = far[r.IntN(len(far))]
		}
		in = append(in, n)
	}
	return in
}

// greatestProg is a program whose code is as long as any: of a statement, with all its parts, none has more than 16
// instructions.
func greatestProg() []impl.Stmt {
	return slices.Repeat(stmts(while(part(10, tree(7)))), 16)
}

// plcsOk are many controllers ahead of their first scan: nothing in all three, programs, nets and charts of all kinds,
// with nothing in the others and with much, and more.
func plcsOk() []impl.Plc {
	idle, full := charted(1), fullChart(6, 6, 6)
	out := []impl.Plc{
		wantPlcNew(nil, impl.Net{}, idle), wantPlcNew([]impl.Stmt{}, impl.Net{Wires: []impl.Wire{}, Drives: []impl.Drive{}}, impl.Chart{Steps: 1, Trans: []impl.Trans{}, Acts: []impl.Act{}}),
		wantPlcNew(flat(16), fullNet(8, 4), full), wantPlcNew(greatestProg(), fullNet(8, 4), full), wantPlcNew(greatestProg(), impl.Net{}, idle),
	}
	for i, list := range stmtsOk() {
		if i%9 == 0 {
			out = append(out, wantPlcNew(list, impl.Net{}, idle))
		} else if i%9 == 1 {
			out = append(out, wantPlcNew(list, fullNet(8, 4), full))
		}
	}
	for i, n := range netsOk() {
		if i%20 == 0 {
			out = append(out, wantPlcNew(nil, n, idle), wantPlcNew(flat(12), n, full))
		}
	}
	for i, c := range chartsOk() {
		if i%16 == 0 {
			out = append(out, wantPlcNew(nil, impl.Net{}, c), wantPlcNew(flat(12), fullNet(8, 4), c))
		}
	}
	r := rand.New(rand.NewPCG(1, 9))
	for range 900 {
		out = append(out, somePlc(r))
	}
	return out
}

func TestPlcNames(t *testing.T) {
	if impl.PlcFuel != 60 || impl.PlcMost != 1000000 {
		t.Error(impl.PlcFuel, impl.PlcMost)
	}
}

// A controller ahead of its first scan.
func TestPlcNew(t *testing.T) {
	for _, want := range plcsOk() {
		for range 2 {
			got := impl.PlcNew(want.Prog, want.Net, want.Chart)
			if !samePlc(got, want) || !impl.PlcSame(got, want) || !impl.PlcSame(want, got) {
				t.Fatalf("PlcNew of %q = %+v, not %+v", plcText(want), got, want)
			}
			if !impl.PlcOk(got) || !impl.PlcOk(want) || !wantPlcOk(want) {
				t.Fatalf("PlcOk of %q = %v", plcText(want), impl.PlcOk(got))
			}
		}
	}
}

// checkPlcRow scans so often; what goes wrong falls at once, or behind some more scans.
func checkPlcRow(t *testing.T, p impl.Plc, many int, r *rand.Rand) (fine int, safe int) {
	t.Helper()
	for range many {
		if p.Fault && r.IntN(2) == 0 {
			p = checkFall(t, p)
		}
		p, _ = checkScan(t, p, someIn(r), someTime(r))
		fine, safe = fine+wantIs(!p.Fault), safe+wantIs(p.Fault)
	}
	return fine, safe
}

// Promise 9, from the first scan on.
func TestPlcScanMany(t *testing.T) {
	r := rand.New(rand.NewPCG(2, 9))
	fine, safe := 0, 0
	for _, p := range plcsOk() {
		n, wrong := checkPlcRow(t, p, 9, r)
		fine, safe = fine+n, safe+wrong
	}
	if fine < 12000 || safe < 2000 {
		t.Errorf("only %d were fine, %d safe", fine, safe)
	}
}

// Promise 9, from anything kept on, and held against layers of the tests' own, too.
func TestPlcScanAnyKept(t *testing.T) {
	r := rand.New(rand.NewPCG(3, 9))
	fine, safe := 0, 0
	for range 1500 {
		p := someKept(r, somePlc(r))
		for range 3 {
			in, dt := someIn(r), someTime(r)
			want, wantOut := wantScan(ownLayers, p, in, dt)
			checkScanOf(t, p, in, dt, want, wantOut)
			checkFall(t, p)
			p, _ = checkScan(t, p, in, dt)
			fine, safe = fine+wantIs(!p.Fault), safe+wantIs(p.Fault)
		}
	}
	if fine < 2500 || safe < 400 {
		t.Errorf("only %d were fine, %d safe", fine, safe)
	}
}

// scanInOrder scans a controller that is ok and has no Fault, with the three in another order; a step of one of them is
// `p`, `n` or `c`. What takes too long goes no further.
func scanInOrder(p impl.Plc, in []int, dt int, order string) (impl.Plc, bool) {
	p = copyPlc(p)
	p.Mem.In = wantCame(in)
	for _, step := range order {
		switch step {
		case 'p':
			m, end, _ := impl.StmtsRun(p.Mem, p.Prog, 60)
			if end != 0 {
				return p, false
			}
			p.Mem = m
		case 'n':
			p.State, p.Mem = impl.NetStep(p.Net, p.State, p.Mem, dt)
		case 'c':
			p.Marks, p.Mem = impl.ChartStep(p.Chart, p.Marks, p.Mem)
		}
	}
	p.Scans++
	return p, true
}

// The order of the three: it is this one, and any other one is another thing often enough to be told by these
// controllers.
func TestPlcScanOrder(t *testing.T) {
	r := rand.New(rand.NewPCG(4, 9))
	others := map[string]int{"pcn": 0, "npc": 0, "ncp": 0, "cpn": 0, "cnp": 0, "pnnc": 0, "pncc": 0, "ppnc": 0, "nc": 0, "pc": 0, "pn": 0}
	for range 1500 {
		p := someKept(r, somePlc(r))
		p.Fault, p.Scans = false, 0
		for range 4 {
			in, dt := someIn(r), someTime(r)
			want, ends := scanInOrder(p, in, dt, "pnc")
			if !ends {
				break
			}
			for order := range others {
				other, _ := scanInOrder(p, in, dt, order)
				others[order] += wantIs(!samePlc(other, want))
			}
			checkScanOf(t, p, in, dt, want, want.Mem.Out)
			p = want
			p.Scans = 0
		}
	}
	for order, many := range others {
		if many < 100 {
			t.Errorf("the order %s is told only %d times", order, many)
		}
	}
}

// scanRow is what comes out at each scan, of a controller of three texts; at each what comes in, a sign each, and a dt
// of 1.
type scanRow struct{ prog, net, chart, ins, want string }

func checkScanRow(t *testing.T, row scanRow) {
	t.Helper()
	p := plcOf(t, row.prog, row.net, row.chart)
	var got []string
	for _, word := range strings.Split(row.ins, " ") {
		then, out := checkScan(t, p, steps(word), 1)
		p = then
		got = append(got, strings.ReplaceAll(numText(out), ",", ""))
	}
	if text := strings.Join(got, " "); text != row.want {
		t.Errorf("%q, %q, %q of %s: %s, not %s", row.prog, row.net, row.chart, row.ins, text, row.want)
	}
}

// What each of the three puts is seen by those behind it at the same scan, by those ahead of it at the next one.
func TestPlcScanRows(t *testing.T) {
	const idle = "steps 1"
	const from = "steps 2 ; 0 > 1 when i0 ; 1 > 0 when not i0 ; with 1 o0"
	for _, row := range []scanRow{
		// What comes in is seen by each.
		{"set o0 i0 ; set o5 i5", "-", idle, "1 23 000004 9", "100000 200000 000004 900000"},
		{"-", "and i0 !i1 ; to o0 w0", idle, "1 11 01 2", "100000 000000 000000 100000"},
		{"-", "-", "steps 2 ; 0 > 1 when i0 ; 1 > 0 when i1 ; with 1 o0", "0 1 0 11 1", "000000 100000 100000 000000 100000"},
		{"set o0 add o0 i0", "-", idle, "1 2 3", "100000 300000 600000"},
		// What the program puts.
		{"set v0 i0", "or v0 v0 ; to o0 w0", idle, "1 0 1", "100000 000000 100000"},
		{"set v0 i0", "-", "steps 2 ; 0 > 1 when v0 ; 1 > 0 when 1 ; with 1 o0", "0 1 0 1", "000000 100000 000000 100000"},
		{"set o1 i0", "or o1 o1 ; to o0 w0", "steps 2 ; 0 > 1 when o1 ; with 1 o2", "0 3 0", "000000 131000 001000"},
		// What the net puts.
		{"-", "or i0 i0 ; to v0 w0", "steps 2 ; 0 > 1 when v0 ; 1 > 0 when 1 ; with 1 o0", "0 1 0 1", "000000 100000 000000 100000"},
		{"set o1 v0", "or i0 i0 ; to v0 w0", idle, "0 1 0 0 2 3", "000000 000000 010000 000000 000000 010000"},
		{"set o1 o0", "or i0 i0 ; to o0 w0", idle, "0 1 0 0", "000000 100000 010000 000000"},
		// What the chart puts.
		{"set o1 o0", "-", from, "0 1 0 0", "000000 100000 010000 000000"},
		{"-", "or o0 o0 ; to o1 w0", from, "0 1 0 0", "000000 100000 010000 000000"},
		{"set o1 o0", "or o1 o1 ; to o2 w0", from, "0 1 0 0", "000000 100000 011000 000000"},
		// A place that one of them puts, or two, or all three.
		{"set o0 5", "-", idle, "0 0", "500000 500000"},
		{"set o0 5", "or i0 i0 ; to o0 w0", idle, "0 1 0", "000000 100000 000000"},
		{"set o0 5", "-", "steps 1 ; with 0 o0", "0 0", "100000 100000"},
		{"-", "or i0 i0 ; to o0 w0", "steps 2 ; with 1 o0", "0 1", "000000 000000"},
		{"set o0 5", "or i0 i0 ; to o0 w0", "steps 2 ; with 1 o0", "0 1", "000000 000000"},
		{"set o0 5", "or i0 i0 ; to o0 w0", "steps 1 ; with 0 o0", "0 1", "100000 100000"},
		{"set o1 o0 ; set o0 5", "or o0 o0 ; and i0 i0 ; to o0 w1 ; to o2 w0", "steps 2 ; 0 > 1 when o0 ; 1 > 0 when not o0 ; with 0 o0 ; with 1 o3", "0 1 0 1", "101000 011100 101000 011100"},
		// What goes wrong, for good.
		{"if same i0 9 [ set o1 1 ; while 1 [ set o2 1 ] ] [ set o0 i0 ]", "-", idle, "1 9 1 2 9", "100000 000000 000000 000000 000000"},
		{"set o0 i0 ; if same i0 9 [ while 1 [ - ] ] [ - ]", "or i0 i0 ; to o1 w0", "steps 1 ; with 0 o2", "1 9 1 2 9", "111000 000000 000000 000000 000000"},
	} {
		checkScanRow(t, row)
	}
}

// wrongProgs are programs that put numbers at places of all that they may, and then take too much, whatever comes in and
// whatever is kept.
func wrongProgs() map[string][]impl.Stmt {
	out := map[string][]impl.Stmt{}
	for name, text := range map[string]string{
		"behind some":          "set o0 51 ; set o5 52 ; set v0 53 ; set v5 54 ; while 1 [ - ]",
		"in a loop":            "while 1 [ set o0 add o0 1 ; set v0 sub v0 1 ; set o1 v0 ; set v1 i0 ]",
		"ahead of some":        "set v2 5 ; while 1 [ set v2 v2 ] ; set o0 5 ; set v0 5",
		"one round too many":   "set v0 0 ; while less v0 61 [ set v0 add v0 1 ; set o2 v0 ] ; set o3 1",
		"loops one too many":   "set v0 0 ; set v1 0 ; while less v0 30 [ set v0 add v0 1 ] ; set o4 7 ; while less v1 31 [ set v1 add v1 1 ]",
		"loops within loops":   "set v0 0 ; while less v0 6 [ set v1 0 ; while less v1 10 [ set v1 add v1 1 ; set o1 v1 ] ; set v0 add v0 1 ]",
		"within what is so":    "if same i0 i0 [ set o0 1 ; set v3 -9 ; while not 0 [ set o0 sub 0 o0 ] ] [ set o1 1 ]",
		"all places":           "set o0 1 ; set o1 2 ; set o2 3 ; set o3 4 ; set o4 5 ; set o5 6 ; set v0 7 ; set v1 8 ; set v2 9 ; set v3 10 ; set v4 11 ; set v5 12 ; while 1 [ - ]",
		"what came in is kept": "set v0 i0 ; set v1 i1 ; set v2 i2 ; set v3 i3 ; set v4 i4 ; set v5 i5 ; set o0 i0 ; while -1 [ - ]",
	} {
		out[name], _ = impl.StmtsRead(text)
	}
	return out
}

// checkStaysSafe scans again and again, with anything coming in: nothing is turned but Scans, and nothing comes out.
func checkStaysSafe(t *testing.T, name string, p impl.Plc, r *rand.Rand) {
	t.Helper()
	was := copyPlc(p)
	for i := range 20 {
		in := someIn(r)
		if i < len(insOf) {
			in = insOf[i]
		}
		was.Scans = min(was.Scans+1, 1000000)
		checkScanOf(t, p, in, someTime(r), was, make([]int, 6))
		scan := scans[[]string{"PlcScan", "PlcCode"}[i%2]]
		then, out := scan(p, in, someTime(r))
		if !samePlc(then, was) || !slices.Equal(out, make([]int, 6)) || !then.Fault {
			t.Fatalf("%s, scan %d: %+v, %v, not %+v", name, i, then, out, was)
		}
		p = then
	}
}

// A fault behind places that were set: all is as it was ahead of the scan, but that nothing comes out, for good.
func TestPlcFault(t *testing.T) {
	r := rand.New(rand.NewPCG(5, 9))
	for name, prog := range wrongProgs() {
		if !impl.StmtsOk(prog) || len(prog) == 0 {
			t.Fatal(name)
		}
		for range 30 {
			p := someKept(r, somePlc(r))
			p.Prog, p.Fault = prog, false
			p.Mem = memOf()
			for _, in := range append([][]int{someIn(r)}, insOf...) {
				want := copyPlc(p)
				want.Fault, want.Mem.Out, want.Scans = true, []int{0, 0, 0, 0, 0, 0}, min(p.Scans+1, 1000000)
				checkScanOf(t, p, in, someTime(r), want, []int{0, 0, 0, 0, 0, 0})
				if got, _ := impl.PlcScan(p, in, 1); !slices.Equal(got.Mem.In, memOf().In) || !slices.Equal(got.Mem.Var, memOf().Var) {
					t.Fatalf("%s: %v is left of %v", name, got.Mem, memOf())
				}
			}
			then, _ := impl.PlcScan(p, []int{1, 2}, 1)
			checkStaysSafe(t, name, then, r)
			// It is not the program that keeps it safe.
			then.Prog = flat(3)
			checkStaysSafe(t, name+", with another program", then, r)
		}
	}
}

// Fault set is what keeps it safe, whatever led to it; Out need not be 0 ahead of the scan.
func TestPlcFaultSet(t *testing.T) {
	r := rand.New(rand.NewPCG(6, 9))
	for i, p := range plcsOk() {
		if i%5 > 0 {
			continue
		}
		p = someKept(r, p)
		p.Fault, p.Mem = true, memOf()
		want := copyPlc(p)
		want.Mem.Out = []int{0, 0, 0, 0, 0, 0}
		want.Scans = min(p.Scans+1, 1000000)
		checkScanOf(t, p, someIn(r), someTime(r), want, []int{0, 0, 0, 0, 0, 0})
		checkStaysSafe(t, plcText(p), want, r)
	}
}

// A fault at the scan behind some that were fine, at any of them, and a fall behind it.
func TestPlcFaultLater(t *testing.T) {
	r := rand.New(rand.NewPCG(7, 9))
	wrong := stmts(set(o0, num(3)), more(v0), when(inAt(5), stmts(set(v1, num(9)), while(num(1), more(v2))), nil), set(o5, at(v0)))
	for i := range 300 {
		p := somePlc(r)
		p.Prog = wrong
		for range i % 12 {
			in := append(someIn(r), 0, 0, 0, 0, 0, 0)[:6]
			in[5] = 0
			p, _ = checkScan(t, p, in, someTime(r))
			if p.Fault {
				t.Fatalf("%q: a fault, of %v", plcText(p), in)
			}
		}
		then, out := checkScan(t, p, []int{1, 2, 3, 4, 5, -1}, 1)
		want := wantSafe(p)
		if !samePlc(then, want) || !slices.Equal(out, make([]int, 6)) || then.Scans != i%12+1 {
			t.Fatalf("%q: %+v, %v, not %+v", plcText(p), then, out, want)
		}
		checkStaysSafe(t, plcText(p), then, r)
		up := checkFall(t, then)
		if !slices.Equal(up.Mem.Var, p.Mem.Var) {
			t.Fatalf("%q: %v is kept over a fall, not %v", plcText(p), up.Mem.Var, p.Mem.Var)
		}
		up, out = checkScan(t, up, []int{7}, 1)
		if up.Fault || up.Scans != 1 || !slices.Equal(up.Mem.In, []int{7, 0, 0, 0, 0, 0}) || !slices.Equal(out, up.Mem.Out) {
			t.Fatalf("%q: %+v, %v behind a fall", plcText(p), up, out)
		}
	}
}

// checkRounds is a scan that takes so much fuel: fine up to 60.
func checkRounds(t *testing.T, p impl.Plc, in []int, need int) impl.Plc {
	t.Helper()
	then, out := checkScan(t, p, in, 1)
	if then.Fault != (need > 60) {
		t.Errorf("%q takes %d of the fuel: Fault is %v", plcText(p), need, then.Fault)
	}
	if then.Fault && !slices.Equal(out, make([]int, 6)) || !then.Fault && out[5] != 77 {
		t.Errorf("%q takes %d of the fuel: %v", plcText(p), need, out)
	}
	return then
}

// Fuel that is just enough, and one round more: of one loop, of two, and of one within another.
func TestPlcFuel(t *testing.T) {
	one := plcOf(t, "set v0 0 ; while less v0 i0 [ set v0 add v0 1 ] ; set o5 77", "-", "steps 1")
	two := plcOf(t, "set v0 0 ; set v1 0 ; while less v0 i0 [ set v0 add v0 1 ] ; while less v1 i1 [ set v1 add v1 1 ] ; set o5 77", "-", "steps 1")
	within := plcOf(t, "set v0 0 ; while less v0 i0 [ set v1 0 ; while less v1 i1 [ set v1 add v1 1 ] ; set v0 add v0 1 ] ; set o5 77", "-", "steps 1")
	for n := range 130 {
		then := checkRounds(t, one, []int{n}, n)
		if n <= 60 && then.Mem.Var[0] != n {
			t.Errorf("%d rounds: %v", n, then.Mem)
		}
	}
	for a := range 64 {
		for b := range 64 {
			if a+b < 64 && a+b > 56 || a < 4 && b < 4 {
				checkRounds(t, two, []int{a, b}, a+b)
			}
			if need := a * (b + 1); need < 64 && need > 56 || a < 3 && b < 3 {
				checkRounds(t, within, []int{a, b}, need)
			}
		}
	}
}

// Each scan has all of the fuel: what the one ahead took is of no account.
func TestPlcFuelAnew(t *testing.T) {
	p := plcOf(t, "set v0 0 ; while less v0 i0 [ set v0 add v0 1 ] ; set o5 77", "-", "steps 1")
	for _, n := range []int{60, 60, 0, 60, 1, 59, 60, 60, 60} {
		p = checkRounds(t, p, []int{n}, n)
	}
	checkRounds(t, p, []int{61}, 61)
}

// An input that is too great is cut, at every place, for all of the three.
func TestPlcInFar(t *testing.T) {
	for place := range 6 {
		which := strconv.Itoa(place)
		p := plcOf(t, "set o0 i"+which+" ; set v0 i"+which+" ; set o1 same i"+which+" 1000000 ; set o2 same i"+which+" -1000000", "or i"+which+" i"+which+" ; to o3 w0", "steps 3 ; 0 > 1 when same i"+which+" 1000000 ; 0 > 2 when same i"+which+" -1000000 ; with 1 o4 ; with 2 o5")
		for _, n := range append(slices.Concat(edgeNums, far), 999998, -999998, 1<<32, -1<<32, 1<<62) {
			in := make([]int, place+1)
			in[place] = n
			then, out := checkScan(t, p, in, 0)
			top, bottom := wantIs(n >= 1000000), wantIs(n <= -1000000)
			if !slices.Equal(out, []int{cutTo(n), top, bottom, wantIs(n != 0), top, bottom}) || then.Mem.In[place] != cutTo(n) || then.Mem.Var[0] != cutTo(n) {
				t.Errorf("%d at %d: %v, %v", n, place, out, then.Mem)
			}
		}
	}
	p := plcOf(t, "-", "-", "steps 1")
	for _, n := range far {
		then, _ := checkScan(t, p, slices.Repeat([]int{n}, 6), 0)
		if !slices.Equal(then.Mem.In, slices.Repeat([]int{cutTo(n)}, 6)) {
			t.Errorf("%d all over: %v", n, then.Mem.In)
		}
		checkNoScan(t, strconv.Itoa(n)+" seven times", p, slices.Repeat([]int{n}, 7), 0)
	}
}

// How many numbers come in: 0 for those that do not, whatever came in ahead; too many are none.
func TestPlcInMany(t *testing.T) {
	r := rand.New(rand.NewPCG(8, 9))
	all := []int{11, -12, 13, -14, 15, -16}
	for i := range 200 {
		p := somePlc(r)
		p.Prog = stmts(set(v0, inAt(0)), set(v2, inAt(5)))
		if i == 0 {
			p = plcOf(t, "-", "-", "steps 1")
		}
		p, _ = checkScan(t, p, []int{9, 9, 9, 9, 9, 9}, 1)
		for many := range 7 {
			then, _ := checkScan(t, p, all[:many], 1)
			want := append(slices.Clone(all[:many]), make([]int, 6-many)...)
			if !slices.Equal(then.Mem.In, want) {
				t.Errorf("of %v there is %v", all[:many], then.Mem.In)
			}
			again, _ := checkScan(t, then, nil, 1)
			if !slices.Equal(again.Mem.In, make([]int, 6)) {
				t.Errorf("of none there is %v", again.Mem.In)
			}
		}
		for _, in := range insTooMany {
			checkNoScan(t, strconv.Itoa(len(in))+" numbers", p, in, 1)
			wrong := copyPlc(p)
			wrong.Fault = true
			checkNoScan(t, strconv.Itoa(len(in))+" numbers, with Fault set", wrong, in, 1)
		}
	}
}

// Room behind what comes in is not what comes in.
func TestPlcInRoom(t *testing.T) {
	p := plcOf(t, "-", "-", "steps 1")
	room := []int{1, 2, 3, 4, 5, 6, 7, 8, 9}
	for many := range 7 {
		then, _ := checkScan(t, p, room[:many], 1)
		if want := append(slices.Clone(room[:many]), make([]int, 6-many)...); !slices.Equal(then.Mem.In, want) {
			t.Errorf("of %d there is %v", many, then.Mem.In)
		}
	}
	if !slices.Equal(room, []int{1, 2, 3, 4, 5, 6, 7, 8, 9}) {
		t.Error(room)
	}
}

// What is kept over a fall: Var alone.
func TestPlcFall(t *testing.T) {
	r := rand.New(rand.NewPCG(9, 9))
	faults := 0
	for i, p := range plcsOk() {
		if i%2 > 0 {
			continue
		}
		p = someKept(r, p)
		p.Mem = memOf()
		faults += wantIs(p.Fault)
		up := checkFall(t, p)
		first := impl.PlcNew(p.Prog, p.Net, p.Chart)
		if !slices.Equal(up.Mem.Var, memOf().Var) || !slices.Equal(up.Mem.In, first.Mem.In) || !slices.Equal(up.Mem.Out, first.Mem.Out) || up.Fault || up.Scans != 0 {
			t.Fatalf("PlcFall of %q, %+v = %+v", plcText(p), p, up)
		}
		if !sameState(up.State, impl.NetNew(p.Net)) || !sameMarks(up.Marks, impl.ChartNew(p.Chart)) {
			t.Fatalf("PlcFall of %q, %+v = %+v", plcText(p), p, up)
		}
		if again := checkFall(t, up); !samePlc(again, up) {
			t.Fatalf("PlcFall of %q twice = %+v, not %+v", plcText(p), again, up)
		}
		up.Mem.Var = make([]int, 6)
		if !samePlc(up, first) {
			t.Fatalf("PlcFall of %q with nothing kept = %+v, not %+v", plcText(p), up, first)
		}
	}
	if faults < 100 {
		t.Errorf("only %d had a Fault", faults)
	}
}

// A row with falls in it, written out.
func TestPlcFallRow(t *testing.T) {
	p := plcOf(t, "set v0 add v0 i0 ; if same i1 9 [ set v1 1 ; while 1 [ - ] ] [ - ] ; set o0 v0", "delay 3 i2 ; latch i2 i3 ; to o1 w0 ; to o2 w1", "steps 2 ; 0 > 1 when i4 ; with 1 o3 ; set 1 o4")
	for i, row := range []struct {
		in    []int
		falls bool
		want  []int
	}{
		{[]int{5, 0, 1}, false, []int{5, 0, 1, 0, 0, 0}},
		{[]int{5, 0, 1}, false, []int{10, 0, 1, 0, 0, 0}},
		{[]int{5, 0, 1, 0, 1}, false, []int{15, 1, 1, 1, 1, 0}},
		{[]int{5, 9, 1}, false, []int{0, 0, 0, 0, 0, 0}},
		{[]int{5, 0, 1}, false, []int{0, 0, 0, 0, 0, 0}},
		{[]int{1, 0, 1}, true, []int{16, 0, 1, 0, 0, 0}},
		{[]int{1, 0, 0}, false, []int{17, 0, 1, 0, 0, 0}},
		{[]int{1, 0, 0}, true, []int{18, 0, 0, 0, 0, 0}},
		{[]int{0, 9, 0}, false, []int{0, 0, 0, 0, 0, 0}},
		{nil, true, []int{18, 0, 0, 0, 0, 0}},
	} {
		if row.falls {
			p = checkFall(t, p)
		}
		then, out := checkScan(t, p, row.in, 2)
		p = then
		if !slices.Equal(out, row.want) {
			t.Errorf("scan %d: %v, not %v", i, out, row.want)
		}
	}
}

// Times at their bounds, and out of them; what goes by comes to the net.
func TestPlcTimes(t *testing.T) {
	r := rand.New(rand.NewPCG(10, 9))
	plcs := []impl.Plc{plcOf(t, "-", "-", "steps 1"), plcOf(t, "set o0 1", "delay 1000 i0 ; to o1 w0", "steps 1"), plcOf(t, "while 1 [ - ]", "-", "steps 1")}
	for range 100 {
		plcs = append(plcs, someKept(r, somePlc(r)))
	}
	for _, p := range plcs {
		for _, dt := range timesBad {
			checkNoScan(t, strconv.Itoa(dt), p, []int{1}, dt)
			checkNoScan(t, strconv.Itoa(dt), p, nil, dt)
		}
		for _, dt := range edgeTimes {
			if then, out := checkScan(t, p, []int{1}, dt); isNoPlc(then) || len(out) != 6 {
				t.Errorf("dt %d: %+v, %v", dt, then, out)
			}
		}
	}
	for _, dt := range edgeTimes {
		p := plcOf(t, "-", "delay 500 i0 ; to o0 w0", "steps 1")
		p, first := checkScan(t, p, []int{1}, dt)
		p, out := checkScan(t, p, []int{1}, dt)
		if first[0] != 0 || out[0] != wantIs(dt >= 500) || p.State.Blocks[0].T != dt {
			t.Errorf("dt %d: %v, %v, %v", dt, first, out, p.State)
		}
	}
}

// How many scans are counted: up to PlcMost, and no more.
func TestPlcScans(t *testing.T) {
	r := rand.New(rand.NewPCG(11, 9))
	plcs := []impl.Plc{plcOf(t, "-", "-", "steps 1"), plcOf(t, "set o0 1", "delay 1000 i0 ; to o1 w0", "steps 2 ; 0 > 1 when 1"), plcOf(t, "while 1 [ - ]", "-", "steps 1")}
	for range 50 {
		plcs = append(plcs, someKept(r, somePlc(r)))
	}
	for _, p := range plcs {
		for _, n := range []int{math.MinInt, -1000000, -2, -1, 1000001, 1000002, 2000000, 1 << 32, math.MaxInt} {
			p.Scans = n
			checkPlcBad(t, strconv.Itoa(n)+" scans", p)
		}
		for n, want := range map[int]int{0: 1, 1: 2, 59: 60, 499999: 500000, 999998: 999999, 999999: 1000000, 1000000: 1000000} {
			p.Scans = n
			for _, fault := range bothWays {
				p.Fault = fault
				if then, _ := checkScan(t, p, []int{1}, 1); then.Scans != want || !impl.PlcOk(p) || !impl.PlcOk(then) {
					t.Errorf("behind %d scans there are %d", n, then.Scans)
				}
			}
		}
	}
	p := plcs[0]
	for i := range 100 {
		p, _ = impl.PlcScan(p, nil, 0)
		if p.Scans != i+1 {
			t.Fatalf("scan %d is counted as %d", i+1, p.Scans)
		}
	}
}

// PlcNew, where the three do not fit: nothing; and a controller of what does not fit is none.
func checkNoFit(t *testing.T, name string, prog []impl.Stmt, n impl.Net, c impl.Chart) {
	t.Helper()
	if got := impl.PlcNew(prog, n, c); !isNoPlc(got) {
		t.Errorf("%s: PlcNew = %+v", name, got)
	}
	s, k := impl.State{}, impl.Marks{On: make([]bool, min(max(c.Steps, 0), 300)), Kept: make([]bool, 6)}
	for _, w := range n.Wires {
		s.Blocks, s.Last = append(s.Blocks, impl.BlockNew(w.Kind, w.N)), append(s.Last, false)
	}
	checkPlcBad(t, name, impl.Plc{Prog: prog, Net: n, Chart: c, State: s, Marks: k, Mem: memOf()})
}

// everyNth is each n-th of them, by their names.
func everyNth[T any](all map[string]T, n int) map[string]T {
	out := map[string]T{}
	for i, name := range slices.Sorted(maps.Keys(all)) {
		if i%n == 0 {
			out[name] = all[name]
		}
	}
	return out
}

func TestPlcNoFit(t *testing.T) {
	good, wires, idle := flat(3), fullNet(8, 4), fullChart(6, 6, 6)
	for name, prog := range everyNth(stmtsBad(), 60) {
		checkNoFit(t, "program: "+name, prog, wires, idle)
	}
	for name, s := range stmtsBadAlone() {
		checkNoFit(t, "program: "+name+", alone", stmts(s), impl.Net{}, charted(1))
	}
	for i, c := range stmtsTooMuch() {
		checkNoFit(t, "too much of a program, "+strconv.Itoa(i), c.list, impl.Net{}, charted(1))
	}
	for name, prog := range stmtLoops() {
		checkNoFit(t, "program: "+name, prog, impl.Net{}, charted(1))
	}
	for name, n := range everyNth(netsBad(), 8) {
		checkNoFit(t, "net: "+name, good, n, idle)
	}
	for name, n := range netsRound() {
		checkNoFit(t, "net: "+name, nil, n, charted(1))
	}
	for name, c := range everyNth(chartsBad(), 12) {
		checkNoFit(t, "chart: "+name, good, wires, c)
	}
	checkNoFit(t, "nothing", nil, impl.Net{}, impl.Chart{})
	if got := impl.PlcNew(good, wires, idle); isNoPlc(got) {
		t.Error("PlcNew of what fits is nothing")
	}
}

// How much code there may be: no program that is ok comes near CodeMax, so that none is refused for that alone.
func TestPlcCodeMax(t *testing.T) {
	most := 0
	for _, list := range append(stmtsOk(), greatestProg(), slices.Repeat(stmts(when(part(10, tree(7)), nil, nil)), 16), slices.Repeat(stmts(set(o0, part(10, tree(7)))), 16)) {
		p := impl.PlcNew(list, impl.Net{}, charted(1))
		if isNoPlc(p) || !impl.PlcOk(p) {
			t.Errorf("no controller of %q", wantStmtsText(list))
		}
		most = max(most, len(wantCode(list, 0)))
	}
	if many := len(impl.CodeOf(greatestProg())); most != 256 || many != most {
		t.Errorf("the most code is of %d, and that of the greatest program of %d", most, many)
	}
	p := wantPlcNew(greatestProg(), impl.Net{}, charted(1))
	if then, _ := checkScan(t, p, nil, 0); then.Scans != 1 {
		t.Errorf("the greatest program leaves %+v", then)
	}
}

// What a controller keeps must be of its net and of its chart, and its memory must be ok; each by itself.
func TestPlcBad(t *testing.T) {
	nets := []impl.Net{fullNet(8, 4)}
	for _, kind := range wireKinds {
		nets = append(nets, wired(kindWire(kind, 0, fromAddr(in0), fromLast(0))))
	}
	for _, n := range nets {
		good := wantPlcNew(flat(2), n, fullChart(3, 3, 3))
		if !impl.PlcOk(good) {
			t.Fatalf("no controller of %q", plcText(good))
		}
		for name, s := range statesBad(n) {
			p := copyPlc(good)
			p.State = s
			checkPlcBad(t, wantNetText(n)+", State: "+name, p)
		}
	}
	for name, s := range map[string]impl.State{"a block": {Blocks: make([]impl.Block, 1)}, "a Last": {Last: []bool{false}}, "both": {Blocks: make([]impl.Block, 1), Last: make([]bool, 1)}} {
		p := wantPlcNew(nil, impl.Net{}, charted(1))
		p.State = s
		checkPlcBad(t, "no wires, "+name, p)
	}
	for many := 1; many <= 6; many++ {
		good := wantPlcNew(flat(2), fullNet(2, 1), fullChart(many, 2, 2))
		for name, k := range marksBad(many) {
			p := copyPlc(good)
			p.Marks = k
			checkPlcBad(t, strconv.Itoa(many)+" steps, Marks: "+name, p)
		}
		for name, m := range memsBad() {
			p := copyPlc(good)
			p.Mem = m
			checkPlcBad(t, "memory: "+name, p)
			p.Fault = true
			checkPlcBad(t, "with Fault set, memory: "+name, p)
		}
	}
	checkPlcBad(t, "nothing", impl.Plc{})
	checkPlcBad(t, "nothing, with Fault set", impl.Plc{Fault: true})
}

// turnedPlcs are all controllers that differ from one in one part alone.
func turnedPlcs(p impl.Plc) map[string][]impl.Plc {
	out := map[string][]impl.Plc{}
	turn := func(name string, f func(p *impl.Plc)) {
		other := copyPlc(p)
		f(&other)
		out[name] = append(out[name], other)
	}
	for _, list := range turnedStmts(p.Prog) {
		turn("Prog", func(p *impl.Plc) { p.Prog = list })
	}
	for _, n := range turnedNets(p.Net) {
		turn("Net", func(p *impl.Plc) { p.Net = n })
	}
	turn("Net", func(p *impl.Plc) { p.Net.Wires = append(p.Net.Wires, impl.Wire{}) })
	turn("Net", func(p *impl.Plc) { p.Net.Drives = append(p.Net.Drives, impl.Drive{}) })
	for _, c := range turnedCharts(p.Chart) {
		turn("Chart", func(p *impl.Plc) { p.Chart = c })
	}
	for name, f := range map[string]func(p *impl.Plc) any{
		"State": func(p *impl.Plc) any { return &p.State }, "Marks": func(p *impl.Plc) any { return &p.Marks }, "Mem": func(p *impl.Plc) any { return &p.Mem },
	} {
		base := copyPlc(p)
		for i, leaf := range leavesOf(f(&base)) {
			if leaf.Kind() == reflect.Bool {
				turn(name, func(p *impl.Plc) { leavesOf(f(p))[i].SetBool(!leaf.Bool()) })
				continue
			}
			for _, more := range []int64{1, -1, 256, 1 << 32, 1000001} {
				turn(name, func(p *impl.Plc) { leavesOf(f(p))[i].SetInt(leaf.Int() + more) })
			}
		}
		lists := reflect.ValueOf(f(&base)).Elem().NumField()
		for i := range lists {
			list := func(p *impl.Plc) reflect.Value { return reflect.ValueOf(f(p)).Elem().Field(i) }
			turn(name, func(p *impl.Plc) { list(p).Set(reflect.Append(list(p), reflect.Zero(list(p).Type().Elem()))) })
			if list(&base).Len() > 0 {
				turn(name, func(p *impl.Plc) { list(p).Set(list(p).Slice(1, list(p).Len())) })
				turn(name, func(p *impl.Plc) { list(p).Set(list(p).Slice(0, list(p).Len()-1)) })
				turn(name, func(p *impl.Plc) { list(p).SetZero() })
			}
		}
	}
	turn("Fault", func(p *impl.Plc) { p.Fault = !p.Fault })
	for _, n := range []int{-1, 1, 256, 1 << 32, 1000001} {
		turn("Scans", func(p *impl.Plc) { p.Scans += n })
	}
	return out
}

// Controllers that differ in one part alone are not the same; some are ok, and most are not, and do as they must.
func TestPlcTurnedParts(t *testing.T) {
	r := rand.New(rand.NewPCG(12, 9))
	plcs := []impl.Plc{wantPlcNew(nil, impl.Net{}, charted(1)), {}, {Prog: make([]impl.Stmt, 1), Net: impl.Net{Wires: make([]impl.Wire, 1)}, Chart: charted(9), State: impl.State{Last: flags("1")}, Marks: marks("", "1"), Mem: impl.Mem{Var: []int{2000000}}, Scans: -7}}
	for range 12 {
		plcs = append(plcs, someKept(r, somePlc(r)))
	}
	ok := map[string]int{}
	for _, p := range plcs {
		if !impl.PlcSame(p, p) || !impl.PlcSame(p, copyPlc(p)) {
			t.Errorf("%+v is not the same as itself", p)
		}
		for name, others := range turnedPlcs(p) {
			for _, other := range others {
				if impl.PlcSame(p, other) || impl.PlcSame(other, p) || !impl.PlcSame(other, copyPlc(other)) {
					t.Fatalf("PlcSame, turned in %s: %+v, %+v", name, p, other)
				}
				if !wantPlcOk(other) {
					checkPlcBad(t, "turned in "+name, other)
					continue
				}
				checkScan(t, other, []int{1, 0, 5}, 3)
				checkFall(t, other)
				ok[name]++
			}
		}
		for _, other := range plcs {
			if got := impl.PlcSame(p, other); got != samePlc(p, other) {
				t.Errorf("PlcSame(%+v, %+v) = %v", p, other, got)
			}
		}
	}
	for _, name := range []string{"Prog", "Net", "Chart", "State", "Marks", "Mem", "Fault", "Scans"} {
		if ok[name] < 10 {
			t.Errorf("only %d of those turned in %s are ok", ok[name], name)
		}
	}
}

// emptied makes all lists of none, of what is pointed to, nil, or not.
func emptied(p any, nils bool) {
	var walk func(v reflect.Value)
	walk = func(v reflect.Value) {
		switch v.Kind() {
		case reflect.Struct:
			for i := range v.NumField() {
				walk(v.Field(i))
			}
		case reflect.Slice:
			if v.Len() == 0 && nils {
				v.SetZero()
			} else if v.Len() == 0 {
				v.Set(reflect.MakeSlice(v.Type(), 0, 2))
			}
			for i := range v.Len() {
				walk(v.Index(i))
			}
		}
	}
	walk(reflect.ValueOf(p).Elem())
}

// The list of none and the nil list are the same, in a controller too.
func TestPlcEmpty(t *testing.T) {
	r := rand.New(rand.NewPCG(13, 9))
	plcs := []impl.Plc{{}, wantPlcNew(nil, impl.Net{}, charted(1)), {Prog: make([]impl.Stmt, 2), Chart: charted(2, impl.Trans{})}}
	for range 200 {
		plcs = append(plcs, someKept(r, somePlc(r)))
	}
	for _, p := range plcs {
		none, empty := copyPlc(p), copyPlc(p)
		emptied(&none, true)
		emptied(&empty, false)
		if !impl.PlcSame(none, empty) || !impl.PlcSame(empty, none) || !impl.PlcSame(none, p) || impl.PlcOk(none) != impl.PlcOk(empty) {
			t.Fatalf("%+v, %+v", none, empty)
		}
		if !samePlc(impl.PlcNew(none.Prog, none.Net, none.Chart), impl.PlcNew(empty.Prog, empty.Net, empty.Chart)) || !samePlc(impl.PlcFall(none), impl.PlcFall(empty)) {
			t.Fatalf("%+v, %+v", none, empty)
		}
		for name, scan := range scans {
			got, out := scan(none, nil, 1)
			other, outOther := scan(empty, []int{}, 1)
			if !samePlc(got, other) || !slices.Equal(out, outOther) {
				t.Fatalf("%s of %+v = %+v, not %+v", name, none, other, got)
			}
		}
	}
}

// Controllers that are not ok, also such as hold what holds itself.
func TestPlcSameBad(t *testing.T) {
	lists, twins := stmtLoops(), stmtLoops()
	for name, list := range lists {
		p := impl.Plc{Prog: list, Chart: charted(1)}
		if !impl.PlcSame(p, p) || !impl.PlcSame(p, impl.Plc{Prog: twins[name], Chart: charted(1)}) {
			t.Errorf("not the same as itself: %s", name)
		}
		if impl.PlcSame(p, impl.Plc{Prog: list, Chart: charted(2)}) || impl.PlcSame(p, impl.Plc{Prog: flat(1), Chart: charted(1)}) || impl.PlcSame(impl.Plc{Prog: list, Chart: charted(1), Fault: true}, p) {
			t.Errorf("the same as another: %s", name)
		}
	}
	parts, others := loops(), loops()
	for name, e := range parts {
		p := impl.Plc{Prog: stmts(set(v0, e)), Chart: charted(2, way("0", "1", e))}
		if !impl.PlcSame(p, p) || !impl.PlcSame(p, impl.Plc{Prog: stmts(set(v0, others[name])), Chart: charted(2, way("0", "1", others[name]))}) {
			t.Errorf("not the same as itself: %s", name)
		}
		if impl.PlcSame(p, impl.Plc{Prog: stmts(set(v0, e)), Chart: charted(2, way("0", "1", num(1)))}) || impl.PlcSame(p, impl.Plc{Prog: stmts(set(v0, num(1))), Chart: p.Chart}) {
			t.Errorf("the same as another: %s", name)
		}
	}
	bad, wires := stmtsBad(), netsBad()
	names, wireNames := slices.Sorted(maps.Keys(bad)), slices.Sorted(maps.Keys(wires))
	for i := range min(len(names), len(wireNames)) - 1 {
		a := impl.Plc{Prog: bad[names[i]], Net: wires[wireNames[i]]}
		for _, b := range []impl.Plc{{Prog: bad[names[i+1]], Net: wires[wireNames[i]]}, {Prog: bad[names[i]], Net: wires[wireNames[i+1]]}, {Prog: bad[names[i]], Net: wires[wireNames[i]]}} {
			if got := impl.PlcSame(a, b); got != samePlc(a, b) {
				t.Errorf("PlcSame = %v: %s, %s", got, names[i], wireNames[i])
			}
		}
	}
}

// roomyPlc is the same, with room behind each list, and something in it.
func roomyPlc(p impl.Plc) impl.Plc {
	m := impl.Mem{In: withRoom(p.Mem.In, 71), Out: withRoom(p.Mem.Out, 72), Var: withRoom(p.Mem.Var, 73)}
	return impl.Plc{
		Prog: roomyStmts(p.Prog), Net: roomyNet(p.Net), Chart: roomyChart(p.Chart), State: roomyState(p.State), Marks: roomyMarks(p.Marks),
		Mem: m, Fault: p.Fault, Scans: p.Scans,
	}
}

// keptPlcs are some controllers with anything kept in them, some of them such as go wrong at once.
func keptPlcs() []impl.Plc {
	r := rand.New(rand.NewPCG(14, 9))
	out := []impl.Plc{wantPlcNew(nil, impl.Net{}, charted(1)), someKept(r, wantPlcNew(greatestProg(), fullNet(8, 4), fullChart(6, 6, 6)))}
	for range 300 {
		out = append(out, someKept(r, somePlc(r)))
	}
	for _, prog := range wrongProgs() {
		p := somePlc(r)
		p.Prog = prog
		out = append(out, someKept(r, p))
	}
	return out
}

// Nothing is written into an argument, nor behind its end, nor is what is behind it seen.
func TestPlcArgumentsStay(t *testing.T) {
	plcs := keptPlcs()
	for i, p := range keptPlcs() {
		if i%10 == 0 {
			p.Mem.Var = p.Mem.Var[1:]
			plcs = append(plcs, p)
		}
	}
	for i, p := range plcs {
		given, in := roomyPlc(p), withRoom([]int{1, 0, 1, 1000001, 5, -7}[:i%7], 99)
		leaves := slices.Concat(roomLeaves(&given), roomLeaves(&in))
		was := told(leaves)
		first := impl.PlcNew(given.Prog, given.Net, given.Chart)
		if impl.PlcOk(given) != impl.PlcOk(p) || !impl.PlcSame(given, p) || !impl.PlcSame(p, given) || !samePlc(first, impl.PlcNew(p.Prog, p.Net, p.Chart)) || !samePlc(impl.PlcFall(given), impl.PlcFall(p)) {
			t.Errorf("what is behind the lists of %+v counts", p)
		}
		want, wantOut := wantScan(givenLayers, p, in, 2)
		for name, scan := range scans {
			for range 2 {
				if got, out := scan(given, in, 2); !samePlc(got, want) || !slices.Equal(out, wantOut) {
					t.Errorf("%s, with something behind the lists of %+v, leaves %+v, %v", name, p, got, out)
				}
			}
		}
		if !slices.Equal(told(leaves), was) || !samePlc(given, p) {
			t.Errorf("%+v is %+v now", p, given)
		}
	}
}

// Writing into an answer turns no argument and no other answer, and writing into the arguments turns no answer.
func TestPlcAnswersAreNew(t *testing.T) {
	for i, p := range keptPlcs() {
		given, in := roomyPlc(p), []int{1, 0, 1, 1000001, 5, -7}[:i%7]
		wasIn := slices.Clone(in)
		want, wantOut := wantScan(givenLayers, p, in, 2)
		first, up := wantPlcNew(p.Prog, p.Net, p.Chart), wantFall(p)
		var all []any
		var plcs [4]impl.Plc
		var outs [2][]int
		for range 2 {
			plcs[0], plcs[1] = impl.PlcNew(given.Prog, given.Net, given.Chart), impl.PlcFall(given)
			plcs[2], outs[0] = impl.PlcScan(given, in, 2)
			plcs[3], outs[1] = impl.PlcCode(given, in, 2)
			if !samePlc(plcs[0], first) || !samePlc(plcs[1], up) || !samePlc(plcs[2], want) || !samePlc(plcs[3], want) || !slices.Equal(outs[0], wantOut) || !slices.Equal(outs[1], wantOut) {
				t.Fatalf("%+v, behind answers that were written into: %+v, %v", p, plcs, outs)
			}
			all = []any{&plcs[0], &plcs[1], &plcs[2], &plcs[3], &outs[0], &outs[1]}
			if !apart(append(slices.Clone(all), &given, &in)...) {
				t.Fatalf("%+v: lists of answers share memory, or share it with an argument", p)
			}
			for k, answer := range all {
				spoil(answer)
				if k == 2 && (!samePlc(plcs[3], want) || !slices.Equal(outs[0], wantOut)) || k == 4 && !slices.Equal(outs[1], wantOut) {
					t.Fatalf("%+v: writing into an answer turned another one", p)
				}
			}
			if !samePlc(given, p) || !slices.Equal(in, wasIn) {
				t.Fatalf("%+v: writing into an answer turned an argument", p)
			}
		}
		plcs[0], plcs[1] = impl.PlcNew(given.Prog, given.Net, given.Chart), impl.PlcFall(given)
		plcs[2], outs[0] = impl.PlcScan(given, in, 2)
		plcs[3], outs[1] = impl.PlcCode(given, in, 2)
		spoil(&given)
		spoil(&in)
		if !samePlc(plcs[0], first) || !samePlc(plcs[1], up) || !samePlc(plcs[2], want) || !samePlc(plcs[3], want) || !slices.Equal(outs[0], wantOut) || !slices.Equal(outs[1], wantOut) {
			t.Fatalf("writing into the arguments turned an answer: %+v, %v", plcs, outs)
		}
	}
}

// No two lists of an answer share any, not even of arguments whose lists are one.
func TestPlcListsApart(t *testing.T) {
	for _, fault := range bothWays {
		for _, end := range []impl.Stmt{set(outAt(1), num(1)), while(num(1))} {
			kids := []impl.Expr{at(v0), at(v0)}
			twice := impl.Expr{Kind: 3, Kids: kids}
			held := stmts(set(v0, twice))
			both := when(twice, held, held)
			one, flag, path := []int{1, 2, 3, 4, 5, 6}, flags("101010"), []int{0, 1}
			n := wired(slices.Repeat([]impl.Wire{wireOf(12, 0, fromAddr(in0), fromLast(0))}, 6)...)
			c := acted(charted(6, impl.Trans{From: path, To: path, When: twice}, impl.Trans{From: path, To: path, When: twice}), act(1, 0, 0))
			p := impl.Plc{
				Prog: stmts(both, both, end), Net: n, Chart: c, State: impl.State{Blocks: make([]impl.Block, 6), Last: flag}, Marks: impl.Marks{On: flag, Kept: flag},
				Mem: impl.Mem{In: one, Out: one, Var: one}, Fault: fault,
			}
			then, out := checkScan(t, p, one, 1)
			other, outOther := impl.PlcCode(p, one, 1)
			first, up := impl.PlcNew(p.Prog, p.Net, p.Chart), checkFall(t, p)
			if then.Fault != (fault || end.Kind == 3) || !slices.Equal(one, []int{1, 2, 3, 4, 5, 6}) || flagText(flag) != "101010" {
				t.Errorf("%+v, of %v, %v", then, one, flag)
			}
			if !apart(&then, &out, &other, &outOther, &first, &up, &kids, &one, &flag, &path) {
				t.Error("two lists share memory")
			}
			if !apart(&then) || !apart(&first) || !apart(&up) || !apart(&other, &p.Net) {
				t.Error("two lists of one answer share memory")
			}
		}
	}
}

// A controller that is scanned twice from the same value answers the same twice, whatever was scanned between.
func TestPlcNothingKept(t *testing.T) {
	plcs := keptPlcs()
	for i, p := range plcs {
		other := plcs[(i+1)%len(plcs)]
		want, wantOut := impl.PlcScan(p, []int{1, 0, 1}, 5)
		impl.PlcScan(other, []int{0, 1, 0, 1, 0, 1}, 1000)
		impl.PlcCode(other, nil, 7)
		impl.PlcFall(other)
		checkScanOf(t, p, []int{1, 0, 1}, 5, want, wantOut)
	}
}
