package tests

import (
	"maps"
	"math"
	"math/rand/v2"
	"reflect"
	"regexp"
	"slices"
	"strconv"
	"strings"
	"testing"

	"loop.example/stopgate/impl"
)

func fromAddr(a impl.Addr) impl.Src { return impl.Src{Kind: 1, Addr: a} }

func fromWire(at int) impl.Src { return impl.Src{Kind: 2, At: at} }

func fromLast(at int) impl.Src { return impl.Src{Kind: 3, At: at} }

func notSo(s impl.Src) impl.Src {
	s.Not = !s.Not
	return s
}

// wireOf is a wire with one input or two.
func wireOf(kind int, n int, inputs ...impl.Src) impl.Wire {
	w := impl.Wire{Kind: kind, N: n, A: inputs[0]}
	if len(inputs) > 1 {
		w.B = inputs[1]
	}
	return w
}

func drive(to impl.Addr, wire int) impl.Drive { return impl.Drive{To: to, Wire: wire} }

func wired(wires ...impl.Wire) impl.Net { return impl.Net{Wires: wires} }

func driven(n impl.Net, drives ...impl.Drive) impl.Net {
	n.Drives = drives
	return n
}

// The Kinds of wires, those of them that have two inputs, their words, and what is no Kind.
var (
	wireKinds    = []int{1, 2, 3, 4, 5, 11, 12, 13}
	wireKindsTwo = []int{3, 5, 11, 12, 13}
	wireWords    = map[int]string{1: "delay", 2: "hold", 3: "count", 4: "rise", 5: "latch", 11: "and", 12: "or", 13: "xor"}
	wireNone     = []int{math.MinInt, -13, -11, -5, -1, 0, 6, 7, 10, 14, 15, 100, 256 + 1, 1<<32 + 11, math.MaxInt}
)

func hasTwo(kind int) bool { return slices.Contains(wireKindsTwo, kind) }

// kindWire is a wire of a Kind, with the inputs that it has of the two.
func kindWire(kind int, n int, a impl.Src, b impl.Src) impl.Wire {
	if hasTwo(kind) {
		return wireOf(kind, n, a, b)
	}
	return wireOf(kind, n, a)
}

// netNs are the N that a wire of a Kind may have, some of them.
func netNs(kind int) []int {
	if kind > 3 {
		return []int{0}
	}
	return edgeTimes
}

// inputsOf are the inputs that a wire has.
func inputsOf(w impl.Wire) []impl.Src {
	if hasTwo(w.Kind) {
		return []impl.Src{w.A, w.B}
	}
	return []impl.Src{w.A}
}

// allInputs are all inputs that are ok in a net of so many wires.
func allInputs(wires int) []impl.Src {
	var out []impl.Src
	for _, a := range placesOk() {
		out = append(out, fromAddr(a), notSo(fromAddr(a)))
	}
	for i := range wires {
		out = append(out, fromWire(i), notSo(fromWire(i)), fromLast(i), notSo(fromLast(i)))
	}
	return out
}

func copyNet(n impl.Net) impl.Net {
	return impl.Net{Wires: append([]impl.Wire{}, n.Wires...), Drives: append([]impl.Drive{}, n.Drives...)}
}

// sameNet says whether two nets are the same in all parts, told apart from the program.
func sameNet(a impl.Net, b impl.Net) bool { return reflect.DeepEqual(copyNet(a), copyNet(b)) }

func isNoNet(n impl.Net) bool { return len(n.Wires)+len(n.Drives) == 0 }

func copyState(s impl.State) impl.State {
	return impl.State{Blocks: append([]impl.Block{}, s.Blocks...), Last: append([]bool{}, s.Last...)}
}

func sameState(a impl.State, b impl.State) bool { return reflect.DeepEqual(copyState(a), copyState(b)) }

func isNoState(s impl.State) bool { return len(s.Blocks)+len(s.Last) == 0 }

// wantSrcOk says whether an input is ok, told apart from the program.
func wantSrcOk(s impl.Src, wires int) bool {
	s.Not = false
	for _, a := range placesOk() {
		if s == fromAddr(a) {
			return true
		}
	}
	for i := range wires {
		if s == fromWire(i) || s == fromLast(i) {
			return true
		}
	}
	return false
}

// wantRound says whether some wire waits for itself: whether a row of as many inputs as there are wires can be gone.
func wantRound(n impl.Net) bool {
	left := map[int]struct{}{}
	for i := range n.Wires {
		left[i] = struct{}{}
	}
	for range n.Wires {
		next := map[int]struct{}{}
		for i := range left {
			for _, s := range inputsOf(n.Wires[i]) {
				if s.Kind == 2 {
					next[s.At] = struct{}{}
				}
			}
		}
		left = next
	}
	return len(left) > 0
}

// wantNetOk says whether a net is ok, told apart from the program.
func wantNetOk(n impl.Net) bool {
	if len(n.Wires) > 8 || len(n.Drives) > 4 {
		return false
	}
	for _, w := range n.Wires {
		if _, known := wireWords[w.Kind]; !known || w.N < 0 || w.N > 1000 || w.N != 0 && w.Kind > 3 {
			return false
		}
		if !hasTwo(w.Kind) && w.B != (impl.Src{}) {
			return false
		}
		for _, s := range inputsOf(w) {
			if !wantSrcOk(s, len(n.Wires)) {
				return false
			}
		}
	}
	taken := map[impl.Addr]struct{}{}
	for _, d := range n.Drives {
		if !slices.Contains(placesOk()[6:], d.To) || d.Wire < 0 || d.Wire >= len(n.Wires) {
			return false
		}
		taken[d.To] = struct{}{}
	}
	return len(taken) == len(n.Drives) && !wantRound(n)
}

// wantOrder is the order of a net that is ok, told apart from the program, with the wires that are told as bits: each
// time the first that is not told yet, and of whose inputs of SrcWire all are.
func wantOrder(n impl.Net) []int {
	var order []int
	told := 0
	for range n.Wires {
		for i, w := range n.Wires {
			needs := 0
			for _, s := range inputsOf(w) {
				if s.Kind == 2 {
					needs |= 1 << s.At
				}
			}
			if told>>i&1 == 0 && needs&^told == 0 {
				told |= 1 << i
				order = append(order, i)
				break
			}
		}
	}
	return order
}

// wantSrcText is the text of an input that is ok, told apart from the program.
func wantSrcText(s impl.Src) string {
	text := ""
	if s.Not {
		text = "!"
	}
	if s.Kind == 1 {
		return text + placeTexts[s.Addr.Kind-1][s.Addr.At]
	}
	return text + string("?wl"[s.Kind-1]) + strconv.Itoa(s.At)
}

// wantNetText is the text of a net, which is ok but for how it is wired, told apart from the program.
func wantNetText(n impl.Net) string {
	text := ""
	for _, w := range n.Wires {
		text += " ; " + wireWords[w.Kind]
		if w.Kind <= 3 {
			text += " " + strconv.Itoa(w.N)
		}
		for _, s := range inputsOf(w) {
			text += " " + wantSrcText(s)
		}
	}
	for _, d := range n.Drives {
		text += " ; to " + placeTexts[d.To.Kind-1][d.To.At] + " w" + strconv.Itoa(d.Wire)
	}
	if text == "" {
		return "-"
	}
	return text[3:]
}

// The words of a net, and what a wire and a drive are made of.
var (
	netInput = `(!?(?:[iov][0-5]|[wl][0-7]))`
	netWire  = regexp.MustCompile(`^(?:(delay|hold) (0|[1-9][0-9]{0,2}|1000) ` + netInput + `|(count) (0|[1-9][0-9]{0,2}|1000) ` + netInput + ` ` + netInput + `|(rise) ` + netInput + `|(latch|and|or|xor) ` + netInput + ` ` + netInput + `)\z`)
	netDrive = regexp.MustCompile(`^to ([ov][0-5]) w([0-7])\z`)
)

// wantSrcRead is the input of a word that is one.
func wantSrcRead(word string) impl.Src {
	for _, s := range allInputs(8) {
		if wantSrcText(s) == word {
			return s
		}
	}
	return impl.Src{}
}

// wantNetRead is the net of a text, told apart from the program.
func wantNetRead(text string) (impl.Net, bool) {
	var n impl.Net
	if text == "-" {
		return n, true
	}
	for _, piece := range strings.Split(text, " ; ") {
		if parts := netDrive.FindStringSubmatch(piece); parts != nil {
			to, _ := wantRead(parts[1])
			n.Drives = append(n.Drives, drive(to, int(parts[2][0]-'0')))
			continue
		}
		parts := netWire.FindStringSubmatch(piece)
		if parts == nil || len(n.Drives) > 0 {
			return impl.Net{}, false
		}
		parts = slices.DeleteFunc(parts[1:], func(s string) bool { return s == "" })
		var w impl.Wire
		for kind, word := range wireWords {
			if word == parts[0] {
				w.Kind = kind
			}
		}
		if w.Kind <= 3 {
			w.N, _ = strconv.Atoi(parts[1])
			parts = parts[1:]
		}
		w.A = wantSrcRead(parts[1])
		if len(parts) > 2 {
			w.B = wantSrcRead(parts[2])
		}
		n.Wires = append(n.Wires, w)
	}
	if !wantNetOk(n) {
		return impl.Net{}, false
	}
	return n, true
}

// wantNew is what a net that is ok keeps at first, told apart from the program.
func wantNew(n impl.Net) impl.State {
	var s impl.State
	for _, w := range n.Wires {
		b := impl.Block{}
		if w.Kind <= 5 {
			b = impl.Block{Kind: w.Kind, N: w.N}
		}
		s.Blocks, s.Last = append(s.Blocks, b), append(s.Last, false)
	}
	return s
}

// wantIn says whether an input is on: a wire that it waits for is asked there and then, in whatever order.
func wantIn(n impl.Net, s impl.State, m impl.Mem, dt int, in impl.Src) bool {
	is := false
	switch in.Kind {
	case 1:
		is = (*listOf(&m, in.Addr.Kind))[in.Addr.At] != 0
	case 2:
		_, is = wantWire(n, s, m, dt, in.At)
	case 3:
		is = s.Last[in.At]
	}
	return is != in.Not
}

// wantWire is the block of a wire behind a step, and whether the wire is on then.
func wantWire(n impl.Net, s impl.State, m impl.Mem, dt int, i int) (impl.Block, bool) {
	w := n.Wires[i]
	x, y := wantIn(n, s, m, dt, w.A), false
	if hasTwo(w.Kind) {
		y = wantIn(n, s, m, dt, w.B)
	}
	switch w.Kind {
	case 11:
		return impl.Block{}, x && y
	case 12:
		return impl.Block{}, x || y
	case 13:
		return impl.Block{}, x && !y || y && !x
	}
	b := wantStep(s.Blocks[i], stepIn{x: x, y: y, dt: dt})
	return b, b.On
}

// wantNetStep is a net that is ok behind one step, told apart from the program: each wire is asked by itself.
func wantNetStep(n impl.Net, s impl.State, m impl.Mem, dt int) (impl.State, impl.Mem) {
	var out impl.State
	for i := range n.Wires {
		b, on := wantWire(n, s, m, dt, i)
		out.Blocks, out.Last = append(out.Blocks, b), append(out.Last, on)
	}
	then := copyMem(m)
	for _, d := range n.Drives {
		(*listOf(&then, d.To.Kind))[d.To.At] = wantIs(out.Last[d.Wire])
	}
	return out, then
}

// someInput is an input of a wire that may wait for these.
func someInput(r *rand.Rand, wires int, ahead []int) impl.Src {
	s := fromAddr(placesOk()[r.IntN(18)])
	switch k := r.IntN(8); {
	case k < 4 && len(ahead) > 0:
		s = fromWire(ahead[r.IntN(len(ahead))])
	case k < 6:
		s = fromLast(r.IntN(wires))
	}
	s.Not = r.IntN(3) == 0
	return s
}

// someNet is a net that is ok, of so many wires and at most four drives; its wires stand in no order.
func someNet(r *rand.Rand, wires int) impl.Net {
	n := impl.Net{Wires: make([]impl.Wire, wires)}
	order := r.Perm(wires)
	for k, i := range order {
		kind := wireKinds[r.IntN(len(wireKinds))]
		count := 0
		if kind <= 3 {
			count = []int{0, 1, 2, 3, 5, 1000, r.IntN(12)}[r.IntN(7)]
		}
		n.Wires[i] = kindWire(kind, count, someInput(r, wires, order[:k]), someInput(r, wires, order[:k]))
	}
	if wires > 0 {
		for _, to := range r.Perm(12)[:r.IntN(5)] {
			n.Drives = append(n.Drives, drive(placesOk()[6+to], r.IntN(wires)))
		}
	}
	return n
}

// someMem is a memory that is ok in which about every second number is 0.
func someMem(r *rand.Rand) impl.Mem {
	m := impl.Mem{In: make([]int, 6), Out: make([]int, 6), Var: make([]int, 6)}
	for _, a := range placesOk() {
		(*listOf(&m, a.Kind))[a.At] = []int{0, 0, 0, 1, -1, 1000000}[r.IntN(6)]
	}
	return m
}

// someTime is a time that may go by at a step, mostly a short one.
func someTime(r *rand.Rand) int {
	return []int{0, 1, 1, 2, 3, 500, 1000, r.IntN(1001)}[r.IntN(8)]
}

// roundOf is a net of wires each of which waits for the next one, and the last one for the first; by the second input,
// where second is so and there is one.
func roundOf(kind int, wires int, second bool) impl.Net {
	var n impl.Net
	for i := range wires {
		a, b := fromWire((i+1)%wires), fromAddr(in0)
		if second && hasTwo(kind) {
			a, b = b, a
		}
		n.Wires = append(n.Wires, kindWire(kind, 0, a, b))
	}
	return n
}

// fullNet is a net of so many wires, of all Kinds, each behind the one that it waits for, and so many drives.
func fullNet(wires int, drives int) impl.Net {
	var n impl.Net
	for i := range wires {
		kind := wireKinds[i%8]
		b := fromLast(wires - 1 - i)
		n.Wires = append(n.Wires, kindWire(kind, wantIs(kind <= 3)*(i+1), fromAddr(placesOk()[i%18]), notSo(b)))
		if i > 0 {
			n.Wires[i].A = fromWire(i - 1)
		}
	}
	for i := range drives {
		n.Drives = append(n.Drives, drive(placesOk()[6+i%12], wires-1-i%wires))
	}
	return n
}

// netsOk are many nets that are ok: nothing, each Kind with each input, what just fits, and some more.
func netsOk() []impl.Net {
	out := []impl.Net{{}, {Wires: []impl.Wire{}, Drives: []impl.Drive{}}, fullNet(8, 4), fullNet(8, 0), fullNet(1, 4)}
	for _, kind := range wireKinds {
		for _, a := range allInputs(1) {
			if a.Kind == 2 {
				continue
			}
			out = append(out, wired(kindWire(kind, 0, a, fromLast(0))), wired(kindWire(kind, 0, notSo(fromAddr(v2)), a)))
		}
		for _, n := range netNs(kind) {
			out = append(out, driven(wired(kindWire(kind, n, fromAddr(in0), fromAddr(o5))), drive(v0, 0)))
		}
		for _, a := range allInputs(8) {
			if a.Kind == 2 && a.At == 7 {
				continue
			}
			n := fullNet(8, 2)
			n.Wires[7] = kindWire(kind, 0, a, notSo(a))
			if wantNetOk(n) {
				out = append(out, n)
			}
		}
	}
	for _, to := range placesOk()[6:] {
		for wire := range 8 {
			out = append(out, driven(fullNet(8, 0), drive(to, wire)))
		}
	}
	r := rand.New(rand.NewPCG(7, 8))
	for i := range 4000 {
		out = append(out, someNet(r, i%9))
	}
	return out
}

// inputsBad are inputs that are not ok in a net of so many wires, each by one thing alone where that can be.
func inputsBad(wires int) map[string]impl.Src {
	out := map[string]impl.Src{"nothing": {}, "nothing but Not": {Not: true}}
	for _, kind := range []int{math.MinInt, -2, -1, 0, 4, 5, 11, 256 + 1, 1<<32 + 2, math.MaxInt} {
		out["kind "+strconv.Itoa(kind)] = impl.Src{Kind: kind}
		out["kind "+strconv.Itoa(kind)+" with a place"] = impl.Src{Kind: kind, Addr: v0}
	}
	for i, a := range placesBad() {
		out["no place "+strconv.Itoa(i)] = fromAddr(a)
	}
	for _, at := range []int{math.MinInt, -1, 1, 7, 8, 1 << 32, math.MaxInt} {
		out["a place beside At "+strconv.Itoa(at)] = impl.Src{Kind: 1, Addr: in0, At: at}
	}
	for name, s := range map[string]impl.Src{"wire": fromWire(0), "last": fromLast(0)} {
		for _, at := range []int{math.MinInt, -2, -1, wires, wires + 1, wires + 8, 1 << 32, math.MaxInt} {
			s.At = at
			out[name+" at "+strconv.Itoa(at)] = s
		}
		for i, a := range append(placesOk(), placesBad()...) {
			if a != (impl.Addr{}) {
				s.At, s.Addr = 0, a
				out[name+" beside a place "+strconv.Itoa(i)] = s
			}
		}
	}
	return out
}

// wiresBad are wires that are not ok in a net of so many, of which the first may be waited for, each by one thing alone
// where that can be.
func wiresBad(wires int) map[string]impl.Wire {
	good := fromAddr(o5)
	out := map[string]impl.Wire{"nothing": {}}
	for _, kind := range wireNone {
		name := "kind " + strconv.Itoa(kind)
		out[name] = wireOf(kind, 0, good)
		out[name+" with two"] = wireOf(kind, 0, good, good)
		out[name+" with N"] = wireOf(kind, 1, good, good)
	}
	for _, kind := range wireKinds {
		name := wireWords[kind] + ", "
		for _, n := range timesBad {
			out[name+"N "+strconv.Itoa(n)] = kindWire(kind, n, good, good)
		}
		if kind > 3 {
			for _, n := range []int{1, 2, 999, 1000} {
				out[name+"N "+strconv.Itoa(n)] = kindWire(kind, n, good, good)
			}
		}
		for what, bad := range inputsBad(wires) {
			out[name+"A of "+what] = kindWire(kind, 0, bad, good)
			if bad != (impl.Src{}) || hasTwo(kind) {
				out[name+"B of "+what] = wireOf(kind, 0, good, bad)
			}
		}
		if !hasTwo(kind) {
			for i, s := range append(allInputs(wires), impl.Src{At: 1}, impl.Src{At: -1}, impl.Src{Addr: in0}, impl.Src{Addr: impl.Addr{At: 1}}) {
				out[name+"B "+strconv.Itoa(i)] = wireOf(kind, 0, good, s)
			}
		}
	}
	return out
}

// drivesBad are drives that are not ok in a net of so many wires.
func drivesBad(wires int) map[string][]impl.Drive {
	out := map[string][]impl.Drive{"nothing": {{}}}
	for i, a := range append(placesBad(), placesOk()[:6]...) {
		out["no place "+strconv.Itoa(i)] = []impl.Drive{drive(a, 0)}
		out["no place behind others "+strconv.Itoa(i)] = []impl.Drive{drive(o0, 0), drive(v1, 0), drive(v0, 0), drive(a, 0)}
	}
	for _, wire := range []int{math.MinInt, -2, -1, wires, wires + 1, 8, 1 << 32, math.MaxInt} {
		out["wire "+strconv.Itoa(wire)] = []impl.Drive{drive(v0, wire)}
		out["wire behind others "+strconv.Itoa(wire)] = []impl.Drive{drive(o0, 0), drive(v1, 0), drive(v0, wire)}
	}
	places := []impl.Addr{o0, v1, v0, o5}
	for first := range 4 {
		for second := first + 1; second < 4; second++ {
			for other := range min(wires, 2) {
				var alike []impl.Drive
				for i, to := range places {
					alike = append(alike, drive(to, 0))
					if i == second {
						alike[i] = drive(places[first], other)
					}
				}
				out["alike "+strconv.Itoa(first)+strconv.Itoa(second)+strconv.Itoa(other)] = alike
				out["alike alone "+strconv.Itoa(first)+strconv.Itoa(second)+strconv.Itoa(other)] = []impl.Drive{alike[first], alike[second]}
			}
		}
	}
	return out
}

// netsRound are nets that are ok but for a wire that waits for itself.
func netsRound() map[string]impl.Net {
	out := map[string]impl.Net{}
	for _, kind := range wireKinds {
		for _, wires := range []int{1, 2, 3, 4, 7, 8} {
			for _, second := range bothWays {
				name := wireWords[kind] + " " + strconv.Itoa(wires) + " " + strconv.FormatBool(second)
				n := roundOf(kind, wires, second)
				out[name] = n
				out[name+", driven"] = driven(n, drive(o0, wires-1))
				back := copyNet(n)
				slices.Reverse(back.Wires)
				for i := range back.Wires {
					for _, s := range []*impl.Src{&back.Wires[i].A, &back.Wires[i].B} {
						if s.Kind == 2 {
							s.At, s.Not = wires-1-s.At, i == 0
						}
					}
				}
				out[name+", the other way"] = back
				if wires <= 3 {
					beside := copyNet(n)
					beside.Wires = append(beside.Wires, wireOf(11, 0, fromAddr(in0), fromAddr(v0)), wireOf(12, 0, fromWire(wires), fromLast(0)), wireOf(13, 0, fromWire(0), fromWire(wires+1)))
					out[name+", beside others"] = beside
				}
			}
		}
	}
	return out
}

// netsBad are nets that are not ok: of a wire or a drive that is not, of too many, or for the way they are wired.
func netsBad() map[string]impl.Net {
	out := map[string]impl.Net{
		"nine wires": fullNet(9, 0), "nine wires and drives": fullNet(9, 4), "ten wires": fullNet(10, 1), "many wires": fullNet(300, 4),
		"five drives": fullNet(8, 5), "five drives of one wire": fullNet(1, 5), "many drives": fullNet(8, 300), "much": fullNet(20, 20),
		"no wires, a drive": {Drives: []impl.Drive{drive(o0, 0)}}, "no wires, nothing driven": {Drives: make([]impl.Drive, 1)},
		"nine of nothing": {Wires: make([]impl.Wire, 9)}, "eight of nothing": {Wires: make([]impl.Wire, 8)},
	}
	for name, w := range wiresBad(1) {
		if w.A.Kind != 2 && w.B.Kind != 2 {
			out[name+", alone"] = wired(w)
		}
	}
	for name, w := range wiresBad(3) {
		good := wireOf(12, 0, fromAddr(in0), fromAddr(v0))
		out[name+", last"] = driven(wired(good, good, w), drive(o0, 0))
		if w.A.Kind != 2 && w.B.Kind != 2 {
			out[name+", first"] = driven(wired(w, good, good), drive(o0, 0))
		}
	}
	for name, w := range wiresBad(8) {
		full := fullNet(8, 4)
		full.Wires[7] = w
		out[name+", of eight"] = full
	}
	for _, wires := range []int{1, 2, 8} {
		for name, drives := range drivesBad(wires) {
			out["drives, "+strconv.Itoa(wires)+", "+name] = driven(fullNet(wires, 0), drives...)
		}
	}
	maps.Copy(out, netsRound())
	return out
}

func TestNetNames(t *testing.T) {
	got := []int{impl.SrcAddr, impl.SrcWire, impl.SrcLast, impl.WireAnd, impl.WireOr, impl.WireXor, impl.NetWires, impl.NetDrives}
	if !slices.Equal(got, []int{1, 2, 3, 11, 12, 13, 8, 4}) {
		t.Error(got)
	}
}

// checkNet asks all functions of a net that is ok, what it does aside.
func checkNet(t *testing.T, n impl.Net) {
	t.Helper()
	text := wantNetText(n)
	if !wantNetOk(n) || !impl.NetOk(n) {
		t.Fatalf("NetOk of %q = %v", text, impl.NetOk(n))
	}
	if got := impl.NetOrder(n); !slices.Equal(got, wantOrder(n)) {
		t.Errorf("NetOrder of %q = %v, not %v", text, got, wantOrder(n))
	}
	if got := impl.NetNew(n); !sameState(got, wantNew(n)) {
		t.Errorf("NetNew of %q = %v, not %v", text, got, wantNew(n))
	}
	if got := impl.NetText(n); got != text {
		t.Errorf("NetText = %q, not %q", got, text)
	}
	if got, ok := impl.NetRead(text); !ok || !sameNet(got, n) {
		t.Errorf("NetRead(%q) = %v, %v", text, got, ok)
	}
	if !impl.NetSame(n, copyNet(n)) || !impl.NetSame(copyNet(n), n) {
		t.Errorf("NetSame of %q = false", text)
	}
}

// What is ok is told, kept, written, and read as it was written.
func TestNetReadAsWritten(t *testing.T) {
	for _, n := range netsOk() {
		checkNet(t, n)
	}
}

func TestNetTexts(t *testing.T) {
	i5, o2, v3 := placesOk()[5], placesOk()[8], placesOk()[15]
	for text, n := range map[string]impl.Net{
		"-":                                      {},
		"and i0 o5":                              wired(wireOf(11, 0, fromAddr(in0), fromAddr(o5))),
		"or !i0 !v0":                             wired(wireOf(12, 0, notSo(fromAddr(in0)), notSo(fromAddr(v0)))),
		"xor l0 !l0":                             wired(wireOf(13, 0, fromLast(0), notSo(fromLast(0)))),
		"delay 0 i5":                             wired(wireOf(1, 0, fromAddr(i5))),
		"delay 1000 !l0":                         wired(wireOf(1, 1000, notSo(fromLast(0)))),
		"hold 12 o2":                             wired(wireOf(2, 12, fromAddr(o2))),
		"count 3 v3 !i5":                         wired(wireOf(3, 3, fromAddr(v3), notSo(fromAddr(i5)))),
		"rise !v3":                               wired(wireOf(4, 0, notSo(fromAddr(v3)))),
		"latch i0 i5":                            wired(wireOf(5, 0, fromAddr(in0), fromAddr(i5))),
		"rise i0 ; rise !w0":                     wired(wireOf(4, 0, fromAddr(in0)), wireOf(4, 0, notSo(fromWire(0)))),
		"rise w1 ; hold 1 l0":                    wired(wireOf(4, 0, fromWire(1)), wireOf(2, 1, fromLast(0))),
		"rise i0 ; to o2 w0":                     driven(wired(wireOf(4, 0, fromAddr(in0))), drive(o2, 0)),
		"rise i0 ; to o2 w0 ; to v3 w0":          driven(wired(wireOf(4, 0, fromAddr(in0))), drive(o2, 0), drive(v3, 0)),
		"rise i0 ; rise l1 ; to o2 w1":           driven(wired(wireOf(4, 0, fromAddr(in0)), wireOf(4, 0, fromLast(1))), drive(o2, 1)),
		"delay 5 w1 ; or i0 l0 ; to o0 w1":       driven(wired(wireOf(1, 5, fromWire(1)), wireOf(12, 0, fromAddr(in0), fromLast(0))), drive(o0, 1)),
		"count 1000 !w1 w1 ; latch !l0 !l1":      wired(wireOf(3, 1000, notSo(fromWire(1)), fromWire(1)), wireOf(5, 0, notSo(fromLast(0)), notSo(fromLast(1)))),
		"and w1 !i0 ; or i0 l0 ; delay 3 w0":     wired(wireOf(11, 0, fromWire(1), notSo(fromAddr(in0))), wireOf(12, 0, fromAddr(in0), fromLast(0)), wireOf(1, 3, fromWire(0))),
		"rise i0 ; to v2 w0 ; to v0 w0":          driven(wired(wireOf(4, 0, fromAddr(in0))), drive(v2, 0), drive(v0, 0)),
		"xor v0 v0 ; to v0 w0 ; to v1 w0":        driven(wired(wireOf(13, 0, fromAddr(v0), fromAddr(v0))), drive(v0, 0), drive(v1, 0)),
		"latch w1 l0 ; latch v2 !l1":             wired(wireOf(5, 0, fromWire(1), fromLast(0)), wireOf(5, 0, fromAddr(v2), notSo(fromLast(1)))),
		"rise o5 ; rise l0 ; rise l0 ; or w0 w1": wired(wireOf(4, 0, fromAddr(o5)), wireOf(4, 0, fromLast(0)), wireOf(4, 0, fromLast(0)), wireOf(12, 0, fromWire(0), fromWire(1))),
	} {
		checkNet(t, n)
		if got := impl.NetText(n); got != text {
			t.Errorf("NetText = %q, not %q", got, text)
		}
		if got, ok := impl.NetRead(text); !ok || !sameNet(got, n) {
			t.Errorf("NetRead(%q) = %v, %v", text, got, ok)
		}
	}
}

// statesFor are states for a net that need not be ok, made as if it were.
func statesFor(n impl.Net) []impl.State {
	s := wantNew(n)
	bare := copyState(s)
	for i, w := range n.Wires {
		if !wantBlockOk(impl.Block{Kind: w.Kind, N: w.N}) {
			bare.Blocks[i] = impl.Block{}
		}
	}
	return []impl.State{s, bare, {}}
}

// checkNetBad asks all functions of a net that is not ok.
func checkNetBad(t *testing.T, name string, n impl.Net) {
	t.Helper()
	if wantNetOk(n) || impl.NetOk(n) {
		t.Errorf("NetOk = %v of a net that is not ok: %s", impl.NetOk(n), name)
	}
	if got := impl.NetOrder(n); len(got) != 0 {
		t.Errorf("NetOrder = %v of a net that is not ok: %s", got, name)
	}
	if got := impl.NetNew(n); !isNoState(got) {
		t.Errorf("NetNew = %v of a net that is not ok: %s", got, name)
	}
	if got := impl.NetText(n); got != "" {
		t.Errorf("NetText = %q of a net that is not ok: %s", got, name)
	}
	for _, s := range statesFor(n) {
		if then, m := impl.NetStep(n, s, memOf(), 1); !isNoState(then) || !isNothing(m) {
			t.Errorf("NetStep = %v, %v of a net that is not ok: %s", then, m, name)
		}
	}
}

// A net that is not ok tells nothing, whatever it is that makes it so.
func TestNetBad(t *testing.T) {
	for name, n := range netsBad() {
		checkNetBad(t, name, n)
	}
}

// A wire that waits for itself, by SrcWire alone, round as many wires as may be: there is no such net, nor its text.
func TestNetRound(t *testing.T) {
	for name, n := range netsRound() {
		checkNetBad(t, name, n)
		if got, ok := impl.NetRead(wantNetText(n)); ok || !isNoNet(got) {
			t.Errorf("NetRead(%q) = %v, %v", wantNetText(n), got, ok)
		}
	}
	for _, text := range []string{"and w0 i0", "and i0 w0", "rise w0", "rise !w0", "delay 1 w0", "or w1 i0 ; or w0 i0", "rise w1 ; rise w2 ; rise w0", "rise i0 ; rise w1", "rise i0 ; latch w0 w1", "rise w1 ; rise w2 ; rise w3 ; rise w4 ; rise w5 ; rise w6 ; rise w7 ; rise w0"} {
		if got, ok := impl.NetRead(text); ok || !isNoNet(got) {
			t.Errorf("NetRead(%q) = %v, %v", text, got, ok)
		}
	}
}

// The same rounds with one SrcLast in it, at any place of it, are ok.
func TestNetRoundLate(t *testing.T) {
	for _, kind := range wireKinds {
		for _, wires := range []int{1, 2, 3, 8} {
			for _, second := range bothWays {
				for late := range wires {
					n := roundOf(kind, wires, second)
					w := &n.Wires[late]
					for _, s := range []*impl.Src{&w.A, &w.B} {
						if s.Kind == 2 {
							s.Kind = 3
						}
					}
					checkNet(t, n)
					if order := impl.NetOrder(n); order[0] != late || order[wires-1] != (late+1)%wires {
						t.Errorf("NetOrder of %q = %v", wantNetText(n), order)
					}
					checkNetRow(t, n, 6, rand.New(rand.NewPCG(uint64(kind), uint64(late))))
				}
			}
		}
	}
}

// checkNetStep is a net that is ok behind one step, which is asked for twice, and held against what is wanted.
func checkNetStep(t *testing.T, n impl.Net, s impl.State, m impl.Mem, dt int) (impl.State, impl.Mem) {
	t.Helper()
	got, then := impl.NetStep(n, s, m, dt)
	want, wantThen := wantNetStep(n, s, m, dt)
	if !sameState(got, want) || !sameMem(then, wantThen) {
		t.Fatalf("NetStep of %q, %v, %v, %d = %v, %v, not %v, %v", wantNetText(n), s, m, dt, got, then, want, wantThen)
	}
	if again, thenAgain := impl.NetStep(n, s, m, dt); !sameState(again, got) || !sameMem(thenAgain, then) {
		t.Fatalf("NetStep of %q, %v, %v, %d = %v, %v the second time", wantNetText(n), s, m, dt, again, thenAgain)
	}
	return got, then
}

// checkNetRow goes so many steps of a net, with other numbers coming in at each, on what was left by the one ahead.
func checkNetRow(t *testing.T, n impl.Net, steps int, r *rand.Rand) {
	t.Helper()
	s, m := impl.NetNew(n), someMem(r)
	for range steps {
		m.In = someMem(r).In
		s, m = checkNetStep(t, n, s, m, someTime(r))
	}
}

func TestNetStepMany(t *testing.T) {
	r := rand.New(rand.NewPCG(1, 7))
	for _, n := range netsOk() {
		checkNetRow(t, n, 12, r)
	}
}

// someBlock is a block of a wire, also one to which no row of steps leads.
func someBlock(r *rand.Rand, w impl.Wire) impl.Block {
	if w.Kind > 5 {
		return impl.Block{}
	}
	count := 0
	if w.Kind <= 3 {
		count = []int{0, 1, 2, 999, 1000, w.N, r.IntN(1001)}[r.IntN(7)]
	}
	return impl.Block{Kind: w.Kind, N: w.N, On: r.IntN(2) == 0, Was: r.IntN(2) == 0, T: count}
}

// States to which no row of steps leads: Last need not fit the blocks, nor T what is on.
func TestNetStepAnyState(t *testing.T) {
	r := rand.New(rand.NewPCG(2, 7))
	for _, n := range netsOk() {
		var s impl.State
		for _, w := range n.Wires {
			s.Blocks, s.Last = append(s.Blocks, someBlock(r, w)), append(s.Last, r.IntN(2) == 0)
		}
		m := someMem(r)
		for range 3 {
			s, m = checkNetStep(t, n, s, m, someTime(r))
		}
	}
}

// turnNet is the same net with the wire at each place i standing at to[i], every At and every drive's wire turned
// along.
func turnNet(n impl.Net, to []int) impl.Net {
	out := impl.Net{Wires: make([]impl.Wire, len(n.Wires))}
	for i, w := range n.Wires {
		for _, s := range []*impl.Src{&w.A, &w.B} {
			if s.Kind == 2 || s.Kind == 3 {
				s.At = to[s.At]
			}
		}
		out.Wires[to[i]] = w
	}
	for _, d := range n.Drives {
		out.Drives = append(out.Drives, drive(d.To, to[d.Wire]))
	}
	return out
}

// turnState is the state of a net whose wires stand elsewhere.
func turnState(s impl.State, to []int) impl.State {
	out := impl.State{Blocks: make([]impl.Block, len(to)), Last: make([]bool, len(to))}
	for i, where := range to {
		out.Blocks[where], out.Last[where] = s.Blocks[i], s.Last[i]
	}
	return out
}

// checkTurned holds a net against the same with its wires in another order, step by step: the same at every place, and
// for every wire.
func checkTurned(t *testing.T, n impl.Net, to []int, steps int, r *rand.Rand) {
	t.Helper()
	other := turnNet(n, to)
	if !impl.NetOk(n) || !impl.NetOk(other) {
		t.Fatalf("NetOk of %q = %v, of %q = %v", wantNetText(n), impl.NetOk(n), wantNetText(other), impl.NetOk(other))
	}
	if got := impl.NetOrder(other); !slices.Equal(got, wantOrder(other)) {
		t.Errorf("NetOrder of %q = %v", wantNetText(other), got)
	}
	s, m := impl.NetNew(n), someMem(r)
	then, mem := impl.NetNew(other), copyMem(m)
	if !sameState(turnState(s, to), then) {
		t.Fatalf("NetNew of %q = %v, of %q = %v", wantNetText(n), s, wantNetText(other), then)
	}
	for step := range steps {
		in, dt := someMem(r).In, someTime(r)
		m.In, mem.In = in, slices.Clone(in)
		s, m = impl.NetStep(n, s, m, dt)
		then, mem = impl.NetStep(other, then, mem, dt)
		if isNothing(m) || !sameMem(m, mem) || !sameState(turnState(s, to), then) {
			t.Fatalf("step %d of %q leaves %v, %v, of %q %v, %v", step, wantNetText(n), s, m, wantNetText(other), then, mem)
		}
	}
}

// permsOf are all orders of so many.
func permsOf(many int) [][]int {
	if many == 0 {
		return [][]int{nil}
	}
	var out [][]int
	for _, p := range permsOf(many - 1) {
		for i := range many {
			out = append(out, slices.Insert(slices.Clone(p), i, many-1))
		}
	}
	return out
}

// Promise 7: how the wires of a net stand makes no difference.
func TestNetTurned(t *testing.T) {
	r := rand.New(rand.NewPCG(3, 7))
	for i := range 2500 {
		wires := 2 + i%7
		checkTurned(t, someNet(r, wires), r.Perm(wires), 30, r)
	}
}

// Promise 7: every order of at most four wires.
func TestNetTurnedEvery(t *testing.T) {
	r := rand.New(rand.NewPCG(4, 7))
	for wires := range 5 {
		for range 40 {
			n := someNet(r, wires)
			for _, to := range permsOf(wires) {
				checkTurned(t, n, to, 10, r)
			}
		}
	}
}

// Promise 7: each wire is told behind those that it waits for, and as soon as it can be.
func checkOrder(t *testing.T, n impl.Net) {
	t.Helper()
	order := impl.NetOrder(n)
	where := make([]int, len(n.Wires))
	for k, i := range order {
		where[i] = k
	}
	for k, i := range order {
		// from is where this wire can be told first; all that are told from there on till it must stand ahead of it.
		from := 0
		for _, s := range inputsOf(n.Wires[i]) {
			if s.Kind == 2 {
				from = max(from, where[s.At]+1)
			}
		}
		if from > k {
			t.Fatalf("NetOrder of %q = %v: %d is told too soon", wantNetText(n), order, i)
		}
		for _, ahead := range order[from:k] {
			if ahead > i {
				t.Fatalf("NetOrder of %q = %v: %d is told too late", wantNetText(n), order, i)
			}
		}
	}
	if sorted := slices.Sorted(slices.Values(order)); len(sorted) != len(n.Wires) || len(sorted) > 0 && (sorted[0] != 0 || sorted[len(sorted)-1] != len(sorted)-1) {
		t.Fatalf("NetOrder of %q = %v", wantNetText(n), order)
	}
}

func TestNetOrderMany(t *testing.T) {
	r := rand.New(rand.NewPCG(5, 7))
	for i := range 20000 {
		n := someNet(r, i%9)
		checkOrder(t, n)
		if got := impl.NetOrder(n); !slices.Equal(got, wantOrder(n)) {
			t.Fatalf("NetOrder of %q = %v, not %v", wantNetText(n), got, wantOrder(n))
		}
	}
}

func TestNetOrderTable(t *testing.T) {
	for text, want := range map[string][]int{
		"-":                           nil,
		"rise i0":                     {0},
		"rise l0":                     {0},
		"rise i0 ; rise i0 ; rise i0": {0, 1, 2},
		"rise w1 ; rise w2 ; rise i0": {2, 1, 0},
		"rise w2 ; rise i0 ; rise i0": {1, 2, 0},
		"rise w1 ; rise i0 ; rise i0": {1, 0, 2},
		"rise l1 ; rise l2 ; rise l0": {0, 1, 2},
		"and w1 w2 ; rise w2 ; rise i0 ; rise i0":                                                   {2, 1, 0, 3},
		"and w3 w1 ; rise i0 ; rise i0 ; rise i0":                                                   {1, 2, 3, 0},
		"and w1 w1 ; rise i0":                                                                       {1, 0},
		"and w1 !w1 ; rise w2 ; rise !i0":                                                           {2, 1, 0},
		"rise w3 ; rise w0 ; rise i0 ; rise w2":                                                     {2, 3, 0, 1},
		"rise w7 ; rise w6 ; rise w5 ; rise w4 ; rise i0 ; rise i0 ; rise i0 ; rise i0":             {4, 3, 5, 2, 6, 1, 7, 0},
		"rise w1 ; rise w2 ; rise w3 ; rise w4 ; rise w5 ; rise w6 ; rise w7 ; rise l0":             {7, 6, 5, 4, 3, 2, 1, 0},
		"rise i0 ; rise w0 ; rise w1 ; rise w2 ; rise w3 ; rise w4 ; rise w5 ; rise w6":             {0, 1, 2, 3, 4, 5, 6, 7},
		"and w4 w5 ; and w4 w6 ; and w5 w6 ; rise w0 ; rise i0 ; rise w4 ; rise w5 ; count 1 w3 w2": {4, 5, 0, 3, 6, 1, 2, 7},
	} {
		n, ok := impl.NetRead(text)
		if got := impl.NetOrder(n); !ok || !slices.Equal(got, want) {
			t.Errorf("NetOrder of %q = %v, not %v", text, got, want)
		}
		checkOrder(t, n)
	}
}

// everyNet yields all nets of so many wires with these Kinds and inputs.
func everyNet(wires int, choices []impl.Wire, yield func(n impl.Net)) {
	n := impl.Net{Wires: make([]impl.Wire, wires)}
	var fill func(i int)
	fill = func(i int) {
		if i == wires {
			yield(n)
			return
		}
		for _, w := range choices {
			n.Wires[i] = w
			fill(i + 1)
		}
	}
	fill(0)
}

// checkWhether holds whether a net is ok, and its order, against what is wanted.
func checkWhether(t *testing.T, n impl.Net) bool {
	t.Helper()
	want := wantNetOk(n)
	if got := impl.NetOk(n); got != want {
		t.Fatalf("NetOk(%+v) = %v", n, got)
	}
	var order []int
	if want {
		order = wantOrder(n)
	}
	if got := impl.NetOrder(n); !slices.Equal(got, order) {
		t.Fatalf("NetOrder(%+v) = %v, not %v", n, got, order)
	}
	return want
}

// Every way in which at most four wires wait for one another.
func TestNetOrderEvery(t *testing.T) {
	for wires, want := range []int{1, 1, 5, 64, 1587} {
		var choices []impl.Wire
		inputs := []impl.Src{fromAddr(in0)}
		for i := range wires {
			inputs = append(inputs, fromWire(i))
		}
		for i, a := range inputs {
			for _, b := range inputs[i:] {
				choices = append(choices, wireOf(13, 0, b, a))
			}
		}
		many := 0
		everyNet(wires, choices, func(n impl.Net) { many += wantIs(checkWhether(t, n)) })
		if many != want {
			t.Errorf("%d nets of %d wires are ok, not %d", many, wires, want)
		}
	}
}

// Every net of two wires, of each Kind, with each kind of input.
func TestNetEveryTwo(t *testing.T) {
	inputs := []impl.Src{fromAddr(v0), fromWire(0), fromWire(1), notSo(fromWire(1)), fromLast(0), fromLast(1), {}}
	var choices []impl.Wire
	for _, kind := range wireKinds {
		for _, a := range inputs {
			for _, b := range inputs {
				choices = append(choices, wireOf(kind, 0, a, b))
			}
		}
	}
	many := 0
	everyNet(2, choices, func(n impl.Net) { many += wantIs(checkWhether(t, n)) })
	if many != 9612 {
		t.Errorf("%d of them are ok", many)
	}
}

// leavesOf are all numbers, and all bools, of what is pointed to, whose lists must be its own.
func leavesOf(p any) []reflect.Value {
	var out []reflect.Value
	var walk func(v reflect.Value)
	walk = func(v reflect.Value) {
		switch v.Kind() {
		case reflect.Struct:
			for i := range v.NumField() {
				walk(v.Field(i))
			}
		case reflect.Slice:
			for i := range v.Len() {
				walk(v.Index(i))
			}
		default:
			out = append(out, v)
		}
	}
	walk(reflect.ValueOf(p).Elem())
	return out
}

// turnedNets are all nets that differ from one in one number or bool alone.
func turnedNets(n impl.Net) []impl.Net {
	var out []impl.Net
	base := copyNet(n)
	for i, leaf := range leavesOf(&base) {
		if leaf.Kind() == reflect.Bool {
			other := copyNet(n)
			leavesOf(&other)[i].SetBool(!leaf.Bool())
			out = append(out, other)
			continue
		}
		for _, to := range []int64{-1, 0, 1, 2, 3, 4, 5, 6, 7, 8, 10, 11, 12, 13, 14, 1000, 1001, leaf.Int() + 256, leaf.Int() + 1<<32} {
			if to != leaf.Int() {
				other := copyNet(n)
				leavesOf(&other)[i].SetInt(to)
				out = append(out, other)
			}
		}
	}
	return out
}

// checkAny holds all functions of a net, ok or not, against what is wanted.
func checkAny(t *testing.T, name string, n impl.Net) bool {
	t.Helper()
	if !wantNetOk(n) {
		checkNetBad(t, name, n)
		return false
	}
	checkNet(t, n)
	return true
}

// Nets that are ok, with one part turned: some are ok then, and most are not.
func TestNetTurnedParts(t *testing.T) {
	r := rand.New(rand.NewPCG(6, 7))
	ok := 0
	for i := range 54 {
		n := someNet(r, i%9)
		for _, other := range append(turnedNets(n), turnedNets(fullNet(1+i%8, i%5))...) {
			ok += wantIs(checkAny(t, wantNetText(n)+" turned", other))
		}
	}
	if ok < 5000 {
		t.Errorf("only %d of them are ok", ok)
	}
}

// Nets with a wire, or a drive, more or fewer.
func TestNetTurnedLists(t *testing.T) {
	r := rand.New(rand.NewPCG(8, 7))
	ok := 0
	for i := range 540 {
		n := someNet(r, i%9)
		var others []impl.Net
		for at := range n.Wires {
			fewer, twice := copyNet(n), copyNet(n)
			fewer.Wires = slices.Delete(fewer.Wires, at, at+1)
			twice.Wires = append(twice.Wires, n.Wires[at])
			others = append(others, fewer, twice)
		}
		for at := range n.Drives {
			fewer, twice := copyNet(n), copyNet(n)
			fewer.Drives = slices.Delete(fewer.Drives, at, at+1)
			twice.Drives = append(twice.Drives, n.Drives[at])
			others = append(others, fewer, twice)
		}
		for _, to := range placesOk()[6:] {
			more := copyNet(n)
			more.Drives = append(more.Drives, drive(to, 0))
			others = append(others, more)
		}
		for _, other := range others {
			ok += wantIs(checkAny(t, wantNetText(n)+" turned", other))
			if impl.NetSame(n, other) || impl.NetSame(other, n) {
				t.Errorf("NetSame(%v, %v)", n, other)
			}
		}
	}
	if ok < 1000 {
		t.Errorf("only %d of them are ok", ok)
	}
}

// What is just ok, and what is one too much, written out.
func TestNetBounds(t *testing.T) {
	good := wireOf(4, 0, fromAddr(in0))
	eight := slices.Repeat([]impl.Wire{good}, 8)
	four := []impl.Drive{drive(o0, 0), drive(o5, 0), drive(v0, 0), drive(v1, 0)}
	last := func(w impl.Wire) impl.Net { return wired(good, good, w) }
	for name, c := range map[string]struct {
		n  impl.Net
		ok bool
	}{
		"no wires":                {impl.Net{}, true},
		"eight wires":             {wired(eight...), true},
		"nine wires":              {wired(append(slices.Clone(eight), good)...), false},
		"four drives":             {driven(wired(good), four...), true},
		"five drives":             {driven(wired(good), append(slices.Clone(four), drive(v2, 0))...), false},
		"eight and four":          {driven(wired(eight...), four...), true},
		"a delay of 0":            {last(wireOf(1, 0, fromWire(0))), true},
		"a delay of 1000":         {last(wireOf(1, 1000, fromWire(0))), true},
		"a delay of 1001":         {last(wireOf(1, 1001, fromWire(0))), false},
		"a delay of -1":           {last(wireOf(1, -1, fromWire(0))), false},
		"a hold of 0":             {last(wireOf(2, 0, fromWire(0))), true},
		"a hold of 1000":          {last(wireOf(2, 1000, fromWire(0))), true},
		"a hold of 1001":          {last(wireOf(2, 1001, fromWire(0))), false},
		"a hold of -1":            {last(wireOf(2, -1, fromWire(0))), false},
		"a count of 0":            {last(wireOf(3, 0, fromWire(0), fromWire(1))), true},
		"a count of 1000":         {last(wireOf(3, 1000, fromWire(0), fromWire(1))), true},
		"a count of 1001":         {last(wireOf(3, 1001, fromWire(0), fromWire(1))), false},
		"a count of -1":           {last(wireOf(3, -1, fromWire(0), fromWire(1))), false},
		"a rise of 1":             {last(wireOf(4, 1, fromWire(0))), false},
		"a latch of 0":            {last(wireOf(5, 0, fromWire(0), fromWire(1))), true},
		"a latch of 1":            {last(wireOf(5, 1, fromWire(0), fromWire(1))), false},
		"an and of 0":             {last(wireOf(11, 0, fromWire(0), fromWire(1))), true},
		"an and of 1":             {last(wireOf(11, 1, fromWire(0), fromWire(1))), false},
		"an or of 1":              {last(wireOf(12, 1, fromWire(0), fromWire(1))), false},
		"a xor of -1":             {last(wireOf(13, -1, fromWire(0), fromWire(1))), false},
		"the last wire":           {wired(wireOf(4, 0, fromWire(2)), good, good), true},
		"the last wire, late":     {last(wireOf(4, 0, fromLast(2))), true},
		"one behind it":           {wired(wireOf(4, 0, fromWire(3)), good, good), false},
		"one behind it, late":     {last(wireOf(4, 0, fromLast(3))), false},
		"wire -1":                 {last(wireOf(4, 0, fromWire(-1))), false},
		"wire -1, late":           {last(wireOf(4, 0, fromLast(-1))), false},
		"wire 7 of eight":         {wired(append(slices.Clone(eight[:7]), wireOf(4, 0, fromLast(7)))...), true},
		"wire 8 of eight":         {wired(append(slices.Clone(eight[:7]), wireOf(4, 0, fromLast(8)))...), false},
		"a drive of the last":     {driven(wired(good, good), drive(o0, 1)), true},
		"a drive of one behind":   {driven(wired(good, good), drive(o0, 2)), false},
		"a drive of -1":           {driven(wired(good, good), drive(o0, -1)), false},
		"a drive of what is in":   {driven(wired(good), drive(in0, 0)), false},
		"a drive at no place":     {driven(wired(good), drive(impl.Addr{Kind: 2, At: 6}, 0)), false},
		"two places of one wire":  {driven(wired(good), drive(o0, 0), drive(v0, 0)), true},
		"one place of one wire":   {driven(wired(good), drive(o0, 0), drive(o0, 0)), false},
		"one place of two wires":  {driven(wired(good, good), drive(o0, 0), drive(o0, 1)), false},
		"a place that is none":    {wired(wireOf(4, 0, fromAddr(impl.Addr{Kind: 1, At: 6}))), false},
		"At beside a place":       {last(wireOf(4, 0, impl.Src{Kind: 1, Addr: in0, At: 1})), false},
		"a place beside At":       {last(wireOf(4, 0, impl.Src{Kind: 2, Addr: in0, At: 1})), false},
		"a place beside At, late": {last(wireOf(4, 0, impl.Src{Kind: 3, Addr: in0, At: 1})), false},
		"a rise with two":         {wired(wireOf(4, 0, fromAddr(in0), fromAddr(in0))), false},
		"a delay with two":        {wired(wireOf(1, 1, fromAddr(in0), fromAddr(in0))), false},
		"a hold with two":         {wired(wireOf(2, 1, fromAddr(in0), fromAddr(in0))), false},
		"a rise with Not alone":   {wired(wireOf(4, 0, fromAddr(in0), impl.Src{Not: true})), false},
		"a latch with one":        {wired(wireOf(5, 0, fromAddr(in0))), false},
		"a count with one":        {wired(wireOf(3, 1, fromAddr(in0))), false},
		"an and with one":         {wired(wireOf(11, 0, fromAddr(in0))), false},
		"an or with the other":    {wired(wireOf(12, 0, impl.Src{}, fromAddr(in0))), false},
	} {
		if got := impl.NetOk(c.n); got != c.ok {
			t.Errorf("%s: NetOk = %v", name, got)
		}
		if checkAny(t, name, c.n) != c.ok {
			t.Errorf("%s: wanted otherwise", name)
		}
	}
}

// stepOnce is whether each wire of a net is on behind one step of a memory, from the first on.
func stepOnce(t *testing.T, n impl.Net, m impl.Mem) []bool {
	t.Helper()
	s, _ := checkNetStep(t, n, impl.NetNew(n), m, 1)
	return s.Last
}

// Each Kind of wire, by each pair of inputs, at the first step; written out.
func TestNetWireTable(t *testing.T) {
	for _, c := range []struct {
		kind, n int
		// on is whether it is on, of both off, the first, the second, and both on.
		on string
	}{
		{11, 0, "0001"}, {12, 0, "0111"}, {13, 0, "0110"},
		{1, 0, "0101"}, {1, 1, "0000"}, {2, 0, "0101"}, {2, 5, "0101"},
		{3, 0, "1111"}, {3, 1, "0100"}, {3, 2, "0000"}, {4, 0, "0101"}, {5, 0, "0100"},
	} {
		for both := range 4 {
			m := impl.MemOpen()
			m.In[0], m.In[1] = both&1, both>>1
			n := wired(kindWire(c.kind, c.n, fromAddr(in0), fromAddr(placesOk()[1])))
			if got := stepOnce(t, n, m)[0]; got != (c.on[both] == '1') {
				t.Errorf("%q of %02b is %v", wantNetText(n), both, got)
			}
		}
	}
}

// Each input with Not and without, of each place, with numbers that are on and with 0; as the first and as the second.
func TestNetInputAddr(t *testing.T) {
	for _, a := range placesOk() {
		for _, number := range []int{0, 1, -1, 2, 256, -1000000, 1000000} {
			for _, not := range bothWays {
				m := impl.MemOpen()
				for _, other := range placesOk() {
					(*listOf(&m, other.Kind))[other.At] = wantIs(number == 0)
				}
				(*listOf(&m, a.Kind))[a.At] = number
				in := fromAddr(a)
				in.Not = not
				got := stepOnce(t, wired(wireOf(11, 0, in, in), wireOf(12, 0, in, fromLast(0)), wireOf(12, 0, fromLast(1), in), wireOf(4, 0, in)), m)
				if want := (number != 0) != not; !slices.Equal(got, []bool{want, want, want, want}) {
					t.Errorf("%q of %d is %v", wantSrcText(in), number, got)
				}
			}
		}
	}
}

// Each input of a wire, and of what one was, with Not and without, as the first and as the second.
func TestNetInputWire(t *testing.T) {
	for _, on := range bothWays {
		for _, was := range bothWays {
			for _, not := range bothWays {
				wire, last := fromWire(1), fromLast(1)
				wire.Not, last.Not = not, not
				n := wired(wireOf(11, 0, wire, wire), wireOf(12, 0, fromAddr(in0), fromAddr(in0)), wireOf(11, 0, last, last), wireOf(5, 0, fromAddr(v0), notSo(wire)), wireOf(5, 0, fromAddr(v0), notSo(last)))
				m := impl.MemOpen()
				m.In[0], m.Var[0] = wantIs(on), 1
				s := impl.NetNew(n)
				s.Last = []bool{!was, was, !was, !was, !was}
				got, _ := checkNetStep(t, n, s, m, 0)
				if want := []bool{on != not, on, was != not, on != not, was != not}; !slices.Equal(got.Last, want) {
					t.Errorf("on %v, was %v, not %v: %v, not %v", on, was, not, got.Last, want)
				}
			}
		}
	}
}

// rowOf is whether each wire is on at each step, a word a step, of what comes in at i0, a sign a step.
func rowOf(t *testing.T, text string, ins string, dt int) string {
	t.Helper()
	n, ok := impl.NetRead(text)
	if !ok {
		t.Fatalf("NetRead(%q)", text)
	}
	s, m := impl.NetNew(n), impl.MemOpen()
	var out []string
	for _, in := range ins {
		m.In[0] = int(in - '0')
		s, m = checkNetStep(t, n, s, m, dt)
		word := ""
		for _, on := range s.Last {
			word += strconv.Itoa(wantIs(on))
		}
		out = append(out, word)
	}
	return strings.Join(out, " ")
}

// What a wire was: of one ahead, of one behind, and of itself; at the first step it was off.
func TestNetLastTable(t *testing.T) {
	for _, c := range []struct {
		text, ins string
		dt        int
		want      string
	}{
		{"or i0 i0 ; or l0 l0", "1101001", 1, "10 11 01 10 01 00 10"},
		{"or l1 l1 ; or i0 i0", "1101001", 1, "01 11 10 01 10 00 01"},
		{"or i0 l0", "0010000", 1, "0 0 1 1 1 1 1"},
		{"xor i0 l0", "1011010", 1, "1 1 0 1 1 0 0"},
		{"or !l0 !l0", "00000", 1, "1 0 1 0 1"},
		{"and i0 !l0", "1111011", 1, "1 0 1 0 0 1 0"},
		{"or l1 l1 ; or l2 l2 ; or i0 i0", "1000100", 1, "001 010 100 000 001 010 100"},
		{"or i0 i0 ; or l0 l0 ; or l1 l1", "1000100", 1, "100 010 001 000 100 010 001"},
		{"or l2 i0 ; or l0 l0 ; or l1 l1", "1000000", 1, "100 010 001 100 010 001 100"},
		{"or !l1 !l1 ; or !l0 !l0", "0000", 1, "11 00 11 00"},
		{"or l0 l0", "111", 1, "0 0 0"},
		{"rise !l0", "00000", 1, "1 0 1 0 1"},
		{"delay 2 !l0", "0000000", 1, "0 0 1 0 0 0 1"},
		{"count 2 l1 l0 ; xor i0 l1", "1000000", 1, "01 01 01 01 01 01 01"},
		{"count 2 i0 l0", "1010101", 1, "0 0 1 0 0 0 1"},
		{"latch i0 l0", "11100", 1, "1 0 1 0 0"},
	} {
		if got := rowOf(t, c.text, c.ins, c.dt); got != c.want {
			t.Errorf("%q of %s: %s, not %s", c.text, c.ins, got, c.want)
		}
	}
}

// What a wire was, over many steps, of one ahead, of one behind, and of itself: as it was at the step ahead, just so.
func TestNetLastMany(t *testing.T) {
	r := rand.New(rand.NewPCG(9, 7))
	for range 300 {
		n := someNet(r, 3)
		for at := range 3 {
			n.Wires = append(n.Wires, wireOf(12, 0, fromLast(at), fromLast(at)))
		}
		n.Wires = append(n.Wires, wireOf(12, 0, fromLast(6), fromAddr(v0)), wireOf(11, 0, notSo(fromLast(7)), notSo(fromLast(7))))
		n.Drives = nil
		s, m := impl.NetNew(n), impl.MemOpen()
		was, ever := make([]bool, 8), false
		for range 40 {
			m = someMem(r)
			m.Var[0] = wantIs(r.IntN(20) == 0)
			ever = ever || m.Var[0] != 0
			s, m = checkNetStep(t, n, s, m, someTime(r))
			if !slices.Equal(s.Last[3:6], was[:3]) || s.Last[6] != ever || s.Last[7] == was[7] {
				t.Fatalf("%q: %v, behind %v", wantNetText(n), s.Last, was)
			}
			was = slices.Clone(s.Last)
		}
	}
}

// A wire that drives two places, or four; and drives in another order.
func TestNetDrives(t *testing.T) {
	r := rand.New(rand.NewPCG(10, 7))
	for range 500 {
		n := someNet(r, 1+r.IntN(8))
		wire := r.IntN(len(n.Wires))
		n.Drives = nil
		for _, to := range r.Perm(12)[:1+r.IntN(4)] {
			n.Drives = append(n.Drives, drive(placesOk()[6+to], wire))
		}
		other := copyNet(n)
		r.Shuffle(len(n.Drives), func(i int, j int) { other.Drives[i], other.Drives[j] = other.Drives[j], other.Drives[i] })
		s, m := impl.NetNew(n), someMem(r)
		for range 10 {
			dt, was := someTime(r), copyMem(m)
			then, mem := checkNetStep(t, other, s, m, dt)
			s, m = checkNetStep(t, n, s, m, dt)
			if !sameState(then, s) || !sameMem(mem, m) {
				t.Fatalf("%q leaves %v, %v, %q %v, %v", wantNetText(n), s, m, wantNetText(other), then, mem)
			}
			for _, a := range placesOk() {
				want := impl.MemGet(was, a)
				if slices.ContainsFunc(n.Drives, func(d impl.Drive) bool { return d.To == a }) {
					want = wantIs(s.Last[wire])
				}
				if got := impl.MemGet(m, a); got != want {
					t.Fatalf("%q leaves %d at %v, not %d", wantNetText(n), got, a, want)
				}
			}
		}
	}
}

// A place that a drive puts and an input reads: the memory as it was given is read, in the whole step.
func TestNetDrivenPlaceRead(t *testing.T) {
	for _, c := range []struct{ text, ins, want string }{
		{"or i0 i0 ; or o0 o0 ; to o0 w0", "1101001", "10 11 01 10 01 00 10"},
		{"or v0 v0 ; or i0 i0 ; to v0 w1", "1101001", "01 11 10 01 10 00 01"},
		{"or !v0 !v0 ; to v0 w0", "00000", "1 0 1 0 1"},
		{"or !v0 !v0 ; or !v0 w0 ; to v0 w0 ; to v1 w1", "0000", "11 00 11 00"},
		{"or i0 v0 ; to v0 w0 ; to v1 w0", "0010000", "0 0 1 1 1 1 1"},
		{"or v1 v1 ; or v0 i0 ; to v0 w0 ; to v1 w1", "1000000", "01 10 01 10 01 10 01"},
		{"or w1 o5 ; or i0 o5 ; rise o5 ; to o5 w0", "1000", "110 111 110 110"},
	} {
		if got := rowOf(t, c.text, c.ins, 1); got != c.want {
			t.Errorf("%q of %s: %s, not %s", c.text, c.ins, got, c.want)
		}
	}
}

// Places that are driven are 1 or 0, whatever was there; all others stay.
func TestNetDriveNumbers(t *testing.T) {
	n, _ := impl.NetRead("or i0 i0 ; or !i0 !i0 ; to o0 w0 ; to o5 w1 ; to v4 w0 ; to v5 w1")
	want := memOf()
	want.Out[0], want.Out[5], want.Var[4], want.Var[5] = 1, 0, 1, 0
	if _, m := impl.NetStep(n, impl.NetNew(n), memOf(), 0); !sameMem(m, want) {
		t.Errorf("%v, not %v", m, want)
	}
	if s, m := impl.NetStep(impl.Net{}, impl.State{}, memOf(), 0); !sameMem(m, memOf()) || !isNoState(s) {
		t.Errorf("a net of nothing leaves %v, %v", s, m)
	}
	if s, m := impl.NetStep(wired(wireOf(4, 0, fromAddr(in0))), impl.State{Blocks: []impl.Block{{Kind: 4}}, Last: []bool{true}}, memOf(), 0); !sameMem(m, memOf()) || !sameState(s, impl.State{Blocks: []impl.Block{{Kind: 4, On: true, Was: true}}, Last: []bool{true}}) {
		t.Errorf("a net without drives leaves %v, %v", s, m)
	}
}

// A block in a net, in each place of it, does what it does by itself, its second input off for the kinds that have none.
func TestNetBlocks(t *testing.T) {
	r := rand.New(rand.NewPCG(11, 7))
	for _, kind := range wireKinds[:5] {
		for _, count := range netNs(kind) {
			for place := range 3 {
				n := wired(wireOf(13, 0, fromAddr(v0), fromLast(0)), wireOf(12, 0, fromAddr(v1), fromLast(2)), wireOf(4, 0, fromAddr(v2)))
				n.Wires = slices.Insert(n.Wires, place, kindWire(kind, count, fromAddr(in0), fromAddr(placesOk()[1])))
				s := impl.NetNew(n)
				b := impl.BlockNew(kind, count)
				var row []stepIn
				for range 25 {
					m := someMem(r)
					in := stepIn{x: m.In[0] != 0, y: m.In[1] != 0 && hasTwo(kind), dt: someTime(r)}
					row = append(row, in)
					var on bool
					b, on = impl.BlockStep(b, in.x, in.y, in.dt)
					s, _ = checkNetStep(t, n, s, m, in.dt)
					if s.Blocks[place] != b || s.Last[place] != on || b != wantBehind(kind, count, row) {
						t.Fatalf("%q: %+v, %v, not %+v, %v", wantNetText(n), s.Blocks[place], s.Last[place], b, on)
					}
				}
			}
		}
	}
}

// Blocks one behind the other, in any order of their places: each has what the one ahead is at this very step.
func TestNetBlocksChained(t *testing.T) {
	for _, to := range permsOf(4) {
		n := turnNet(wired(wireOf(1, 2, fromAddr(in0)), wireOf(2, 3, fromWire(0)), wireOf(3, 2, fromWire(1), fromAddr(v0)), wireOf(4, 0, fromWire(2))), to)
		s, m := impl.NetNew(n), impl.MemOpen()
		got := ""
		for _, in := range "111000001110001" {
			m.In[0] = int(in - '0')
			s, m = checkNetStep(t, n, s, m, 1)
			for i := range 4 {
				got += strconv.Itoa(wantIs(s.Last[to[i]]))
			}
			got += " "
		}
		if want := "0000 0000 1100 0100 0100 0100 0000 0000 0000 0000 1111 0110 0110 0110 0010 "; got != want {
			t.Fatalf("%q: %s, not %s", wantNetText(n), got, want)
		}
	}
}

// checkNothing says that a step leaves nothing at all.
func checkNothing(t *testing.T, name string, n impl.Net, s impl.State, m impl.Mem, dt int) {
	t.Helper()
	if then, mem := impl.NetStep(n, s, m, dt); !isNoState(then) || !isNothing(mem) {
		t.Errorf("%s: NetStep leaves %v, %v", name, then, mem)
	}
}

// statesBad are states that are not one of a net that is ok and has wires.
func statesBad(n impl.Net) map[string]impl.State {
	out := map[string]impl.State{"nothing": {}}
	turn := func(name string, f func(s *impl.State)) {
		s := wantNew(n)
		f(&s)
		out[name] = s
	}
	turn("no Blocks", func(s *impl.State) { s.Blocks = nil })
	turn("no Last", func(s *impl.State) { s.Last = nil })
	turn("a block too few", func(s *impl.State) { s.Blocks = s.Blocks[1:] })
	turn("a block too few, with room", func(s *impl.State) { s.Blocks = s.Blocks[:len(s.Blocks)-1] })
	turn("a block of nothing too many", func(s *impl.State) { s.Blocks = append(s.Blocks, impl.Block{}) })
	turn("a block too many", func(s *impl.State) { s.Blocks = append(s.Blocks, s.Blocks[0]) })
	turn("a Last too few", func(s *impl.State) { s.Last = s.Last[1:] })
	turn("a Last too many", func(s *impl.State) { s.Last = append(s.Last, false) })
	turn("both too few", func(s *impl.State) { s.Blocks, s.Last = s.Blocks[1:], s.Last[1:] })
	turn("both too many", func(s *impl.State) { s.Blocks, s.Last = append(s.Blocks, impl.Block{}), append(s.Last, true) })
	for i, w := range n.Wires {
		put := func(what string, b impl.Block) {
			turn(what+" at "+strconv.Itoa(i), func(s *impl.State) { s.Blocks[i] = b })
		}
		for k, b := range append(blocksOk(), append(blocksBad(), impl.Block{})...) {
			fits := b.Kind == w.Kind && b.N == w.N && wantBlockOk(b) || w.Kind > 5 && b == impl.Block{}
			if !fits {
				put("block "+strconv.Itoa(k), b)
			}
		}
		own := wantNew(n).Blocks[i]
		for what, f := range map[string]func(b *impl.Block){
			"N more":       func(b *impl.Block) { b.N++ },
			"N less":       func(b *impl.Block) { b.N-- },
			"Kind more":    func(b *impl.Block) { b.Kind++ },
			"another Kind": func(b *impl.Block) { b.Kind -= 256 },
			"T -1":         func(b *impl.Block) { b.T = -1 },
			"T 1001":       func(b *impl.Block) { b.T = 1001 },
		} {
			b := own
			f(&b)
			put(what, b)
		}
		if w.Kind > 3 {
			b := own
			b.T = 1
			put("T 1", b)
		}
		if w.Kind > 5 {
			put("of its Kind", impl.Block{Kind: w.Kind})
			put("On", impl.Block{On: true})
			put("Was", impl.Block{Was: true})
		}
	}
	return out
}

func TestNetStepBadState(t *testing.T) {
	nets := []impl.Net{fullNet(8, 4)}
	for _, kind := range wireKinds {
		nets = append(nets, driven(wired(kindWire(kind, 0, fromAddr(in0), fromLast(0))), drive(o0, 0)))
	}
	for _, kind := range kindsMeasured {
		nets = append(nets, wired(wireOf(12, 0, fromAddr(in0), fromAddr(v0)), kindWire(kind, 3, fromWire(0), fromAddr(o0))))
	}
	for _, n := range nets {
		if then, m := impl.NetStep(n, wantNew(n), memOf(), 1); isNoState(then) || isNothing(m) {
			t.Fatalf("NetStep of %q leaves %v, %v", wantNetText(n), then, m)
		}
		for name, s := range statesBad(n) {
			checkNothing(t, wantNetText(n)+", "+name, n, s, memOf(), 1)
		}
	}
	for name, s := range map[string]impl.State{"a block": {Blocks: make([]impl.Block, 1)}, "a Last": {Last: []bool{false}}, "both": {Blocks: make([]impl.Block, 1), Last: make([]bool, 1)}} {
		checkNothing(t, "no wires, "+name, impl.Net{}, s, memOf(), 1)
	}
}

// The state of another net is one of this net just if its blocks fit.
func TestNetStepStateOfAnother(t *testing.T) {
	r := rand.New(rand.NewPCG(12, 7))
	for range 3000 {
		n, other := someNet(r, r.IntN(3)), someNet(r, r.IntN(3))
		s := impl.NetNew(other)
		if slices.Equal(wantNew(n).Blocks, s.Blocks) {
			checkNetStep(t, n, s, memOf(), 1)
		} else {
			checkNothing(t, wantNetText(n)+", "+wantNetText(other), n, s, memOf(), 1)
		}
	}
}

func TestNetStepBadMem(t *testing.T) {
	for _, n := range []impl.Net{{}, fullNet(1, 0), fullNet(8, 0), fullNet(8, 4)} {
		for name, m := range memsBad() {
			checkNothing(t, wantNetText(n)+", "+name, n, wantNew(n), m, 1)
		}
	}
}

func TestNetStepTimes(t *testing.T) {
	for _, n := range []impl.Net{{}, fullNet(1, 1), wired(wireOf(12, 0, fromAddr(in0), fromAddr(v0))), fullNet(8, 4)} {
		for _, dt := range timesBad {
			checkNothing(t, wantNetText(n)+", "+strconv.Itoa(dt), n, wantNew(n), memOf(), dt)
		}
		for dt := range 1001 {
			checkNetStep(t, n, wantNew(n), memOf(), dt)
		}
		checkNothing(t, wantNetText(n)+", -1", n, wantNew(n), memOf(), -1)
		checkNothing(t, wantNetText(n)+", 1001", n, wantNew(n), memOf(), 1001)
		for _, dt := range []int{0, 1000} {
			if _, m := impl.NetStep(n, wantNew(n), memOf(), dt); isNothing(m) {
				t.Errorf("NetStep of %q with dt %d leaves nothing", wantNetText(n), dt)
			}
		}
	}
}

// A state that is good, with a net, a memory or a time that is not; and nothing that is.
func TestNetStepAllBad(t *testing.T) {
	checkNothing(t, "all", impl.Net{Wires: make([]impl.Wire, 3)}, impl.State{}, impl.Mem{}, -1)
	checkNothing(t, "all but dt", impl.Net{Wires: make([]impl.Wire, 1)}, impl.State{}, impl.Mem{}, 0)
	checkNothing(t, "memory", impl.Net{}, impl.State{}, impl.Mem{}, 0)
}

// checkNetRead holds what is read against what must be.
func checkNetRead(t *testing.T, text string) bool {
	t.Helper()
	got, ok := impl.NetRead(text)
	want, wantOk := wantNetRead(text)
	if ok != wantOk || !sameNet(got, want) {
		t.Errorf("NetRead(%q) = %v, %v, not %v, %v", text, got, ok, want, wantOk)
	}
	if again := impl.NetText(got); ok && again != text {
		t.Errorf("NetText of what is read from %q = %q", text, again)
	}
	return ok
}

func TestNetReadNone(t *testing.T) {
	for _, text := range []string{
		"", " ", "--", "- ", " -", "-;", "- ; -", "-\n", ";", " ; ", "; rise i0", "rise i0 ;", "rise i0 ; ", " ; rise i0", "rise i0 ; ; rise i0", "rise i0 ; -", "- ; rise i0",
		"rise", "rise ", "rise  i0", "rise i0 ", " rise i0", "rise i0\n", "rise\ti0", "rise i0;rise i0", "rise i0 ;rise i0", "rise i0; rise i0", "rise i0  ; rise i0", "rise i0 ;  rise i0",
		"Rise i0", "RISE i0", "rise I0", "rise i6", "rise i00", "rise i01", "rise i-0", "rise i+0", "rise i", "rise 0", "rise x0", "rise w", "rise l", "rise w0", "rise w1", "rise l1", "rise l00", "rise l-0", "rise l+0", "rise L0", "rise l 0",
		"rise !!i0", "rise ! i0", "rise i0!", "rise !", "rise !0", "rise not i0", "rise ~i0", "rise i0 i1", "rise 0 i0", "rise 1 i0",
		"and", "and i0", "and i0 i1 i2", "and 0 i0 i1", "or i0", "xor i0", "nand i0 i1", "nor i0 i1", "andi0 i1", "and i0,i1", "and (i0 i1)",
		"delay i0", "delay 1", "delay", "delay -1 i0", "delay 01 i0", "delay +1 i0", "delay 00 i0", "delay -0 i0", "delay 1001 i0", "delay 1000000 i0", "delay 99999999999999999999 i0", "delay 1.0 i0", "delay 1e2 i0", "delay 0x1 i0", "delay 1_0 i0", "delay i0 1", "delay 1 i0 i1",
		"hold i0", "hold -1 i0", "hold 01 i0", "hold 1001 i0", "hold 1 i0 i1", "count i0 i1", "count 1 i0", "count 01 i0 i1", "count 1001 i0 i1", "count 1 i0 i1 i2", "latch i0", "latch 0 i0 i1", "latch 1 i0 i1",
		"to o0 w0", "to", "rise i0 ; to", "rise i0 ; to o0", "rise i0 ; to w0", "rise i0 ; to o0 w1", "rise i0 ; to o0 w-1", "rise i0 ; to o0 w00", "rise i0 ; to o0 w+0", "rise i0 ; to o0 0", "rise i0 ; to o0 l0", "rise i0 ; to o0 !w0", "rise i0 ; to o0 i0", "rise i0 ; to o0 o0",
		"rise i0 ; to i0 w0", "rise i0 ; to o6 w0", "rise i0 ; to o0 w0 w0", "rise i0 ; to o0 w0 ; to o0 w0", "rise i0 ; to o0 w0 ;", "rise i0 ; to o0 w0 ; rise i0", "to o0 w0 ; rise i0", "rise i0 ; to !o0 w0", "rise i0 ; TO o0 w0", "rise i0 ; to O0 w0", "rise i0 ; to o0 W0", "rise i0 ; to o00 w0",
		"rise i0 ; to o0 w0 ; to o1 w0 ; to o2 w0 ; to o3 w0 ; to o4 w0",
		"rise i0 ; rise i0 ; rise i0 ; rise i0 ; rise i0 ; rise i0 ; rise i0 ; rise i0 ; rise i0",
		"rise l8 ; rise i0 ; rise i0 ; rise i0 ; rise i0 ; rise i0 ; rise i0 ; rise i0", "rise w8 ; rise i0 ; rise i0 ; rise i0 ; rise i0 ; rise i0 ; rise i0 ; rise i0", "rise w10 ; rise i0",
		"set v0 1", "1", "i0", "w0", "delay 1 і0", "rise i０", "rise i٣", "rise\u00a0i0", "rise i0\x00", "\x00", "\xff", "rise \xff", "steps 1",
	} {
		if got, ok := impl.NetRead(text); ok || !isNoNet(got) {
			t.Errorf("NetRead(%q) = %v, %v", text, got, ok)
		}
		checkNetRead(t, text)
	}
}

// Every text of at most two bytes: but for one, none is that of a net.
func TestNetReadShort(t *testing.T) {
	checkNetRead(t, "")
	for a := range 256 {
		one := string([]byte{byte(a)})
		if checkNetRead(t, one) != (one == "-") {
			t.Errorf("%q", one)
		}
		for b := range 256 {
			if two := one + string([]byte{byte(b)}); checkNetRead(t, two) {
				t.Errorf("%q", two)
			}
		}
	}
}

// Texts that differ by one sign from one that is read.
func TestNetReadByteTurned(t *testing.T) {
	for _, text := range []string{
		"-", "rise i0", "delay 10 !v5", "hold 0 l0", "count 1000 i0 !o1", "latch !l0 i5", "xor i0 i1 ; to o0 w0", "rise i0 ; rise w0",
		"and w1 !i1 ; or i0 l0 ; delay 3 w0 ; to o0 w0 ; to o1 w2", "count 7 w2 !l1 ; latch v0 w2 ; xor l0 o5 ; hold 99 w1 ; to v5 w3",
	} {
		if !checkNetRead(t, text) {
			t.Errorf("%q is not read", text)
		}
		for other := range byteTurned(text) {
			checkNetRead(t, other)
		}
	}
}

// A word of a text more, fewer, or another one in its place.
func TestNetReadWordTurned(t *testing.T) {
	words := []string{"delay", "count", "rise", "and", "to", ";", "-", "", "i0", "!o5", "w0", "!w1", "l1", "0", "1000", "1001", "-1", "007", "w7", "w8", "rise i0", "; rise i0", "; to v1 w0", "fly", "!", "!-", "wl0"}
	r := rand.New(rand.NewPCG(13, 7))
	read := 0
	for range 40 {
		text := strings.Split(wantNetText(someNet(r, 1+r.IntN(4))), " ")
		for i := range len(text) + 1 {
			var others [][]string
			for _, word := range words {
				others = append(others, slices.Insert(slices.Clone(text), i, word))
				if i < len(text) {
					others = append(others, slices.Replace(slices.Clone(text), i, i+1, word))
				}
			}
			if i < len(text) {
				others = append(others, slices.Delete(slices.Clone(text), i, i+1))
			}
			for _, other := range others {
				read += wantIs(checkNetRead(t, strings.Join(other, " ")))
			}
		}
	}
	if read < 1000 {
		t.Errorf("only %d of them are read", read)
	}
}

// Pieces in any order that come near a text.
func TestNetReadSome(t *testing.T) {
	pieces := []string{"rise i0", "rise w0", "rise !w1", "or l0 i0", "delay 5 w2", "count 2 i0 w0", "to o0 w0", "to v0 w1", "to o0 w1", "hold 01 i0", "-", "", "latch l3 v1", "rise i0 rise i0"}
	r := rand.New(rand.NewPCG(14, 7))
	read := 0
	for range 40000 {
		var text []string
		for range 1 + r.IntN(10) {
			text = append(text, pieces[r.IntN(len(pieces)-r.IntN(2)*5)])
		}
		slices.SortStableFunc(text, func(a string, b string) int {
			return wantIs(strings.HasPrefix(a, "to")) - wantIs(strings.HasPrefix(b, "to"))
		})
		if r.IntN(8) == 0 {
			r.Shuffle(len(text), func(i int, j int) { text[i], text[j] = text[j], text[i] })
		}
		read += wantIs(checkNetRead(t, strings.Join(text, " ; ")))
	}
	if read < 1000 {
		t.Errorf("only %d of them are read", read)
	}
}

// Texts of 400 bytes, of one more, and far longer ones: none is the text of a net that is ok.
func TestNetReadLong(t *testing.T) {
	for _, size := range []int{398, 399, 400, 401, 402, 800, 1 << 20} {
		for _, piece := range []string{" ", "-", "0", "!", "w", "\x00", "\xff", "; ", " ; ", "rise i0 ; ", "rise ", "delay 1 i0 ; ", "to o0 w0 ; ", "and i0 i0 ; "} {
			long := strings.Repeat(piece, size)[:size]
			for _, text := range []string{long, "-" + long[1:], long[1:] + "-", long[7:] + "rise i0", "rise i0" + long[7:], "rise i0 ; " + long[10:], "delay " + long[9:] + " i0", "rise i" + long[6:], "rise l0 ; rise w" + long[16:]} {
				if got, ok := impl.NetRead(text); ok || !isNoNet(got) || len(text) != size {
					t.Errorf("NetRead of %d bytes of %q = %v, %v", len(text), piece, got, ok)
				}
			}
		}
	}
}

// The longest text of a net that is ok, and what is one byte longer.
func TestNetReadLongest(t *testing.T) {
	n := driven(wired(slices.Repeat([]impl.Wire{wireOf(3, 1000, notSo(fromLast(0)), notSo(fromLast(7)))}, 8)...), drive(o0, 7), drive(v0, 7), drive(v1, 7), drive(v2, 7))
	checkNet(t, n)
	text := wantNetText(n)
	if len(text) != 8*18+4*8+11*3 {
		t.Errorf("%d bytes", len(text))
	}
	for _, other := range []string{text + " ", text + "\n", " " + text, text + strings.Repeat(" ", 400-len(text)), text + strings.Repeat(" ", 401-len(text))} {
		if checkNetRead(t, other) {
			t.Errorf("%q is read", other)
		}
	}
}

// Nets that differ in one part alone, ok or not, are not the same; those that differ in none are.
func TestNetSame(t *testing.T) {
	r := rand.New(rand.NewPCG(15, 7))
	nets := []impl.Net{{}, fullNet(8, 4), fullNet(9, 5), fullNet(1, 0), {Wires: make([]impl.Wire, 2), Drives: make([]impl.Drive, 2)}, roundOf(11, 3, false)}
	for i := range 30 {
		nets = append(nets, someNet(r, i%9))
	}
	for _, n := range nets {
		if !impl.NetSame(n, n) || !impl.NetSame(n, copyNet(n)) {
			t.Errorf("%v is not the same as itself", n)
		}
		for _, other := range turnedNets(n) {
			if impl.NetSame(n, other) || impl.NetSame(other, n) || !impl.NetSame(other, copyNet(other)) {
				t.Errorf("NetSame(%v, %v)", n, other)
			}
		}
		for _, other := range nets {
			if got := impl.NetSame(n, other); got != sameNet(n, other) {
				t.Errorf("NetSame(%v, %v) = %v", n, other, got)
			}
		}
	}
}

func TestNetSameOrder(t *testing.T) {
	a, b := wireOf(4, 0, fromAddr(in0)), wireOf(4, 0, fromAddr(v0))
	x, y := drive(o0, 0), drive(v0, 0)
	for _, c := range []struct {
		a, b impl.Net
		same bool
	}{
		{impl.Net{}, impl.Net{Wires: []impl.Wire{}, Drives: []impl.Drive{}}, true},
		{wired(a, b), wired(a, b), true},
		{wired(a, b), wired(b, a), false},
		{wired(a), wired(a, a), false},
		{wired(a, b), wired(a), false},
		{wired(a, b), wired(b), false},
		{driven(wired(a), x, y), driven(wired(a), x, y), true},
		{driven(wired(a), x, y), driven(wired(a), y, x), false},
		{driven(wired(a), x), driven(wired(a), x, x), false},
		{driven(wired(a), x), wired(a), false},
		{driven(impl.Net{}, x), driven(impl.Net{}, x), true},
		{driven(impl.Net{}, x), driven(impl.Net{}, y), false},
		{driven(impl.Net{}, x), impl.Net{}, false},
		{fullNet(300, 300), fullNet(300, 300), true},
		{fullNet(300, 300), fullNet(300, 299), false},
	} {
		if impl.NetSame(c.a, c.b) != c.same || impl.NetSame(c.b, c.a) != c.same {
			t.Errorf("NetSame(%v, %v) is not %v", c.a, c.b, c.same)
		}
	}
	bad := netsBad()
	names := slices.Sorted(maps.Keys(bad))
	for i, x := range names {
		for _, y := range names[max(0, i-40):min(len(names), i+40)] {
			if got := impl.NetSame(bad[x], bad[y]); got != sameNet(bad[x], bad[y]) {
				t.Errorf("NetSame = %v: %s, %s", got, x, y)
			}
		}
	}
}

// roomyNet is the same, with room behind each list, and something in it.
func roomyNet(n impl.Net) impl.Net {
	out := impl.Net{Wires: make([]impl.Wire, len(n.Wires)+3), Drives: make([]impl.Drive, len(n.Drives)+3)}
	for i := range out.Wires {
		out.Wires[i] = wireOf(12, 0, fromAddr(v0), fromLast(0))
	}
	for i := range out.Drives {
		out.Drives[i] = drive(o5, 0)
	}
	copy(out.Wires, n.Wires)
	copy(out.Drives, n.Drives)
	return impl.Net{Wires: out.Wires[:len(n.Wires)], Drives: out.Drives[:len(n.Drives)]}
}

// roomyState is the same, with room behind each list, and something in it.
func roomyState(s impl.State) impl.State {
	out := impl.State{Blocks: make([]impl.Block, len(s.Blocks)+3), Last: make([]bool, len(s.Last)+3)}
	for i := range out.Blocks {
		out.Blocks[i] = impl.Block{Kind: 1, N: 7, T: i}
	}
	for i := range out.Last {
		out.Last[i] = true
	}
	copy(out.Blocks, s.Blocks)
	copy(out.Last, s.Last)
	return impl.State{Blocks: out.Blocks[:len(s.Blocks)], Last: out.Last[:len(s.Last)]}
}

// wholeNet and wholeState are the same with all that is behind their lists.
func wholeNet(n impl.Net) impl.Net {
	return impl.Net{Wires: n.Wires[:cap(n.Wires)], Drives: n.Drives[:cap(n.Drives)]}
}

func wholeState(s impl.State) impl.State {
	return impl.State{Blocks: s.Blocks[:cap(s.Blocks)], Last: s.Last[:cap(s.Last)]}
}

// Nothing is written into an argument, nor behind its end, nor is what is behind it seen.
func TestNetArgumentsStay(t *testing.T) {
	nets := netsOk()
	bad := netsBad()
	for i, name := range slices.Sorted(maps.Keys(bad)) {
		if i%5 == 0 {
			nets = append(nets, bad[name])
		}
	}
	m, all := roomy()
	for i, n := range nets {
		s := wantNew(n)
		if i%3 == 0 && len(s.Last) > 0 {
			s.Last = s.Last[1:]
		}
		given, kept := roomyNet(n), roomyState(s)
		was, wasKept := copyNet(wholeNet(given)), copyState(wholeState(kept))
		if impl.NetOk(given) != impl.NetOk(n) || impl.NetText(given) != impl.NetText(n) || !slices.Equal(impl.NetOrder(given), impl.NetOrder(n)) || !sameState(impl.NetNew(given), impl.NetNew(n)) || !impl.NetSame(given, n) || !impl.NetSame(n, given) {
			t.Errorf("what is behind the lists of %v counts", n)
		}
		then, mem := impl.NetStep(given, kept, m, 2)
		want, wantMem := impl.NetStep(n, s, m, 2)
		if !sameState(then, want) || !sameMem(mem, wantMem) {
			t.Errorf("what is behind the lists of %v, %v counts: %v, %v", n, s, then, mem)
		}
		if !sameNet(wholeNet(given), was) || !sameState(wholeState(kept), wasKept) {
			t.Errorf("%v, %v is %v, %v now", was, wasKept, wholeNet(given), wholeState(kept))
		}
	}
	if at := turned(all); at != nil {
		t.Errorf("the memory is turned at %v", at)
	}
}

// spoilNet, spoilState and spoilOrder write all over an answer, spare room included.
func spoilNet(n impl.Net) {
	n = wholeNet(n)
	for i := range n.Wires {
		n.Wires[i] = impl.Wire{Kind: -9, N: -9}
	}
	for i := range n.Drives {
		n.Drives[i] = impl.Drive{Wire: -9}
	}
}

func spoilState(s impl.State) {
	s = wholeState(s)
	for i := range s.Blocks {
		s.Blocks[i] = impl.Block{Kind: -9, T: -9}
	}
	for i := range s.Last {
		s.Last[i] = !s.Last[i]
	}
}

func spoilOrder(order []int) {
	order = order[:cap(order)]
	for i := range order {
		order[i] = -9
	}
}

// Writing into an answer turns no argument and no other answer, and writing into the arguments turns no answer.
func TestNetAnswersAreNew(t *testing.T) {
	for _, n := range netsOk() {
		text := wantNetText(n)
		given, kept := copyNet(n), wantNew(n)
		m, all := roomy()
		want, wantMem := wantNetStep(n, kept, m, 3)
		for range 2 {
			read, _ := impl.NetRead(text)
			order, first := impl.NetOrder(given), impl.NetNew(given)
			then, mem := impl.NetStep(given, kept, m, 3)
			again, memAgain := impl.NetStep(given, kept, m, 3)
			if !sameNet(read, n) || !slices.Equal(order, wantOrder(n)) || !sameState(first, wantNew(n)) || !sameState(then, want) || !sameMem(mem, wantMem) {
				t.Fatalf("%q, behind answers that were written into: %v, %v, %v, %v, %v", text, read, order, first, then, mem)
			}
			spoilNet(read)
			spoilOrder(order)
			spoilState(first)
			spoilState(then)
			fill(mem, -9)
			if !sameNet(given, n) || !sameState(kept, wantNew(n)) || turned(all) != nil || !sameState(again, want) || !sameMem(memAgain, wantMem) {
				t.Fatalf("%q: writing into an answer turned an argument, or another answer", text)
			}
		}
		read, _ := impl.NetRead(text)
		order, first := impl.NetOrder(given), impl.NetNew(given)
		then, mem := impl.NetStep(given, kept, m, 3)
		spoilNet(given)
		spoilState(kept)
		for i := range all {
			all[i] = -9
		}
		if !sameNet(read, n) || !slices.Equal(order, wantOrder(n)) || !sameState(first, wantNew(n)) || !sameState(then, want) || !sameMem(mem, wantMem) {
			t.Fatalf("%q: writing into the arguments turned an answer: %v, %v, %v, %v, %v", text, read, order, first, then, mem)
		}
	}
}

// No two lists of a memory that is left share any, not even of an argument whose lists are one.
func TestNetListsApart(t *testing.T) {
	for _, n := range []impl.Net{{}, fullNet(1, 0), fullNet(8, 1), fullNet(8, 4)} {
		one := []int{1, 2, 3, 4, 5, 6}
		_, m := impl.NetStep(n, wantNew(n), impl.Mem{In: one, Out: one, Var: one}, 1)
		_, want := wantNetStep(n, wantNew(n), impl.Mem{In: one, Out: one, Var: one}, 1)
		if !sameMem(m, want) || !slices.Equal(one, []int{1, 2, 3, 4, 5, 6}) {
			t.Errorf("%q: %v, not %v, of %v", wantNetText(n), m, want, one)
		}
		for kind := 1; kind <= 3; kind++ {
			want := copyMem(m)
			written := *listOf(&m, kind)
			written = written[:cap(written)]
			for i := range written {
				written[i] = 50 + kind
			}
			copy(*listOf(&want, kind), written)
			if !sameMem(m, want) {
				t.Errorf("%q: writing into list %d turned another one: %v", wantNetText(n), kind, m)
			}
		}
	}
}
