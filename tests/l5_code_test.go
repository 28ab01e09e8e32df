package tests

import (
	"math"
	"math/rand/v2"
	"regexp"
	"slices"
	"strconv"
	"strings"
	"testing"

	"loop.example/stopgate/impl"
)

func pushN(n int) impl.Ins { return impl.Ins{Op: 1, N: n} }

func loadAt(a impl.Addr) impl.Ins { return impl.Ins{Op: 2, Addr: a} }

func storeAt(a impl.Addr) impl.Ins { return impl.Ins{Op: 3, Addr: a} }

func twoOf(kind int) impl.Ins { return impl.Ins{Op: 4, N: kind} }

func notIns() impl.Ins { return impl.Ins{Op: 5} }

func skipTo(n int) impl.Ins { return impl.Ins{Op: 6, N: n} }

func jumpTo(n int) impl.Ins { return impl.Ins{Op: 7, N: n} }

func backTo(n int) impl.Ins { return impl.Ins{Op: 8, N: n} }

func code(list ...impl.Ins) []impl.Ins { return append([]impl.Ins(nil), list...) }

// sameCode says whether two are the same in the same order, told apart from the program.
func sameCode(a []impl.Ins, b []impl.Ins) bool {
	if len(a) != len(b) {
		return false
	}
	for i, x := range a {
		y := b[i]
		if x.Op != y.Op || x.N != y.N || x.Addr.Kind != y.Addr.Kind || x.Addr.At != y.Addr.At {
			return false
		}
	}
	return true
}

// wantExprCode is the code of what is reckoned, told apart from the program.
func wantExprCode(e impl.Expr) []impl.Ins {
	switch e.Kind {
	case 1:
		return code(pushN(e.N))
	case 2:
		return code(loadAt(e.Addr))
	case 10:
		return append(wantExprCode(e.Kids[0]), notIns())
	}
	return slices.Concat(wantExprCode(e.Kids[0]), wantExprCode(e.Kids[1]), code(twoOf(e.Kind)))
}

// wantCode is the code of a list that is ok, from a place on, told apart from the program: each piece is made for the
// place at which it will stand.
func wantCode(list []impl.Stmt, from int) []impl.Ins {
	var out []impl.Ins
	for _, s := range list {
		first := from + len(out)
		e := wantExprCode(s.Expr)
		then := wantCode(s.Then, first+len(e)+1)
		behind := first + len(e) + len(then) + 2
		switch s.Kind {
		case 1:
			out = slices.Concat(out, e, code(storeAt(s.To)))
		case 2:
			other := wantCode(s.Else, behind)
			out = slices.Concat(out, e, code(skipTo(behind)), then, code(jumpTo(behind+len(other))), other)
		case 3:
			out = slices.Concat(out, e, code(skipTo(behind)), then, code(backTo(first)))
		}
	}
	return out
}

// wantFits says whether an instruction has what it must, and nothing else, at a place of code of so many.
func wantFits(ins impl.Ins, at int, many int) bool {
	low, high := 0, 0
	places := []impl.Addr{{}}
	switch ins.Op {
	case 1:
		low, high = -1000000, 1000000
	case 2:
		places = placesOk()
	case 3:
		places = placesOk()[6:]
	case 4:
		low, high = 3, 9
	case 5:
	case 6, 7:
		low, high = at+1, many
	case 8:
		high = at - 1
	default:
		return false
	}
	return low <= ins.N && ins.N <= high && slices.Contains(places, ins.Addr)
}

// heldNeed and heldMore are, by Op, how many numbers must be held ahead of it, and how many more there are behind it.
var (
	heldNeed = [9]int{0, 0, 0, 1, 2, 1, 1, 0, 0}
	heldMore = [9]int{0, 1, 1, -1, -1, 0, -1, 0, 0}
)

// wantTo are the places to which an instruction goes.
func wantTo(ins impl.Ins, at int) []int {
	switch ins.Op {
	case 6:
		return []int{at + 1, ins.N}
	case 7, 8:
		return []int{ins.N}
	}
	return []int{at + 1}
}

// wantDepth is how many are held at most, and -1 of code that is not ok, told apart from the program: every way
// through the code is gone, with all counts that come to a place, each of which is a bit there.
func wantDepth(p []impl.Ins) int {
	for at, ins := range p {
		if len(p) > 400 || !wantFits(ins, at, len(p)) {
			return -1
		}
	}
	counts := make([]uint16, len(p)+1)
	ahead := make([]bool, len(p)+1)
	ahead[0] = true
	most := 0
	work := [][2]int{{0, 0}}
	for len(work) > 0 {
		at, held := work[len(work)-1][0], work[len(work)-1][1]
		work = work[:len(work)-1]
		if counts[at]&(1<<held) != 0 {
			continue
		}
		counts[at] |= 1 << held
		most = max(most, held)
		if at == len(p) {
			continue
		}
		then := held + heldMore[p[at].Op]
		if held < heldNeed[p[at].Op] || then > 12 {
			return -1
		}
		for _, to := range wantTo(p[at], at) {
			ahead[to] = ahead[to] || at < to
			work = append(work, [2]int{to, then})
		}
	}
	for at, count := range counts {
		if !ahead[at] || count == 0 || count&(count-1) != 0 {
			return -1
		}
	}
	if counts[len(p)] != 1 {
		return -1
	}
	return most
}

// ranCode is what came of code, and what was seen on the way.
type ranCode struct {
	mem         impl.Mem
	code, left  int
	most, steps int
	short       bool
}

// wantCodeRun does code that is ok, of a memory that is, told apart from the program. It ends with short, if numbers
// are taken that are not held, and goes no more steps than there can be: between two backs there is no way round.
func wantCodeRun(m impl.Mem, p []impl.Ins, fuel int) ranCode {
	out := ranCode{mem: copyMem(m), left: fuel}
	bound := (fuel + 1) * len(p)
	var held []int
	for at := 0; at < len(p) && out.steps <= bound; out.steps++ {
		ins := p[at]
		many := len(held)
		if many < heldNeed[ins.Op] {
			out.short = true
			return out
		}
		at++
		switch ins.Op {
		case 1:
			held = append(held, ins.N)
		case 2:
			held = append(held, (*listOf(&out.mem, ins.Addr.Kind))[ins.Addr.At])
		case 3:
			(*listOf(&out.mem, ins.Addr.Kind))[ins.Addr.At] = held[many-1]
			held = held[:many-1]
		case 4:
			held = append(held[:many-2], wantOf(part(ins.N, num(held[many-2]), num(held[many-1])), out.mem))
		case 5:
			held[many-1] = wantIs(held[many-1] == 0)
		case 6:
			if held[many-1] == 0 {
				at = ins.N
			}
			held = held[:many-1]
		case 7:
			at = ins.N
		case 8:
			if out.left == 0 {
				out.code = 1
				return out
			}
			out.left--
			at = ins.N
		}
		out.most = max(out.most, len(held))
	}
	return out
}

// wantLine is the line of an instruction, ok or not, told apart from the program.
func wantLine(ins impl.Ins) string {
	n := strconv.Itoa(ins.N)
	place := ""
	if slices.Contains(placesOk(), ins.Addr) {
		place = placeTexts[ins.Addr.Kind-1][ins.Addr.At]
	}
	switch ins.Op {
	case 1:
		return "push " + n
	case 2:
		return "load " + place
	case 3:
		return "store " + place
	case 4:
		if ins.N >= 3 && ins.N <= 9 {
			return kindWords[ins.N]
		}
	case 5:
		return "not"
	case 6:
		return "skip " + n
	case 7:
		return "jump " + n
	case 8:
		return "back " + n
	}
	return "none"
}

func wantCodeText(p []impl.Ins) string {
	var text strings.Builder
	for _, ins := range p {
		text.WriteString(wantLine(ins) + "\n")
	}
	return text.String()
}

var lineOk = regexp.MustCompile(`^(?:(push|skip|jump|back) (0|-?[1-9][0-9]{0,6})|(load|store) ([iov])([0-5])|(add|sub|mul|less|same|and|or|not))$`)

// wantLineRead is the instruction that has this line, told apart from the program.
func wantLineRead(line string) (impl.Ins, bool) {
	got := lineOk.FindStringSubmatch(line)
	if got == nil {
		return impl.Ins{}, false
	}
	switch {
	case got[1] != "":
		n, err := strconv.Atoi(got[2])
		return impl.Ins{Op: map[string]int{"push": 1, "skip": 6, "jump": 7, "back": 8}[got[1]], N: n}, err == nil
	case got[3] != "":
		a := impl.Addr{Kind: 1 + strings.Index("iov", got[4]), At: int(got[5][0] - '0')}
		return impl.Ins{Op: map[string]int{"load": 2, "store": 3}[got[3]], Addr: a}, true
	case got[6] == "not":
		return notIns(), true
	}
	for kind := 3; kind <= 9; kind++ {
		if kindWords[kind] == got[6] {
			return twoOf(kind), true
		}
	}
	return impl.Ins{}, false
}

// wantCodeRead is the code that is ok of which this is the text, told apart from the program.
func wantCodeRead(text string) ([]impl.Ins, bool) {
	lines := strings.Split(text, "\n")
	if lines[len(lines)-1] != "" {
		return nil, false
	}
	var p []impl.Ins
	for _, line := range lines[:len(lines)-1] {
		ins, ok := wantLineRead(line)
		if !ok {
			return nil, false
		}
		p = append(p, ins)
	}
	return p, wantDepth(p) >= 0
}

// openJump is an instruction whose place to go is not known yet, and how many are held there.
type openJump struct{ at, held int }

// codeMaker makes code that is ok in no order that statements have: it keeps how many are held ahead of each place.
type codeMaker struct {
	r    *rand.Rand
	p    []impl.Ins
	held []int
	open []openJump
}

// close lets some instructions, or all, or at least one, that go on with so many held go on here.
func (c *codeMaker) close(held int, all bool, must bool) {
	var open []openJump
	for _, o := range c.open {
		if o.held == held && (all || must || c.r.IntN(3) == 0) {
			c.p[o.at].N = len(c.p)
			must = false
		} else {
			open = append(open, o)
		}
	}
	c.open = open
}

// add makes an instruction, with so many held ahead of it, and says how many are behind it; -1, if it does not go on
// there.
func (c *codeMaker) add(ins impl.Ins, held int) int {
	then := held + heldMore[ins.Op]
	if ins.Op == 6 || ins.Op == 7 {
		c.open = append(c.open, openJump{len(c.p), then})
	}
	c.p, c.held = append(c.p, ins), append(c.held, held)
	if ins.Op == 7 || ins.Op == 8 {
		return -1
	}
	return then
}

// some is any instruction that may stand where so many are held.
func (c *codeMaker) some(held int) impl.Ins {
	r := c.r
	for {
		op := 1 + r.IntN(8)
		if held < heldNeed[op] || held+heldMore[op] > 12 || held > 3 && op <= 2 && r.IntN(3) > 0 {
			continue
		}
		switch op {
		case 1:
			return pushN(edgeNums[r.IntN(len(edgeNums))])
		case 2:
			return loadAt(placesOk()[r.IntN(18)])
		case 3:
			return storeAt(placesOk()[6+r.IntN(12)])
		case 4:
			return twoOf(3 + r.IntN(7))
		case 8:
			to := r.IntN(len(c.p) + 1)
			if len(c.open) == 0 || to == len(c.p) || c.held[to] != held {
				continue
			}
			return backTo(to)
		}
		return impl.Ins{Op: op}
	}
}

// someCode is code that is ok, of somewhat more than so many instructions.
func someCode(r *rand.Rand, many int) []impl.Ins {
	c := codeMaker{r: r}
	held := 0
	for len(c.p) < many {
		if held < 0 {
			held = c.open[r.IntN(len(c.open))].held
			c.close(held, false, true)
		}
		c.close(held, false, false)
		held = c.add(c.some(held), held)
	}
	if held < 0 {
		held = c.open[0].held
	}
	c.close(held, true, false)
	top := held
	for _, o := range c.open {
		top = max(top, o.held)
	}
	for held < top {
		held = c.add(pushN(r.IntN(3)), held)
	}
	for held > 0 {
		c.close(held, true, false)
		held = c.add(storeAt(placesOk()[6+r.IntN(12)]), held)
	}
	c.close(0, true, false)
	return c.p
}

// pairs is as many instructions, in code that is ok; there must be at least 2 of them.
func pairs(many int) []impl.Ins {
	out := slices.Repeat(code(pushN(7), storeAt(v0)), many/2)
	if many%2 == 1 {
		out = append(out, jumpTo(many))
	}
	return out
}

// pile is code that holds so many at most.
func pile(deep int, first impl.Ins) []impl.Ins {
	return slices.Concat(slices.Repeat(code(first), deep), slices.Repeat(code(twoOf(3)), deep-1), code(storeAt(v1)))
}

// deepCode is code, with how many are held at most.
type deepCode struct {
	deep int
	p    []impl.Ins
}

// codesOdd are codes that are ok, most of which no statements have, each with how many are held at most.
func codesOdd() map[string]deepCode {
	return map[string]deepCode{
		"none":                          {0, nil},
		"a jump right behind the last":  {0, code(jumpTo(1))},
		"jumps, each to the next":       {0, code(jumpTo(1), jumpTo(2), jumpTo(3))},
		"a skip right behind the last":  {1, code(pushN(1), skipTo(2))},
		"a skip over all":               {1, code(loadAt(v0), skipTo(4), pushN(1), storeAt(v0))},
		"a skip to the next":            {2, code(loadAt(v0), loadAt(v1), skipTo(3), notIns(), storeAt(v2))},
		"a skip for each number":        {3, code(pushN(0), loadAt(v1), pushN(2), skipTo(4), skipTo(5), skipTo(6))},
		"skips to one place":            {1, code(loadAt(v0), skipTo(6), loadAt(v1), skipTo(6), pushN(5), storeAt(v2))},
		"a back to 0":                   {1, code(pushN(1), skipTo(3), backTo(0))},
		"a back to the one ahead":       {1, code(pushN(1), skipTo(4), jumpTo(3), backTo(2))},
		"loops behind one another":      {1, code(pushN(0), skipTo(3), backTo(0), loadAt(v0), skipTo(6), backTo(3), loadAt(v1), skipTo(9), backTo(3))},
		"a back into an if":             {1, code(loadAt(v0), skipTo(5), loadAt(v1), storeAt(v0), jumpTo(8), loadAt(in0), skipTo(8), backTo(2))},
		"a back with a number held":     {3, code(pushN(5), loadAt(v0), pushN(1), twoOf(4), storeAt(v0), loadAt(v0), skipTo(8), backTo(1), storeAt(v1))},
		"a back with all numbers held":  {12, slices.Concat(slices.Repeat(code(loadAt(in0)), 11), code(loadAt(v0), skipTo(14), backTo(11)), slices.Repeat(code(storeAt(v1)), 11))},
		"two backs to one place":        {2, code(loadAt(v0), skipTo(9), loadAt(v0), pushN(1), twoOf(4), storeAt(v0), loadAt(in0), skipTo(9), backTo(0), loadAt(v1), skipTo(12), backTo(0))},
		"both sides hold one":           {1, code(loadAt(in0), skipTo(4), pushN(1), jumpTo(5), pushN(2), storeAt(v0))},
		"a jump into the other side":    {1, code(loadAt(in0), skipTo(4), pushN(1), jumpTo(5), loadAt(v0), notIns(), storeAt(v0))},
		"what jumps over a back":        {1, code(loadAt(v0), skipTo(3), jumpTo(4), backTo(0))},
		"a store for each number":       {12, slices.Concat(slices.Repeat(code(pushN(3)), 12), slices.Repeat(code(storeAt(o5)), 12))},
		"a sum of all that can be held": {12, pile(12, loadAt(in0))},
	}
}

// codesBad are codes that are not ok, each by one thing alone where that can be, in how they go on and how many are
// held; each instruction by itself may stand in some code.
func codesBad() map[string][]impl.Ins {
	out := map[string][]impl.Ins{
		"a jump behind the end":               code(jumpTo(2)),
		"a jump far behind the end":           code(jumpTo(math.MaxInt)),
		"a jump behind the end, later":        code(pushN(1), storeAt(v0), jumpTo(4)),
		"a jump to its own place":             code(jumpTo(0)),
		"a jump to its own place, later":      code(pushN(1), skipTo(3), jumpTo(2)),
		"a jump to one ahead":                 code(pushN(1), skipTo(3), jumpTo(0)),
		"a jump to one ahead, later":          code(pushN(1), storeAt(v0), loadAt(v1), skipTo(5), jumpTo(2)),
		"a jump below 0":                      code(jumpTo(-1)),
		"a jump far below 0":                  code(jumpTo(math.MinInt)),
		"a skip behind the end":               code(pushN(1), skipTo(3)),
		"a skip far behind the end":           code(pushN(1), skipTo(math.MaxInt)),
		"a skip to its own place":             code(pushN(1), skipTo(1)),
		"a skip to one ahead":                 code(pushN(1), skipTo(0)),
		"a skip to one ahead, as many held":   code(pushN(1), loadAt(v0), skipTo(1), storeAt(v0)),
		"a skip below 0":                      code(pushN(1), skipTo(-1)),
		"a back to its own place":             code(pushN(1), skipTo(3), backTo(2)),
		"a back to its own place, first":      code(backTo(0)),
		"a back to the one behind":            code(pushN(1), skipTo(3), backTo(3)),
		"a back to one behind":                code(pushN(1), skipTo(3), backTo(5), pushN(1), storeAt(v0)),
		"a back behind the end":               code(pushN(1), skipTo(3), backTo(math.MaxInt)),
		"a back below 0":                      code(pushN(1), skipTo(3), backTo(-1)),
		"a back far below 0":                  code(pushN(1), skipTo(3), backTo(math.MinInt)),
		"a back with fewer held":              code(pushN(1), loadAt(v0), skipTo(5), storeAt(v0), backTo(1), storeAt(v0)),
		"a back with more held":               code(pushN(1), skipTo(4), pushN(1), backTo(0)),
		"a back to more held":                 code(pushN(1), skipTo(3), backTo(1)),
		"a place to which nothing comes":      code(jumpTo(2), notIns()),
		"a jump that nothing comes to":        code(jumpTo(2), jumpTo(2)),
		"a place behind a jump":               code(jumpTo(3), pushN(1), storeAt(v0)),
		"a place behind a back":               code(pushN(1), skipTo(5), backTo(0), pushN(1), storeAt(v0)),
		"a place to which a back alone comes": code(jumpTo(2), jumpTo(4), pushN(1), skipTo(5), backTo(1)),
		"places to which a back alone comes":  code(jumpTo(3), pushN(1), storeAt(v0), pushN(1), skipTo(6), backTo(1)),
		"a place with 0 and 1":                code(loadAt(v0), skipTo(3), pushN(1), storeAt(v0)),
		"a place with 1 and 0":                code(loadAt(v0), loadAt(v1), skipTo(4), storeAt(v0), storeAt(v0)),
		"a place with 2 and 1":                code(pushN(1), loadAt(v0), skipTo(4), pushN(1), twoOf(3), storeAt(v0)),
		"a jump and a skip with 0 and 1":      code(loadAt(v0), skipTo(4), pushN(1), jumpTo(4), pushN(1), storeAt(v0)),
		"an end with 0 and 1":                 code(loadAt(v0), skipTo(3), pushN(1)),
		"an end that is not told, of a back":  code(pushN(1), storeAt(v0), backTo(0)),
		"an end that is not told, of a loop":  code(loadAt(v0), skipTo(3), jumpTo(3), backTo(0)),
		"an end where one is held":            code(pushN(1)),
		"an end where one is held, loaded":    code(loadAt(v0)),
		"an end where a not is held":          code(pushN(1), notIns()),
		"an end where a sum is held":          code(pushN(1), pushN(1), twoOf(3)),
		"an end to which one jumps, held":     code(pushN(1), jumpTo(2)),
		"an end to which one skips, held":     code(pushN(1), pushN(1), skipTo(3)),
		"an end where 12 are held":            slices.Repeat(code(pushN(1)), 12),
		"a store of none":                     code(storeAt(v0)),
		"a store of none, behind one":         code(pushN(1), storeAt(v0), storeAt(v0)),
		"a store of none, then one":           code(storeAt(v0), pushN(1)),
		"a not of none":                       code(notIns()),
		"a not of none, then one":             code(notIns(), pushN(1), storeAt(v0)),
		"a skip of none":                      code(skipTo(1)),
		"a skip of none, then one":            code(skipTo(1), pushN(1)),
		"a two of none":                       code(twoOf(3)),
		"a two of none, then one":             code(twoOf(3), pushN(1)),
		"a two of one":                        code(pushN(1), twoOf(3)),
		"a two of one, then stored":           code(pushN(1), twoOf(3), storeAt(v0)),
		"a two of one, then one more":         code(pushN(1), twoOf(3), pushN(1), storeAt(v0)),
		"13 that are held":                    pile(13, pushN(1)),
		"13 that are held, loaded":            pile(13, loadAt(v0)),
		"13 that are held for a moment":       slices.Concat(slices.Repeat(code(pushN(1)), 13), code(skipTo(14)), slices.Repeat(code(storeAt(o0)), 12)),
		"13 on one side":                      slices.Concat(slices.Repeat(code(pushN(1)), 12), code(skipTo(17), loadAt(v0), loadAt(v0), twoOf(3), twoOf(3)), slices.Repeat(code(storeAt(o0)), 11)),
		"14 that are held":                    pile(14, pushN(1)),
		"200 that are held":                   slices.Concat(slices.Repeat(code(pushN(1)), 200), slices.Repeat(code(storeAt(v0)), 200)),
		"401 instructions":                    pairs(401),
		"402 instructions":                    pairs(402),
		"1000 instructions":                   pairs(1000),
		"401 jumps, each to the next":         jumps(401),
		"401 with a loop":                     append(pairs(398), pushN(1), skipTo(401), backTo(0)),
	}
	for name, p := range insBad() {
		out[name] = p
	}
	return out
}

// jumps is as many jumps, each to the next one.
func jumps(many int) []impl.Ins {
	var out []impl.Ins
	for at := range many {
		out = append(out, jumpTo(at+1))
	}
	return out
}

// opCodes are, for each Op, code that is ok, and where in it an instruction of that Op stands.
var opCodes = map[int]struct {
	at int
	p  []impl.Ins
}{
	1: {0, code(pushN(4), storeAt(v0))},
	2: {0, code(loadAt(in0), storeAt(v0))},
	3: {1, code(pushN(4), storeAt(v0))},
	4: {2, code(pushN(4), loadAt(v1), twoOf(6), storeAt(v0))},
	5: {1, code(pushN(4), notIns(), storeAt(v0))},
	6: {1, code(loadAt(v1), skipTo(4), pushN(4), storeAt(v0))},
	7: {0, code(jumpTo(1))},
	8: {2, code(loadAt(v1), skipTo(3), backTo(0))},
}

// insBad are codes with one instruction that may stand in no code, at a place where one of its Op may, or where one
// that turns no count may.
func insBad() map[string][]impl.Ins {
	out := map[string][]impl.Ins{}
	for _, op := range []int{0, 9, 10, -1, -2, -8, 256 + 5, math.MinInt, math.MaxInt} {
		name := "op " + strconv.Itoa(op)
		out[name] = code(impl.Ins{Op: op})
		out[name+", with all"] = code(impl.Ins{Op: op, N: 1, Addr: v0})
		out[name+", among others"] = code(pushN(1), impl.Ins{Op: op}, storeAt(v0))
		out[name+", first"] = code(impl.Ins{Op: op}, pushN(1), storeAt(v0))
		out[name+", last"] = code(pushN(1), storeAt(v0), impl.Ins{Op: op, N: 3})
	}
	for op, c := range opCodes {
		turn := func(what string, f func(ins *impl.Ins)) {
			p := slices.Clone(c.p)
			f(&p[c.at])
			out["op "+strconv.Itoa(op)+" with "+what] = p
		}
		for i, a := range append(placesOk(), placesBad()...) {
			bad := a != (impl.Addr{})
			if op == 2 || op == 3 {
				bad = i >= 18 || op == 3 && i < 6
			}
			if bad {
				turn("a place "+strconv.Itoa(i), func(ins *impl.Ins) { ins.Addr = a })
			}
		}
		for _, n := range []int{math.MinInt, -1000001, -1000000, -4, -1, 1, 2, 3, 9, 10, 11, 400, 1000000, 1000001, 1 << 32, math.MaxInt} {
			bad := n != 0
			switch op {
			case 1:
				bad = n < -1000000 || n > 1000000
			case 4:
				bad = n < 3 || n > 9
			case 6, 7, 8:
				bad = n < 0 || n > len(c.p)
			}
			if bad {
				turn("N "+strconv.Itoa(n), func(ins *impl.Ins) { ins.N = n })
			}
		}
	}
	for _, n := range []int{0, 1, 2, 10} {
		out["two of kind "+strconv.Itoa(n)] = code(pushN(1), pushN(2), twoOf(n), storeAt(v0))
	}
	return out
}

// codesOk are many that are ok: odd ones, those of statements, and some more.
func codesOk() [][]impl.Ins {
	var out [][]impl.Ins
	for _, c := range codesOdd() {
		out = append(out, c.p)
	}
	for _, c := range opCodes {
		out = append(out, c.p)
	}
	for many := 395; many <= 400; many++ {
		out = append(out, pairs(many), jumps(many))
	}
	for deep := 1; deep <= 12; deep++ {
		out = append(out, pile(deep, pushN(-5)), pile(deep, loadAt(v2)))
	}
	for _, list := range stmtsOk() {
		out = append(out, wantCode(list, 0))
	}
	r := rand.New(rand.NewPCG(5, 40))
	for range 1500 {
		out = append(out, someCode(r, 1+r.IntN(60)))
	}
	return out
}

func TestCodeNames(t *testing.T) {
	names := []int{impl.InsPush, impl.InsLoad, impl.InsStore, impl.InsTwo, impl.InsNot, impl.InsSkip, impl.InsJump, impl.InsBack, impl.CodeMax, impl.CodeDeep}
	if !slices.Equal(names, []int{1, 2, 3, 4, 5, 6, 7, 8, 400, 12}) {
		t.Error(names)
	}
}

// checkCode asks all functions of code that is ok, what it does aside.
func checkCode(t *testing.T, p []impl.Ins) {
	t.Helper()
	text := wantCodeText(p)
	if !impl.CodeOk(p) {
		t.Errorf("CodeOk(%q) = false", text)
	}
	if got, want := impl.CodeDepth(p), wantDepth(p); got != want || want < 0 {
		t.Errorf("CodeDepth(%q) = %d, not %d", text, got, want)
	}
	if got := impl.CodeText(p); got != text {
		t.Errorf("CodeText = %q, not %q", got, text)
	}
	if got, ok := impl.CodeRead(text); !ok || !sameCode(got, p) {
		t.Errorf("CodeRead(%q) = %v, %v", text, got, ok)
	}
	if !impl.CodeSame(p, slices.Clone(p)) {
		t.Errorf("CodeSame(%q) = false", text)
	}
}

// Code that is ok is read from its text as it was.
func TestCodeReadAsWritten(t *testing.T) {
	for _, p := range codesOk() {
		checkCode(t, p)
	}
	for n := -1200; n <= 1200; n++ {
		checkCode(t, code(pushN(n), pushN(833*n), twoOf(4), storeAt(o0)))
	}
	for _, a := range placesOk() {
		for _, to := range placesOk()[6:] {
			checkCode(t, code(loadAt(a), storeAt(to)))
		}
	}
}

func TestCodeTexts(t *testing.T) {
	for text, p := range map[string][]impl.Ins{
		"":                               nil,
		"jump 1\n":                       code(jumpTo(1)),
		"push 1\nskip 3\nback 0\n":       code(pushN(1), skipTo(3), backTo(0)),
		"push -1000000\nstore o5\n":      code(pushN(-1000000), storeAt(o5)),
		"load i0\nnot\nstore v1\n":       code(loadAt(in0), notIns(), storeAt(v1)),
		"load v0\nskip 2\njump 3\n":      code(loadAt(v0), skipTo(2), jumpTo(3)),
		"push 0\npush 2\nadd\nskip 4\n":  code(pushN(0), pushN(2), twoOf(3), skipTo(4)),
		"push 0\npush 2\nsub\nskip 4\n":  code(pushN(0), pushN(2), twoOf(4), skipTo(4)),
		"push 0\npush 2\nmul\nskip 4\n":  code(pushN(0), pushN(2), twoOf(5), skipTo(4)),
		"push 0\npush 2\nless\nskip 4\n": code(pushN(0), pushN(2), twoOf(6), skipTo(4)),
		"push 0\npush 2\nsame\nskip 4\n": code(pushN(0), pushN(2), twoOf(7), skipTo(4)),
		"push 0\npush 2\nand\nskip 4\n":  code(pushN(0), pushN(2), twoOf(8), skipTo(4)),
		"push 0\npush 2\nor\nskip 4\n":   code(pushN(0), pushN(2), twoOf(9), skipTo(4)),
	} {
		if wantCodeText(p) != text {
			t.Errorf("%q, not %q", wantCodeText(p), text)
		}
		checkCode(t, p)
	}
}

// The lines of what is not ok, written out.
func TestCodeTextBad(t *testing.T) {
	for _, c := range []struct {
		ins  impl.Ins
		line string
	}{
		{impl.Ins{}, "none"}, {impl.Ins{Op: 9}, "none"}, {impl.Ins{Op: -1}, "none"}, {impl.Ins{Op: 9, N: 4, Addr: v0}, "none"}, {impl.Ins{Op: math.MaxInt}, "none"}, {impl.Ins{Op: math.MinInt}, "none"},
		{twoOf(0), "none"}, {twoOf(1), "none"}, {twoOf(2), "none"}, {twoOf(10), "none"}, {twoOf(-1), "none"}, {twoOf(math.MaxInt), "none"}, {twoOf(math.MinInt), "none"},
		{twoOf(3), "add"}, {twoOf(9), "or"}, {impl.Ins{Op: 4, N: 6, Addr: v0}, "less"}, {notIns(), "not"}, {impl.Ins{Op: 5, N: 3, Addr: v0}, "not"},
		{pushN(1000001), "push 1000001"}, {pushN(math.MinInt64), "push -9223372036854775808"}, {pushN(math.MaxInt64), "push 9223372036854775807"}, {impl.Ins{Op: 1, N: 0, Addr: v0}, "push 0"},
		{loadAt(impl.Addr{}), "load "}, {loadAt(impl.Addr{Kind: 3, At: 6}), "load "}, {loadAt(impl.Addr{Kind: 4}), "load "}, {impl.Ins{Op: 2, N: 7, Addr: v0}, "load v0"},
		{storeAt(impl.Addr{}), "store "}, {storeAt(impl.Addr{Kind: 2, At: -1}), "store "}, {storeAt(in0), "store i0"}, {impl.Ins{Op: 3, N: -7, Addr: o5}, "store o5"},
		{skipTo(-1), "skip -1"}, {skipTo(0), "skip 0"}, {jumpTo(99999), "jump 99999"}, {backTo(7), "back 7"}, {impl.Ins{Op: 8, N: -2, Addr: o0}, "back -2"},
	} {
		for many := 1; many <= 3; many++ {
			p := slices.Repeat(code(c.ins), many)
			if got, want := impl.CodeText(p), strings.Repeat(c.line+"\n", many); got != want || wantCodeText(p) != want {
				t.Errorf("CodeText(%v) = %q, not %q", p, got, want)
			}
		}
	}
	many := slices.Repeat(code(impl.Ins{}, pushN(5), loadAt(v0)), 1<<16)
	if impl.CodeText(many) != strings.Repeat("none\npush 5\nload v0\n", 1<<16) {
		t.Error("of many")
	}
}

// checkCodeBad asks all functions of code that is not ok.
func checkCodeBad(t *testing.T, name string, p []impl.Ins) {
	t.Helper()
	if impl.CodeOk(p) || wantDepth(p) != -1 {
		t.Errorf("CodeOk = %v, not %v: %s", impl.CodeOk(p), wantDepth(p) >= 0, name)
	}
	if got := impl.CodeDepth(p); got != -1 {
		t.Errorf("CodeDepth = %d: %s", got, name)
	}
	if got, want := impl.CodeText(p), wantCodeText(p); got != want {
		t.Errorf("CodeText = %q, not %q: %s", got, want, name)
	}
	for _, fuel := range []int{0, 50, 100} {
		checkCodeForm(t, name, memOf(), p, fuel)
	}
	checkCodeForm(t, name, impl.Mem{}, p, 101)
	checkCodeRead(t, wantCodeText(p))
}

// checkCodeForm asks for the answer to what can't be run.
func checkCodeForm(t *testing.T, name string, m impl.Mem, p []impl.Ins, fuel int) {
	t.Helper()
	if got, end, left := impl.CodeRun(m, p, fuel); !isNothing(got) || end != 2 || left != 0 {
		t.Errorf("CodeRun = %v, %d, %d with fuel %d: %s", got, end, left, fuel, name)
	}
}

func TestCodeBad(t *testing.T) {
	alone := insBad()
	for name, p := range codesBad() {
		checkCodeBad(t, name, p)
		if _, ok := impl.CodeRead(wantCodeText(p)); ok && alone[name] == nil {
			t.Errorf("the text of code that is not ok is read: %s", name)
		}
	}
	checkCodeBad(t, "what is behind the end", slices.Repeat(code(pushN(1), storeAt(v0)), 2)[:3])
	for _, p := range [][]impl.Ins{make([]impl.Ins, 1<<20), pairs(1 << 20)} {
		if impl.CodeOk(p) || impl.CodeDepth(p) != -1 {
			t.Error("more than can be gone through")
		}
		checkCodeForm(t, "more than can be gone through", memOf(), p, 5)
	}
}

func TestCodeOdd(t *testing.T) {
	for name, c := range codesOdd() {
		checkCode(t, c.p)
		if got := impl.CodeDepth(c.p); got != c.deep {
			t.Errorf("CodeDepth = %d, not %d: %s", got, c.deep, name)
		}
		for fuel := range 101 {
			for _, m := range memsFor() {
				checkCodeRun(t, m, c.p, fuel)
			}
		}
	}
	for op, c := range opCodes {
		checkCode(t, c.p)
		if c.p[c.at].Op != op {
			t.Errorf("op %d is not where it is said", op)
		}
	}
}

// What just fits is ok; with one instruction, one number that is held, or 1 more, each by itself, it is not.
func TestCodeBounds(t *testing.T) {
	for many := 390; many <= 410; many++ {
		for _, p := range [][]impl.Ins{pairs(many), jumps(many), append(pairs(many-3), pushN(1), skipTo(many), backTo(0)), append(pairs(many-4), pushN(1), notIns(), notIns(), storeAt(o0))} {
			if len(p) != many {
				t.Fatalf("%d, not %d", len(p), many)
			}
			if many <= 400 {
				checkCode(t, p)
				checkCodeRun(t, memOf(), p, 100)
			} else {
				checkCodeBad(t, strconv.Itoa(many), p)
			}
		}
	}
	for deep := 1; deep <= 20; deep++ {
		stores := slices.Repeat(code(storeAt(v0)), deep)
		for _, p := range [][]impl.Ins{pile(deep, pushN(2)), pile(deep, loadAt(v0)), append(slices.Repeat(code(pushN(3)), deep), stores...)} {
			if deep > 12 {
				checkCodeBad(t, strconv.Itoa(deep)+" held", p)
				continue
			}
			checkCode(t, p)
			checkCodeRun(t, memOf(), p, 100)
			if got := impl.CodeDepth(p); got != deep {
				t.Errorf("CodeDepth = %d, not %d", got, deep)
			}
		}
	}
	for _, n := range []int{-1000000, -999999, 999999, 1000000} {
		checkCode(t, code(pushN(n), storeAt(v0)))
		checkCodeRun(t, memOf(), code(pushN(n), storeAt(v0)), 0)
	}
	for _, n := range []int{-1000001, 1000001, math.MinInt, math.MaxInt} {
		checkCodeBad(t, strconv.Itoa(n), code(pushN(n), storeAt(v0)))
	}
}

// countCodes holds all codes of so many instructions against the tests' own answer; those that are ok are run, too.
func countCodes(t *testing.T, many int, choices func(at int) []impl.Ins) int {
	t.Helper()
	ok := 0
	p := make([]impl.Ins, many)
	m := impl.MemOpen()
	m.Var[0] = 1
	var fill func(at int)
	fill = func(at int) {
		if at < many {
			for _, ins := range choices(at) {
				p[at] = ins
				fill(at + 1)
			}
			return
		}
		want := wantDepth(p)
		if got := impl.CodeDepth(p); got != want || impl.CodeOk(p) != (want >= 0) {
			t.Fatalf("CodeDepth(%q) = %d, not %d; CodeOk = %v", wantCodeText(p), got, want, impl.CodeOk(p))
		}
		if want >= 0 {
			ok++
			for fuel := range 4 {
				checkCodeRun(t, m, p, fuel)
			}
		}
	}
	fill(0)
	return ok
}

// Every code of at most four instructions of each Op, that go to every place, and to one that is none on either side.
func TestCodeEvery(t *testing.T) {
	for many, want := range []int{1, 1, 5, 21, 127} {
		all := code(pushN(2), loadAt(v0), storeAt(v0), twoOf(4), notIns())
		for to := -1; to <= many+1; to++ {
			all = append(all, skipTo(to), jumpTo(to), backTo(to))
		}
		if got := countCodes(t, many, func(int) []impl.Ins { return all }); got != want {
			t.Errorf("%d of those of %d are ok, not %d", got, many, want)
		}
	}
}

// Every code of at most five instructions that fit where they stand.
func TestCodeEveryFit(t *testing.T) {
	for many, want := range []int{1, 1, 3, 11, 51, 260} {
		got := countCodes(t, many, func(at int) []impl.Ins {
			all := code(loadAt(v0), storeAt(v0), twoOf(4), notIns())
			for to := range many + 1 {
				if to > at {
					all = append(all, skipTo(to), jumpTo(to))
				}
				if to < at {
					all = append(all, backTo(to))
				}
			}
			return all
		})
		if got != want {
			t.Errorf("%d of those of %d are ok, not %d", got, many, want)
		}
	}
}

// turnedCodes are codes that differ from one in one thing of one instruction, or by one instruction.
func turnedCodes(p []impl.Ins) [][]impl.Ins {
	var out [][]impl.Ins
	turn := func(f func(p []impl.Ins) []impl.Ins) { out = append(out, f(slices.Clone(p))) }
	for at := range len(p) + 1 {
		for _, ins := range code(impl.Ins{}, pushN(1), storeAt(v0), notIns(), jumpTo(at+1), backTo(0)) {
			turn(func(p []impl.Ins) []impl.Ins { return slices.Insert(p, at, ins) })
		}
	}
	for at := range p {
		change := func(f func(ins *impl.Ins)) {
			turn(func(p []impl.Ins) []impl.Ins { f(&p[at]); return p })
		}
		for op := range 10 {
			if op != p[at].Op {
				change(func(ins *impl.Ins) { ins.Op = op })
			}
		}
		for _, by := range []int{-2, -1, 1, 2, 1 << 32} {
			change(func(ins *impl.Ins) { ins.N += by })
		}
		change(func(ins *impl.Ins) { ins.Op = -ins.Op - 1 })
		change(func(ins *impl.Ins) { ins.Addr.Kind++ })
		change(func(ins *impl.Ins) { ins.Addr.Kind-- })
		change(func(ins *impl.Ins) { ins.Addr.At++ })
		change(func(ins *impl.Ins) { ins.Addr.At-- })
		turn(func(p []impl.Ins) []impl.Ins { return slices.Delete(p, at, at+1) })
		if at > 0 && p[at] != p[at-1] {
			turn(func(p []impl.Ins) []impl.Ins { p[at], p[at-1] = p[at-1], p[at]; return p })
		}
	}
	return out
}

// Codes that come near what is ok: with one thing turned of those that are.
func TestCodeTurned(t *testing.T) {
	r := rand.New(rand.NewPCG(9, 1))
	var all [][]impl.Ins
	for _, c := range codesOdd() {
		all = append(all, c.p)
	}
	for _, text := range endless {
		list, _ := impl.StmtsRead(text)
		all = append(all, wantCode(list, 0))
	}
	for range 150 {
		all = append(all, someCode(r, 1+r.IntN(20)))
	}
	ok, bad := 0, 0
	for _, p := range all {
		for _, other := range turnedCodes(p) {
			want := wantDepth(other)
			if got := impl.CodeDepth(other); got != want || impl.CodeOk(other) != (want >= 0) {
				t.Fatalf("CodeDepth(%q) = %d, not %d", wantCodeText(other), got, want)
			}
			if impl.CodeSame(p, other) || impl.CodeSame(other, p) {
				t.Fatalf("CodeSame(%q, %q) = true", wantCodeText(p), wantCodeText(other))
			}
			if want < 0 {
				bad++
				checkCodeForm(t, wantCodeText(other), impl.MemOpen(), other, 9)
				continue
			}
			ok++
			checkCodeRun(t, impl.MemOpen(), other, 9)
		}
	}
	if ok < 1000 || bad < 1000 {
		t.Errorf("%d are ok, %d are not", ok, bad)
	}
}

// memsFor are memories that are ok: with other numbers at all places, of zeros, and of small ones.
func memsFor() []impl.Mem {
	small := impl.MemOpen()
	small.In[0], small.Out[3], small.Var[0], small.Var[1], small.Var[5] = 1, -1, 2, -3, 7
	return []impl.Mem{memOf(), impl.MemOpen(), small}
}

// checkCodeRun holds what code does against what it means. Promise 5: it never holds fewer than it takes, nor more
// than 12, nor more than CodeDepth says, and always ends.
func checkCodeRun(t *testing.T, m impl.Mem, p []impl.Ins, fuel int) (impl.Mem, int, int) {
	t.Helper()
	was := copyMem(m)
	got, end, left := impl.CodeRun(m, p, fuel)
	want := wantCodeRun(m, p, fuel)
	if !sameMem(got, want.mem) || end != want.code || left != want.left {
		t.Errorf("%q with fuel %d of %v: %v, %d, %d, not %v, %d, %d", wantCodeText(p), fuel, m, got, end, left, want.mem, want.code, want.left)
	}
	if want.short || want.most > 12 || want.most > impl.CodeDepth(p) || want.steps > (fuel+1)*len(p) {
		t.Errorf("%q with fuel %d of %v: too few are held, or %d, in %d steps", wantCodeText(p), fuel, m, want.most, want.steps)
	}
	if !impl.MemOk(got) || left < 0 || left > fuel || !slices.Equal(got.In, was.In) || !sameMem(m, was) {
		t.Errorf("%q with fuel %d of %v: %v, %d, %d", wantCodeText(p), fuel, was, got, end, left)
	}
	return got, end, left
}

// Promise 5: code that is ok never holds too few or too many numbers, and always ends, with every fuel.
func TestCodeRunEveryFuel(t *testing.T) {
	r := rand.New(rand.NewPCG(15, 51))
	ends := [2]int{}
	for range 400 {
		p := someCode(r, 1+r.IntN(80))
		for fuel := range 101 {
			_, end, _ := checkCodeRun(t, memsFor()[fuel%3], p, fuel)
			ends[end]++
		}
	}
	if ends[0] < 2000 || ends[1] < 2000 {
		t.Errorf("how they end: %v", ends)
	}
}

func TestCodeRunMany(t *testing.T) {
	for _, p := range codesOk() {
		for _, m := range memsFor() {
			for _, fuel := range []int{0, 1, 7, 100} {
				checkCodeRun(t, m, p, fuel)
			}
		}
	}
}

// checkDoes holds what the code of a list does against what the list does. Promise 5.
func checkDoes(t *testing.T, m impl.Mem, list []impl.Stmt, p []impl.Ins, fuel int) int {
	t.Helper()
	want, wantEnd, wantLeft := impl.StmtsRun(m, list, fuel)
	got, end, left := impl.CodeRun(m, p, fuel)
	if !sameMem(got, want) {
		t.Errorf("%q with fuel %d of %v leaves %v, its code %v", wantStmtsText(list), fuel, m, want, got)
	}
	if end != wantEnd || end == 2 {
		t.Errorf("%q with fuel %d of %v ends with %d, its code with %d", wantStmtsText(list), fuel, m, wantEnd, end)
	}
	if left != wantLeft {
		t.Errorf("%q with fuel %d of %v: %d is left, of its code %d", wantStmtsText(list), fuel, m, wantLeft, left)
	}
	return end
}

// Promise 5: the code does what the program does, with every fuel from 0 to 100.
func TestCodeDoesWhatTheProgramDoes(t *testing.T) {
	var lists [][]impl.Stmt
	for _, text := range endless {
		list, ok := impl.StmtsRead(text)
		if !ok {
			t.Fatalf("%q", text)
		}
		lists = append(lists, list)
	}
	for _, c := range stmtsJustOk() {
		lists = append(lists, c.list)
	}
	for _, list := range runsOf() {
		lists = append(lists, list)
	}
	for i, list := range stmtsOk() {
		if i%4 == 0 {
			lists = append(lists, list)
		}
	}
	ends := [3]int{}
	for _, list := range lists {
		p := impl.CodeOf(list)
		for _, m := range memsFor() {
			for fuel := range 101 {
				ends[checkDoes(t, m, list, p, fuel)]++
			}
		}
	}
	if ends[0] < 10000 || ends[1] < 10000 || ends[2] != 0 {
		t.Errorf("how they end: %v", ends)
	}
}

// Promise 5: the same for many more lists, with fuel of 0, of 100, and between; and their code is ok.
func TestCodeOfIsOk(t *testing.T) {
	r := rand.New(rand.NewPCG(2, 22))
	lists := stmtsOk()
	for range 3000 {
		lists = append(lists, someStmts(r, 16, 3))
	}
	for _, list := range lists {
		p := impl.CodeOf(list)
		if want := wantCode(list, 0); !sameCode(p, want) {
			t.Errorf("CodeOf(%q) = %q, not %q", wantStmtsText(list), wantCodeText(p), wantCodeText(want))
		}
		if !impl.CodeOk(p) || wantDepth(p) < 0 || impl.CodeDepth(p) != wantDepth(p) || len(p) > 256 {
			t.Errorf("the code of %q is not ok: %q", wantStmtsText(list), wantCodeText(p))
		}
		for i, fuel := range []int{0, r.IntN(101), 100} {
			checkDoes(t, memsFor()[i], list, p, fuel)
		}
	}
}

// What the code of each kind of what is reckoned is, instruction by instruction.
func TestCodeOfExprs(t *testing.T) {
	for text, want := range map[string][]impl.Ins{
		"0":                         code(pushN(0)),
		"-1000000":                  code(pushN(-1000000)),
		"1000000":                   code(pushN(1000000)),
		"i0":                        code(loadAt(in0)),
		"o5":                        code(loadAt(o5)),
		"v2":                        code(loadAt(v2)),
		"add 1 2":                   code(pushN(1), pushN(2), twoOf(3)),
		"sub v0 2":                  code(loadAt(v0), pushN(2), twoOf(4)),
		"mul 2 v0":                  code(pushN(2), loadAt(v0), twoOf(5)),
		"less i0 v0":                code(loadAt(in0), loadAt(v0), twoOf(6)),
		"same 1 1":                  code(pushN(1), pushN(1), twoOf(7)),
		"and 0 v1":                  code(pushN(0), loadAt(v1), twoOf(8)),
		"or v1 0":                   code(loadAt(v1), pushN(0), twoOf(9)),
		"not 3":                     code(pushN(3), notIns()),
		"not not v0":                code(loadAt(v0), notIns(), notIns()),
		"sub sub 1 2 3":             code(pushN(1), pushN(2), twoOf(4), pushN(3), twoOf(4)),
		"sub 1 sub 2 3":             code(pushN(1), pushN(2), pushN(3), twoOf(4), twoOf(4)),
		"less not 1 add v0 not 2":   code(pushN(1), notIns(), loadAt(v0), pushN(2), notIns(), twoOf(3), twoOf(6)),
		"or and 1 2 same 3 mul 4 5": code(pushN(1), pushN(2), twoOf(8), pushN(3), pushN(4), pushN(5), twoOf(5), twoOf(7), twoOf(9)),
	} {
		for to, ins := range map[string]impl.Ins{"o0": storeAt(o0), "v1": storeAt(v1)} {
			checkCodeOf(t, "set "+to+" "+text, append(slices.Clone(want), ins))
		}
		n := len(want)
		checkCodeOf(t, "if "+text+" [ - ] [ - ]", append(slices.Clone(want), skipTo(n+2), jumpTo(n+2)))
		checkCodeOf(t, "while "+text+" [ - ]", append(slices.Clone(want), skipTo(n+2), backTo(0)))
	}
}

// checkCodeOf holds the code of what is read from a text against what it must be.
func checkCodeOf(t *testing.T, text string, want []impl.Ins) {
	t.Helper()
	list, ok := impl.StmtsRead(text)
	got := impl.CodeOf(list)
	if !ok || !sameCode(got, want) || !sameCode(want, wantCode(list, 0)) {
		t.Errorf("CodeOf(%q) = %q, not %q", text, wantCodeText(got), wantCodeText(want))
	}
	checkCode(t, want)
}

// What the code of each kind of what is done is, instruction by instruction.
func TestCodeOfStmts(t *testing.T) {
	for text, want := range map[string][]impl.Ins{
		"-":                               nil,
		"set v0 1":                        code(pushN(1), storeAt(v0)),
		"set v0 i0 ; set o5 v0":           code(loadAt(in0), storeAt(v0), loadAt(v0), storeAt(o5)),
		"if v0 [ - ] [ - ]":               code(loadAt(v0), skipTo(3), jumpTo(3)),
		"if v0 [ set v1 1 ] [ - ]":        code(loadAt(v0), skipTo(5), pushN(1), storeAt(v1), jumpTo(5)),
		"if v0 [ - ] [ set v1 2 ]":        code(loadAt(v0), skipTo(3), jumpTo(5), pushN(2), storeAt(v1)),
		"if v0 [ set v1 1 ] [ set v1 2 ]": code(loadAt(v0), skipTo(5), pushN(1), storeAt(v1), jumpTo(7), pushN(2), storeAt(v1)),
		"if v0 [ set v1 1 ] [ set v1 2 ] ; set o0 3": code(loadAt(v0), skipTo(5), pushN(1), storeAt(v1), jumpTo(7), pushN(2), storeAt(v1), pushN(3), storeAt(o0)),
		"while v0 [ - ]":                                                 code(loadAt(v0), skipTo(3), backTo(0)),
		"while v0 [ set v0 0 ]":                                          code(loadAt(v0), skipTo(5), pushN(0), storeAt(v0), backTo(0)),
		"while v0 [ set v0 0 ; set v1 1 ] ; set o0 3":                    code(loadAt(v0), skipTo(7), pushN(0), storeAt(v0), pushN(1), storeAt(v1), backTo(0), pushN(3), storeAt(o0)),
		"set o0 3 ; while not v0 [ - ]":                                  code(pushN(3), storeAt(o0), loadAt(v0), notIns(), skipTo(6), backTo(2)),
		"while v0 [ - ] ; while v1 [ - ]":                                code(loadAt(v0), skipTo(3), backTo(0), loadAt(v1), skipTo(6), backTo(3)),
		"while v0 [ while v1 [ - ] ]":                                    code(loadAt(v0), skipTo(6), loadAt(v1), skipTo(5), backTo(2), backTo(0)),
		"while v0 [ set v1 1 ; while v1 [ set v1 0 ] ; set v0 0 ]":       code(loadAt(v0), skipTo(12), pushN(1), storeAt(v1), loadAt(v1), skipTo(9), pushN(0), storeAt(v1), backTo(4), pushN(0), storeAt(v0), backTo(0)),
		"if v0 [ if v1 [ - ] [ - ] ] [ - ]":                              code(loadAt(v0), skipTo(6), loadAt(v1), skipTo(5), jumpTo(5), jumpTo(6)),
		"if v0 [ - ] [ if v1 [ - ] [ - ] ]":                              code(loadAt(v0), skipTo(3), jumpTo(6), loadAt(v1), skipTo(6), jumpTo(6)),
		"if v0 [ if v1 [ set v2 1 ] [ set v2 2 ] ] [ set v2 3 ]":         code(loadAt(v0), skipTo(10), loadAt(v1), skipTo(7), pushN(1), storeAt(v2), jumpTo(9), pushN(2), storeAt(v2), jumpTo(12), pushN(3), storeAt(v2)),
		"if v0 [ while v1 [ - ] ] [ while v2 [ - ] ]":                    code(loadAt(v0), skipTo(6), loadAt(v1), skipTo(5), backTo(2), jumpTo(9), loadAt(v2), skipTo(9), backTo(6)),
		"while v0 [ if v1 [ set v0 0 ] [ - ] ]":                          code(loadAt(v0), skipTo(8), loadAt(v1), skipTo(7), pushN(0), storeAt(v0), jumpTo(7), backTo(0)),
		"while v0 [ if v1 [ - ] [ while v2 [ if 1 [ - ] [ - ] ] ] ]":     code(loadAt(v0), skipTo(12), loadAt(v1), skipTo(5), jumpTo(11), loadAt(v2), skipTo(11), pushN(1), skipTo(10), jumpTo(10), backTo(5), backTo(0)),
		"while less v0 5 [ set v0 add v0 1 ] ; if v0 [ - ] [ set o0 1 ]": code(loadAt(v0), pushN(5), twoOf(6), skipTo(9), loadAt(v0), pushN(1), twoOf(3), storeAt(v0), backTo(0), loadAt(v0), skipTo(12), jumpTo(14), pushN(1), storeAt(o0)),
	} {
		checkCodeOf(t, text, want)
	}
}

// The longest code there is: 16 statements of 14 parts each.
func TestCodeOfLongest(t *testing.T) {
	for _, c := range exprsJustOk() {
		for i, s := range []impl.Stmt{set(v0, c.e), when(c.e, nil, nil), while(c.e)} {
			p := impl.CodeOf(slices.Repeat(stmts(s), 16))
			if want := 16 * (c.many + []int{1, 2, 2}[i]); len(p) != want {
				t.Errorf("%d instructions, not %d", len(p), want)
			}
			checkCode(t, p)
		}
	}
}

func TestCodeOfBad(t *testing.T) {
	for name, list := range stmtsBad() {
		if got := impl.CodeOf(list); len(got) != 0 {
			t.Errorf("CodeOf = %v: %s", got, name)
		}
	}
	for name, list := range stmtLoops() {
		if got := impl.CodeOf(list); len(got) != 0 {
			t.Errorf("CodeOf = %v: %s", got, name)
		}
	}
	for _, none := range [][]impl.Stmt{nil, {}, flat(3)[:0]} {
		if got := impl.CodeOf(none); len(got) != 0 {
			t.Errorf("CodeOf of none = %v", got)
		}
	}
	if len(impl.CodeOf(deepest(1<<17, 0, nil))) != 0 || len(impl.CodeOf(slices.Repeat(flat(1), 1<<20))) != 0 {
		t.Error("of far too much")
	}
}

// What some do, written out: v0 and v1 ahead, fuel, and v0, v1, the code and the fuel that is left behind it.
func TestCodeRunTable(t *testing.T) {
	for _, c := range []struct {
		p                 []impl.Ins
		a, b, fuel        int
		wantA, wantB      int
		wantEnd, wantLeft int
	}{
		{nil, 3, 4, 0, 3, 4, 0, 0},
		{nil, 3, 4, 100, 3, 4, 0, 100},
		{code(jumpTo(1)), 3, 4, 7, 3, 4, 0, 7},
		{code(pushN(5), storeAt(v0)), 3, 4, 0, 5, 4, 0, 0},
		{code(pushN(-1000000), storeAt(v1)), 3, 4, 100, 3, -1000000, 0, 100},
		{code(loadAt(v0), storeAt(v1)), 3, 4, 1, 3, 3, 0, 1},
		{code(loadAt(v0), loadAt(v1), storeAt(v0), storeAt(v1)), 3, 4, 1, 4, 3, 0, 1},
		{code(loadAt(v0), loadAt(v1), twoOf(3), storeAt(v0)), 3, 4, 1, 7, 4, 0, 1},
		{code(loadAt(v0), loadAt(v1), twoOf(4), storeAt(v0)), 3, 4, 1, -1, 4, 0, 1},
		{code(loadAt(v0), loadAt(v1), twoOf(5), storeAt(v0)), 3, -4, 1, -12, -4, 0, 1},
		{code(loadAt(v0), loadAt(v1), twoOf(6), storeAt(v0)), 3, 4, 1, 1, 4, 0, 1},
		{code(loadAt(v0), loadAt(v1), twoOf(6), storeAt(v0)), 4, 3, 1, 0, 3, 0, 1},
		{code(loadAt(v0), loadAt(v1), twoOf(7), storeAt(v0)), 4, 4, 1, 1, 4, 0, 1},
		{code(loadAt(v0), loadAt(v1), twoOf(8), storeAt(v0)), 4, 0, 1, 0, 0, 0, 1},
		{code(loadAt(v0), loadAt(v1), twoOf(9), storeAt(v0)), 4, 0, 1, 1, 0, 0, 1},
		{code(loadAt(v0), loadAt(v1), twoOf(3), storeAt(v0)), 999999, 4, 1, 1000000, 4, 0, 1},
		{code(loadAt(v0), loadAt(v1), twoOf(5), storeAt(v0)), 999999, -999999, 1, -1000000, -999999, 0, 1},
		{code(pushN(9), loadAt(v0), loadAt(v1), twoOf(4), twoOf(4), storeAt(v0)), 3, 4, 1, 10, 4, 0, 1},
		{code(loadAt(v0), notIns(), storeAt(v1)), 3, 4, 1, 3, 0, 0, 1},
		{code(loadAt(v0), notIns(), storeAt(v1)), 0, 4, 1, 0, 1, 0, 1},
		{code(loadAt(v0), notIns(), notIns(), storeAt(v1)), -7, 4, 1, -7, 1, 0, 1},
		{code(loadAt(v0), skipTo(4), pushN(8), storeAt(v1)), 3, 4, 1, 3, 8, 0, 1},
		{code(loadAt(v0), skipTo(4), pushN(8), storeAt(v1)), -3, 4, 1, -3, 8, 0, 1},
		{code(loadAt(v0), skipTo(4), pushN(8), storeAt(v1)), 0, 4, 1, 0, 4, 0, 1},
		{code(pushN(6), loadAt(v0), skipTo(5), storeAt(v1), jumpTo(6), storeAt(v0)), 0, 4, 1, 6, 4, 0, 1},
		{code(pushN(6), loadAt(v0), skipTo(5), storeAt(v1), jumpTo(6), storeAt(v0)), 2, 4, 1, 2, 6, 0, 1},
		{code(loadAt(v0), skipTo(4), pushN(1), jumpTo(5), pushN(2), storeAt(v1)), 0, 4, 1, 0, 2, 0, 1},
		{code(loadAt(v0), skipTo(4), pushN(1), jumpTo(5), pushN(2), storeAt(v1)), 5, 4, 1, 5, 1, 0, 1},
		{code(loadAt(v0), skipTo(3), backTo(0)), 0, 4, 0, 0, 4, 0, 0},
		{code(loadAt(v0), skipTo(3), backTo(0)), 0, 4, 100, 0, 4, 0, 100},
		{code(loadAt(v0), skipTo(3), backTo(0)), 1, 4, 0, 1, 4, 1, 0},
		{code(loadAt(v0), skipTo(3), backTo(0)), 1, 4, 100, 1, 4, 1, 0},
		{code(loadAt(v0), skipTo(5), pushN(0), storeAt(v0), backTo(0)), 1, 4, 1, 0, 4, 0, 0},
		{code(loadAt(v0), skipTo(5), pushN(0), storeAt(v0), backTo(0)), 1, 4, 0, 0, 4, 1, 0},
		{code(loadAt(v0), skipTo(5), pushN(0), storeAt(v0), backTo(0)), 1, 4, 2, 0, 4, 0, 1},
		{code(pushN(9), loadAt(v0), skipTo(6), pushN(0), storeAt(v0), backTo(1), storeAt(v1)), 1, 4, 1, 0, 9, 0, 0},
		{code(pushN(9), loadAt(v0), skipTo(6), pushN(0), storeAt(v0), backTo(1), storeAt(v1)), 1, 4, 0, 0, 4, 1, 0},
		{code(pushN(0), pushN(1), twoOf(3), pushN(0), skipTo(8), pushN(5), storeAt(v0), backTo(1), storeAt(v1)), 3, 4, 9, 3, 1, 0, 9},
		{code(pushN(0), pushN(2), twoOf(3), loadAt(v0), pushN(1), twoOf(4), storeAt(v0), loadAt(v0), skipTo(10), backTo(1), storeAt(v1)), 3, 4, 9, 0, 6, 0, 7},
		{code(pushN(0), pushN(2), twoOf(3), loadAt(v0), pushN(1), twoOf(4), storeAt(v0), loadAt(v0), skipTo(10), backTo(1), storeAt(v1)), 3, 4, 2, 0, 6, 0, 0},
		{code(pushN(0), pushN(2), twoOf(3), loadAt(v0), pushN(1), twoOf(4), storeAt(v0), loadAt(v0), skipTo(10), backTo(1), storeAt(v1)), 3, 4, 1, 1, 4, 1, 0},
		{code(pushN(0), pushN(2), twoOf(3), loadAt(v0), pushN(1), twoOf(4), storeAt(v0), loadAt(v0), skipTo(10), backTo(1), storeAt(v1)), 3, 4, 0, 2, 4, 1, 0},
	} {
		m := impl.MemOpen()
		m.Var[0], m.Var[1] = c.a, c.b
		got, end, left := checkCodeRun(t, m, c.p, c.fuel)
		m.Var[0], m.Var[1] = c.wantA, c.wantB
		if !sameMem(got, m) || end != c.wantEnd || left != c.wantLeft {
			t.Errorf("%q of %d, %d with fuel %d: %v, %d, %d", wantCodeText(c.p), c.a, c.b, c.fuel, got, end, left)
		}
	}
}

// Each place is loaded, and each that can be is stored at, and no other one is turned.
func TestCodeRunPlaces(t *testing.T) {
	for _, from := range placesOk() {
		for _, to := range placesOk()[6:] {
			m, want := memOf(), memOf()
			(*listOf(&want, to.Kind))[to.At] = (*listOf(&m, from.Kind))[from.At]
			if got, end, left := impl.CodeRun(m, code(loadAt(from), storeAt(to)), 3); !sameMem(got, want) || end != 0 || left != 3 {
				t.Errorf("%v to %v: %v, %d, %d", from, to, got, end, left)
			}
		}
	}
}

// Each kind makes of two numbers what it must, the last one being its second.
func TestCodeRunTwo(t *testing.T) {
	for kind := 3; kind <= 9; kind++ {
		for _, x := range edgeNums {
			for _, y := range edgeNums {
				want := impl.MemOpen()
				want.Out[5] = wantOf(part(kind, num(x), num(y)), want)
				if got, end, left := impl.CodeRun(impl.MemOpen(), code(pushN(x), pushN(y), twoOf(kind), storeAt(o5)), 0); !sameMem(got, want) || end != 0 || left != 0 {
					t.Errorf("kind %d of %d, %d: %v, %d, %d", kind, x, y, got, end, left)
				}
			}
		}
	}
}

// runCode does a list by its code.
func runCode(m impl.Mem, list []impl.Stmt, fuel int) (impl.Mem, int, int) {
	return impl.CodeRun(m, impl.CodeOf(list), fuel)
}

// Fuel that is just enough, one too little, and more than enough, for a loop of every length.
func TestCodeFuel(t *testing.T) { checkFuel(t, runCode) }

// A back takes fuel each time; a skip and a jump take none.
func TestCodeFuelNone(t *testing.T) {
	for _, p := range [][]impl.Ins{jumps(400), code(pushN(0), skipTo(3), backTo(0)), code(pushN(0), skipTo(4), pushN(1), storeAt(v0)), code(jumpTo(1), pushN(1), skipTo(3), jumpTo(4))} {
		for fuel := range 101 {
			if _, end, left := checkCodeRun(t, impl.MemOpen(), p, fuel); end != 0 || left != fuel {
				t.Errorf("%q with fuel %d: %d, %d", wantCodeText(p), fuel, end, left)
			}
		}
	}
}

// The longest way there is: all of 400 instructions, again and again, till there is no fuel.
func TestCodeLongestWay(t *testing.T) {
	count := code(loadAt(v0), pushN(1), twoOf(3), storeAt(v0))
	p := slices.Concat(slices.Repeat(count, 99), code(jumpTo(397), pushN(1), skipTo(400), backTo(0)))
	for fuel := range 101 {
		m, end, left := checkCodeRun(t, impl.MemOpen(), p, fuel)
		if len(p) != 400 || m.Var[0] != 99*(fuel+1) || end != 1 || left != 0 {
			t.Errorf("with fuel %d: %v, %d, %d", fuel, m, end, left)
		}
	}
}

func TestCodeRunForm(t *testing.T) {
	for name, p := range map[string][]impl.Ins{"none": nil, "a store": pairs(2), "a loop": code(pushN(1), skipTo(3), backTo(0)), "much": pairs(400)} {
		for _, fuel := range []int{-1, 101, -2, 102, -100, 200, 356, math.MinInt, math.MaxInt} {
			checkCodeForm(t, name, memOf(), p, fuel)
		}
		for bad, m := range memsBad() {
			for _, fuel := range []int{-1, 0, 5, 100, 101} {
				checkCodeForm(t, name+" of "+bad, m, p, fuel)
			}
		}
		for _, fuel := range []int{0, 100} {
			if _, end, _ := impl.CodeRun(memOf(), p, fuel); end == 2 {
				t.Errorf("%s with fuel %d is not run", name, fuel)
			}
		}
	}
}

// What is ok and what is not are the same just if all instructions are, in the same order.
func TestCodeSame(t *testing.T) {
	odd := impl.Ins{Op: -9, N: math.MaxInt, Addr: impl.Addr{Kind: 70, At: -1}}
	all := [][]impl.Ins{nil, make([]impl.Ins, 1), make([]impl.Ins, 2), code(odd), code(odd, odd), code(pushN(1), odd), code(odd, pushN(1)), pairs(399), pairs(400), pairs(401), jumps(5)}
	for _, c := range codesOdd() {
		all = append(all, c.p)
	}
	for _, p := range codesBad() {
		if len(p) < 20 {
			all = append(all, p)
		}
	}
	for _, a := range all {
		for _, b := range all {
			if got, want := impl.CodeSame(a, slices.Clone(b)), sameCode(a, b); got != want {
				t.Fatalf("CodeSame(%v, %v) = %v", a, b, got)
			}
		}
	}
	for _, p := range [][]impl.Ins{code(odd, pushN(3)), pairs(6), codesBad()["a place to which nothing comes"], make([]impl.Ins, 3)} {
		for _, other := range turnedCodes(p) {
			if impl.CodeSame(p, other) || impl.CodeSame(other, p) {
				t.Errorf("CodeSame(%v, %v) = true", p, other)
			}
		}
	}
	nones := [][]impl.Ins{nil, {}, pairs(4)[:0]}
	for _, a := range nones {
		checkCode(t, a)
		for _, b := range nones {
			if !impl.CodeSame(a, b) || impl.CodeSame(a, jumps(1)) || impl.CodeSame(jumps(1), b) {
				t.Error("the empty list is not the same as the nil list")
			}
		}
	}
}

// checkCodeRead holds what is read against what must be: there is just one code that is ok whose text this is.
func checkCodeRead(t *testing.T, text string) bool {
	t.Helper()
	got, ok := impl.CodeRead(text)
	want, wantOk := wantCodeRead(text)
	if !wantOk {
		want = nil
	}
	if ok != wantOk || !sameCode(got, want) {
		t.Errorf("CodeRead(%q) = %v, %v, not %v, %v", text, got, ok, want, wantOk)
	}
	return ok
}

func TestCodeReadNone(t *testing.T) {
	const fine = "push 1\nstore v0\n"
	if !checkCodeRead(t, fine) || !checkCodeRead(t, fine+fine) {
		t.Error("what is fine is not read")
	}
	for _, text := range []string{
		"\n", " ", " \n", "\n\n", "\x00", "\xff", "\xff\n", "-", "-\n", "none", "none\n", "end\n", "0\n", "1\n", "v0\n", ";\n", "\r\n", "é\n",
		"push 1\nstore v0", "jump 1", "push 1\nstore v0\n\n", "\npush 1\nstore v0\n", "push 1\n\nstore v0\n", "push 1\nstore v0\n \n", "push 1\nstore v0\n ", "push 1\nstore v0\nend\n", "push 1\nstore v0\nnone\n", "push 1\r\nstore v0\r\n", "push 1 ; store v0\n", "push 1 store v0\n", "push 1\x00store v0\n", "push 1\u2028store v0\n",
		" push 1\nstore v0\n", "push 1 \nstore v0\n", "push  1\nstore v0\n", "push 1\n store v0\n", "push 1\nstore v0 \n", "push 1\nstore  v0\n", "push 1\nnot \nstore v0\n", "push 1\n not\nstore v0\n", "push\t1\nstore v0\n", "push 1\nstore\tv0\n", "push\u00a01\nstore v0\n", "push1\nstore v0\n", "push 1\nstorev0\n", " jump 1\n", "jump 1 \n", "jump  1\n", "push 1\nskip 2 \n", "push 1\nskip  2\n",
		"push 01\nstore v0\n", "push 00\nstore v0\n", "push -0\nstore v0\n", "push -01\nstore v0\n", "push +1\nstore v0\n", "push +0\nstore v0\n", "push --1\nstore v0\n", "push 1.0\nstore v0\n", "push 1e1\nstore v0\n", "push 0x1\nstore v0\n", "push 1_0\nstore v0\n", "push ١\nstore v0\n", "push １\nstore v0\n", "push 1000001\nstore v0\n", "push -1000001\nstore v0\n", "push 9223372036854775807\nstore v0\n", "push 9223372036854775808\nstore v0\n", "push 18446744073709551617\nstore v0\n", "push 4294967297\nstore v0\n",
		"jump 01\n", "jump +1\n", "jump 001\n", "jump 2\n", "jump 0\n", "jump -1\n", "push 1\nskip 02\n", "push 1\nskip +2\n", "push 1\nskip 3\n", "push 1\nskip 1\n", "push 1\nskip 0\n", "push 1\nskip 3\nback 00\n", "push 1\nskip 3\nback -0\n", "push 1\nskip 3\nback +0\n", "push 1\nskip 3\nback 1\n", "push 1\nskip 3\nback 2\n", "push 1\nskip 3\nback 3\n", "push 1\nskip 3\nback -1\n",
		"push\nstore v0\n", "push \nstore v0\n", "push v0\nstore v0\n", "push 1 2\nstore v0\n", "push 1 v0\nstore v0\n", "push 1\nstore\n", "push 1\nstore \n", "push 1\nstore 0\n", "push 1\nstore v0 1\n", "push 1\nstore v0 v1\n", "push 1\nstore i0\n", "push 1\nstore v6\n", "push 1\nstore v00\n", "push 1\nstore V0\n", "push 1\nstore x0\n", "push 1\nstore w0\n",
		"load\nstore v0\n", "load \nstore v0\n", "load 1\nstore v0\n", "load v0 1\nstore v0\n", "load v6\nstore v0\n", "load i6\nstore v0\n", "load v01\nstore v0\n", "load I0\nstore v0\n", "load v\nstore v0\n",
		"push 1\nnot 0\nstore v0\n", "push 1\nnot 5\nstore v0\n", "push 1\nnot v0\nstore v0\n", "push 1\npush 1\nadd 0\nstore v0\n", "push 1\npush 1\nadd 3\nstore v0\n", "push 1\npush 1\nadd v0\nstore v0\n", "push 1\npush 1\ntwo\nstore v0\n", "push 1\npush 1\ntwo 3\nstore v0\n", "push 1\npush 1\nnone\nstore v0\n", "push 1\nnone\nstore v0\n", "push 1\npush 1\nxor\nstore v0\n", "push 1\npush 1\nor or\nstore v0\n",
		"jump\n", "jump \n", "jump v0\n", "jump 1 1\n", "push 1\nskip\n", "push 1\nskip \n", "push 1\nskip v0\n", "push 1\nskip 3\nback\n", "push 1\nskip 3\nback \n", "push 1\nskip 3\nback v0\n", "push 1\nskip 3\nback 0 0\n",
		"Push 1\nstore v0\n", "PUSH 1\nstore v0\n", "pus 1\nstore v0\n", "pushh 1\nstore v0\n", "push 1\nstor v0\n", "push 1\nSTORE v0\n", "Jump 1\n", "JUMP 1\n", "go 1\n", "fly\n", "fly 1\n", "set v0 1\n", "1 push\nstore v0\n", "push 1\nv0 store\n", "p\xc3\xbcsh 1\nstore v0\n", "push 1\xff\nstore v0\n", "\ufeffpush 1\nstore v0\n", "push \xff\nstore v0\n", "\x00push 1\nstore v0\n", "push 1\nstore v0\n\x00",
		"push 1\n", "store v0\n", "not\n", "add\n", "push 1\nadd\nstore v0\n", "push 1\nstore v0\nback 0\n", "back 0\n", "jump 2\nnot\n", "jump 3\npush 1\nstore v0\n", "skip 1\n", "load v0\nskip 3\npush 1\n",
	} {
		if got, ok := impl.CodeRead(text); ok || len(got) != 0 {
			t.Errorf("CodeRead(%q) = %v, %v", text, got, ok)
		}
		checkCodeRead(t, text)
	}
}

// Every text of at most two bytes: but for the one of none, none is that of code.
func TestCodeReadShort(t *testing.T) {
	if !checkCodeRead(t, "") {
		t.Error("the text of none is not read")
	}
	for a := range 256 {
		if one := string([]byte{byte(a)}); checkCodeRead(t, one) {
			t.Errorf("%q", one)
		}
		for b := range 256 {
			if two := string([]byte{byte(a), byte(b)}); checkCodeRead(t, two) {
				t.Errorf("%q", two)
			}
		}
	}
}

// Every text of at most four of some lines.
func TestCodeReadLines(t *testing.T) {
	lines := []string{"push 1", "push 01", "load v0", "store v0", "store i0", "add", "not", "not 1", "none", "", "skip 2", "skip 4", "jump 1", "jump 4", "back 0", "back 1"}
	read := 0
	texts := []string{""}
	for many := range 5 {
		var next []string
		for _, text := range texts {
			if checkCodeRead(t, text) {
				read++
			}
			for _, line := range lines {
				if many < 4 {
					next = append(next, text+line+"\n")
				}
			}
		}
		texts = next
	}
	if read != 76 {
		t.Errorf("%d of them are read", read)
	}
}

// A line of a text more, fewer, twice, or another one in its place.
func TestCodeReadLineTurned(t *testing.T) {
	r := rand.New(rand.NewPCG(3, 33))
	lines := []string{"push 1\n", "push 1000001\n", "load o0\n", "store v0\n", "store i0\n", "or\n", "not\n", "none\n", "\n", "", "skip 3\n", "jump 5\n", "jump 6", "back 0\n", "back 2\n", "fly\n", "push 1\nstore v0\n"}
	read := 0
	for range 60 {
		text := strings.SplitAfter(wantCodeText(someCode(r, 1+r.IntN(20))), "\n")
		for i := range text {
			for _, line := range lines {
				for _, behind := range []int{i, i + 1} {
					if checkCodeRead(t, strings.Join(slices.Concat(text[:i], []string{line}, text[behind:]), "")) {
						read++
					}
				}
			}
		}
	}
	if read < 500 {
		t.Errorf("only %d of them are read", read)
	}
}

// Texts with a byte more, one fewer, or another one in its place.
func TestCodeReadByteTurned(t *testing.T) {
	for _, text := range []string{"jump 1\n", "push -10\nstore o5\n", "load i0\nnot\nskip 3\n", "push 1\nskip 3\nback 0\n", wantCodeText(codesOdd()["both sides hold one"].p), wantCodeText(codesOdd()["a back with a number held"].p), "push 1\npush 2\nload v0\nless\nsame\nskip 6\n"} {
		if !checkCodeRead(t, text) {
			t.Errorf("%q is not read", text)
		}
		for other := range byteTurned(text) {
			checkCodeRead(t, other)
		}
	}
}

// Texts about 8000 bytes, and far longer ones: none is the text of code that is ok.
func TestCodeReadLong(t *testing.T) {
	for _, size := range []int{7998, 7999, 8000, 8001, 8002, 16000, 1 << 20} {
		for _, piece := range []string{"\n", " ", "1", "0", "not\n", "none\n", "\x00", "\xff", "push 1\nstore v0\n", "push -1000000\nstore v0\n", "jump 1\n", "push 1\n", "push "} {
			long := strings.Repeat(piece, size)[:size]
			for _, text := range []string{long, long[:size-1] + "\n", "push 1\nstore v0\n" + long[16:], long[16:] + "push 1\nstore v0\n"} {
				if got, ok := impl.CodeRead(text); ok || len(got) != 0 || len(text) != size {
					t.Errorf("CodeRead of %d bytes of %q = %v, %v", len(text), piece, got, ok)
				}
			}
		}
	}
	zeros := "push " + strings.Repeat("0", 7985) + "1\nstore v0\n"
	if _, ok := impl.CodeRead(zeros); ok || len(zeros) != 8001 {
		t.Errorf("a number of %d bytes is read: %v", len(zeros), ok)
	}
}

// The longest text of code that is ok, or near it.
func TestCodeReadLongest(t *testing.T) {
	p := slices.Repeat(code(pushN(-1000000), storeAt(o5)), 200)
	checkCode(t, p)
	if n := len(wantCodeText(p)); n != 4600 {
		t.Errorf("%d bytes", n)
	}
}

// codeRoom are the places of all instructions, spare room included.
func codeRoom(p []impl.Ins) []*impl.Ins {
	var out []*impl.Ins
	all := p[:cap(p)]
	for i := range all {
		out = append(out, &all[i])
	}
	return out
}

// No two answers share memory, spare room included, of one argument or of two.
func TestCodeAnswersAreNew(t *testing.T) {
	taken := map[*impl.Ins]string{}
	take := func(p []impl.Ins, name string) {
		for _, at := range codeRoom(p) {
			if other, is := taken[at]; is {
				t.Fatalf("%s shares memory with %s", name, other)
			}
			taken[at] = name
		}
	}
	for _, list := range stmtsOk()[:700] {
		for range 2 {
			take(impl.CodeOf(list), "the code of "+wantStmtsText(list))
		}
	}
	for _, p := range codesOk()[:700] {
		for range 2 {
			got, _ := impl.CodeRead(wantCodeText(p))
			take(got, "what is read from "+wantCodeText(p))
		}
	}
}

// What is written into an answer is not to be seen in the next one.
func TestCodeAnswersNotKept(t *testing.T) {
	write := func(p []impl.Ins) {
		for _, at := range codeRoom(p) {
			*at = impl.Ins{Op: 77, N: 1234567, Addr: v2}
		}
	}
	for _, list := range stmtsOk() {
		given, want := copyStmts(list), wantCode(list, 0)
		kept := impl.CodeOf(given)
		write(impl.CodeOf(given))
		if again := impl.CodeOf(given); !sameCode(again, want) || !sameCode(kept, want) || !sameStmts(given, list) {
			t.Fatalf("CodeOf(%q) = %v, behind an answer that was written into", wantStmtsText(list), again)
		}
		text := wantCodeText(want)
		kept, _ = impl.CodeRead(text)
		got, _ := impl.CodeRead(text)
		write(got)
		if again, ok := impl.CodeRead(text); !ok || !sameCode(again, want) || !sameCode(kept, want) {
			t.Fatalf("%q is read as %v, behind an answer that was written into", text, again)
		}
	}
}

// Writing into an answer turns no argument, and no other answer, and the other way round; spare room included.
func TestCodeRunAnswersAreNew(t *testing.T) { checkRunAnswersAreNew(t, runCode) }

// No two lists of one answer share memory, spare room included, not even of an argument whose lists are one.
func TestCodeRunListsApart(t *testing.T) { checkRunListsApart(t, runCode) }

// roomyCode is the same, with room behind it, and something in it.
func roomyCode(p []impl.Ins) []impl.Ins {
	all := append(slices.Clone(p), storeAt(v1), pushN(3), storeAt(v2), impl.Ins{Op: 70, N: 71, Addr: o0})
	return all[:len(p)]
}

// Nothing is written into an argument, nor behind its end, nor is what is behind it seen.
func TestCodeArgumentsStay(t *testing.T) {
	m, all := roomy()
	codes := codesOk()
	for _, p := range codesBad() {
		codes = append(codes, p)
	}
	for _, p := range codes {
		given := roomyCode(p)
		was := slices.Clone(given[:cap(given)])
		if impl.CodeOk(given) != impl.CodeOk(p) || impl.CodeDepth(given) != impl.CodeDepth(p) || impl.CodeText(given) != impl.CodeText(p) {
			t.Errorf("what is behind %q counts", wantCodeText(p))
		}
		got, end, left := impl.CodeRun(m, given, 20)
		want, wantEnd, wantLeft := impl.CodeRun(m, p, 20)
		if !sameMem(got, want) || end != wantEnd || left != wantLeft {
			t.Errorf("what is behind %q is done", wantCodeText(p))
		}
		if !impl.CodeSame(given, p) || !impl.CodeSame(p, given) || !impl.CodeSame(given, given) {
			t.Errorf("%q is not the same as itself", wantCodeText(p))
		}
		if !sameCode(given[:cap(given)], was) {
			t.Errorf("%q is turned, or what is behind it", wantCodeText(p))
		}
	}
	if at := turned(all); at != nil {
		t.Errorf("the memory is turned at %v", at)
	}
}

// CodeOf writes nothing into a list, nor behind its end, nor does it see what is there.
func TestCodeOfArgumentsStay(t *testing.T) {
	for _, list := range stmtsOk() {
		given := roomyStmts(list)
		out, parts := stmtRoom(given)
		var was [][]impl.Stmt
		var wasParts []impl.Expr
		for _, p := range out {
			was = append(was, copyStmts([]impl.Stmt{*p}))
		}
		for _, p := range parts {
			wasParts = append(wasParts, copyExpr(*p))
		}
		if got := impl.CodeOf(given); !sameCode(got, wantCode(list, 0)) {
			t.Errorf("what is behind the lists of %q counts", wantStmtsText(list))
		}
		for i, p := range out {
			if !sameStmts([]impl.Stmt{*p}, was[i]) {
				t.Errorf("turned within %q: %v", wantStmtsText(list), *p)
			}
		}
		for i, p := range parts {
			if !sameExpr(*p, wasParts[i]) {
				t.Errorf("turned within %q: %v", wantStmtsText(list), *p)
			}
		}
	}
}
