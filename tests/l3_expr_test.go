package tests

import (
	"iter"
	"maps"
	"math"
	"math/rand/v2"
	"regexp"
	"slices"
	"strconv"
	"strings"
	"testing"

	"loop.example/stopgate/impl"
)

// kindWords are the words of the kinds that have kids.
var kindWords = map[int]string{3: "add", 4: "sub", 5: "mul", 6: "less", 7: "same", 8: "and", 9: "or", 10: "not"}

// kindKids are how many kids each kind has.
var kindKids = map[int]int{1: 0, 2: 0, 3: 2, 4: 2, 5: 2, 6: 2, 7: 2, 8: 2, 9: 2, 10: 1}

func num(n int) impl.Expr { return impl.Expr{Kind: 1, N: n} }

func at(a impl.Addr) impl.Expr { return impl.Expr{Kind: 2, Addr: a} }

func part(kind int, kids ...impl.Expr) impl.Expr {
	return impl.Expr{Kind: kind, Kids: append([]impl.Expr(nil), kids...)}
}

// nots is an expression with as many ExprNot around it.
func nots(many int, e impl.Expr) impl.Expr {
	for range many {
		e = part(10, e)
	}
	return e
}

// chain is as many parts of a kind within one another, on one side.
func chain(many int, right bool) impl.Expr {
	e := num(1)
	for range many {
		if right {
			e = part(3, num(2), e)
		} else {
			e = part(4, e, num(2))
		}
	}
	return e
}

// tree is a sum of so many numbers, as shallow as can be: twice as many parts, but for one.
func tree(leaves int) impl.Expr {
	if leaves == 1 {
		return num(1)
	}
	return part(3, tree(leaves/2), tree(leaves-leaves/2))
}

// sameExpr says whether two are the same in all parts, told apart from the program; both must end.
func sameExpr(a impl.Expr, b impl.Expr) bool {
	if a.Kind != b.Kind || a.N != b.N || a.Addr != b.Addr || len(a.Kids) != len(b.Kids) {
		return false
	}
	for i := range a.Kids {
		if !sameExpr(a.Kids[i], b.Kids[i]) {
			return false
		}
	}
	return true
}

func isNoExpr(e impl.Expr) bool { return sameExpr(e, impl.Expr{}) }

// copyExpr is the same, with lists of its own, told apart from the program.
func copyExpr(e impl.Expr) impl.Expr {
	kids := make([]impl.Expr, len(e.Kids))
	for i, kid := range e.Kids {
		kids[i] = copyExpr(kid)
	}
	e.Kids = kids
	return e
}

// wantMany is how many parts there are, and how many others are around the deepest one.
func wantMany(e impl.Expr) (int, int) {
	many, deep := 1, 0
	for _, kid := range e.Kids {
		n, d := wantMany(kid)
		many, deep = many+n, max(deep, d+1)
	}
	return many, deep
}

// wantText is the text of one that is ok, told apart from the program.
func wantText(e impl.Expr) string {
	var text string
	switch e.Kind {
	case 1:
		text = strconv.Itoa(e.N)
	case 2:
		text = placeTexts[e.Addr.Kind-1][e.Addr.At]
	default:
		text = kindWords[e.Kind]
	}
	for _, kid := range e.Kids {
		text += " " + wantText(kid)
	}
	return text
}

func wantIs(is bool) int {
	if is {
		return 1
	}
	return 0
}

// wantOf is what one that is ok comes to, of a memory that is, told apart from the program.
func wantOf(e impl.Expr, m impl.Mem) int {
	var x, y int
	if len(e.Kids) > 0 {
		x = wantOf(e.Kids[0], m)
	}
	if len(e.Kids) > 1 {
		y = wantOf(e.Kids[1], m)
	}
	switch e.Kind {
	case 1:
		return e.N
	case 2:
		return (*listOf(&m, e.Addr.Kind))[e.Addr.At]
	case 3:
		return min(max(x+y, -1000000), 1000000)
	case 4:
		return min(max(x-y, -1000000), 1000000)
	case 5:
		return int(min(max(int64(x)*int64(y), -1000000), 1000000))
	case 6:
		return wantIs(x < y)
	case 7:
		return wantIs(x == y)
	case 8:
		return wantIs(x != 0 && y != 0)
	case 9:
		return wantIs(x != 0 || y != 0)
	}
	return wantIs(x == 0)
}

// edgeNums are numbers at their bounds, next to them, and about 0.
var edgeNums = []int{-1000000, -999999, -1000, -10, -2, -1, 0, 1, 2, 9, 10, 1000, 1001, 999999, 1000000}

// someExpr is one that is ok, of at most so many parts, with at most so many around its deepest one.
func someExpr(r *rand.Rand, many int, deep int) impl.Expr {
	kind := 1 + r.IntN(10)
	if deep == 0 || many < 1+kindKids[kind] {
		kind = 1 + r.IntN(2)
	}
	switch kind {
	case 1:
		return num(edgeNums[r.IntN(len(edgeNums))])
	case 2:
		return at(placesOk()[r.IntN(18)])
	case 10:
		return part(10, someExpr(r, many-1, deep-1))
	}
	first := 1 + r.IntN(many-2)
	return part(kind, someExpr(r, first, deep-1), someExpr(r, many-1-first, deep-1))
}

// exprsOk are many that are ok: all leaves, each kind with kids, what just fits, and some more.
func exprsOk() []impl.Expr {
	var out []impl.Expr
	for _, n := range edgeNums {
		out = append(out, num(n))
	}
	for _, a := range placesOk() {
		out = append(out, at(a))
	}
	for kind := 3; kind <= 9; kind++ {
		for _, a := range []impl.Expr{num(-7), num(0), at(placesOk()[17])} {
			for _, b := range []impl.Expr{num(8), at(placesOk()[6]), part(10, num(-1))} {
				out = append(out, part(kind, a, b), part(kind, b, a), part(10, part(kind, a, b)))
			}
		}
	}
	for _, e := range slices.Clone(out[:33]) {
		out = append(out, part(10, e))
	}
	for _, c := range exprsJustOk() {
		out = append(out, c.e)
	}
	r := rand.New(rand.NewPCG(3, 14))
	for range 3000 {
		out = append(out, someExpr(r, 14, 5))
	}
	return out
}

// sizedExpr is one, with how many parts it has, and how many others are around its deepest one.
type sizedExpr struct {
	many, deep int
	e          impl.Expr
}

// exprsJustOk are those with as many parts, or as many others around a part, as there may be, or both.
func exprsJustOk() []sizedExpr {
	return []sizedExpr{
		{14, 4, part(10, tree(7))},
		{14, 4, part(3, part(10, num(1)), part(3, tree(3), part(3, num(2), tree(2))))},
		{14, 4, part(3, part(3, tree(3), tree(2)), part(10, tree(2)))},
		{6, 5, nots(5, num(1))},
		{6, 5, nots(5, at(placesOk()[0]))},
		{11, 5, chain(5, true)},
		{11, 5, chain(5, false)},
		{7, 5, part(3, nots(4, num(1)), num(2))},
		{7, 5, part(3, num(2), nots(4, num(1)))},
		{14, 5, part(3, nots(4, num(1)), part(10, tree(4)))},
		{14, 5, part(10, part(3, tree(2), part(3, tree(2), tree(3))))},
		{14, 5, nots(2, part(9, part(10, tree(2)), part(8, part(6, num(1), num(2)), part(4, num(3), num(4)))))},
	}
}

// exprsTooMuch are those with one part, or one other around a part, too many, or more, and all else as it must be.
func exprsTooMuch() []sizedExpr {
	return []sizedExpr{
		{15, 3, tree(8)},
		{15, 5, nots(2, tree(7))},
		{15, 4, part(3, tree(4), part(3, tree(2), part(10, part(10, num(1)))))},
		{15, 5, part(3, part(3, tree(2), tree(5)), num(1))},
		{15, 5, part(3, num(1), part(3, tree(2), part(3, tree(2), tree(3))))},
		{16, 4, part(10, tree(8))},
		{31, 4, tree(16)},
		{7, 6, nots(6, num(1))},
		{7, 6, nots(6, at(placesOk()[0]))},
		{13, 6, chain(6, true)},
		{13, 6, chain(6, false)},
		{8, 6, part(3, nots(5, num(1)), num(2))},
		{8, 6, part(3, num(2), nots(5, num(1)))},
		{9, 6, part(9, num(0), part(8, nots(4, num(1)), num(1)))},
		{8, 7, nots(7, num(1))},
		{301, 300, nots(300, num(1))},
		{14, 6, part(3, nots(5, num(1)), part(3, tree(2), tree(2)))},
		{15, 6, part(3, nots(5, num(1)), part(10, tree(4)))},
		{82, 41, part(10, chain(40, true))},
	}
}

// partsBad are parts that are not ok by themselves, and by one thing alone.
func partsBad() map[string]impl.Expr {
	out := map[string]impl.Expr{"nothing": {}}
	for _, kind := range []int{0, 11, 12, -1, -2, -10, 256 + 1, math.MinInt, math.MaxInt} {
		out["kind "+strconv.Itoa(kind)+", no kids"] = part(kind)
		out["kind "+strconv.Itoa(kind)+", a kid"] = part(kind, num(1))
		out["kind "+strconv.Itoa(kind)+", two kids"] = part(kind, num(1), num(1))
		out["kind "+strconv.Itoa(kind)+", a number"] = impl.Expr{Kind: kind, N: 1}
		out["kind "+strconv.Itoa(kind)+", a place"] = impl.Expr{Kind: kind, Addr: placesOk()[0]}
	}
	for kind, kids := range kindKids {
		good := kindPart(kind)
		for many := range 5 {
			bad := good
			bad.Kids = slices.Repeat([]impl.Expr{num(1)}, many)
			if many != kids {
				out["kind "+strconv.Itoa(kind)+" with kids "+strconv.Itoa(many)] = bad
			}
		}
		for _, n := range []int{-1000001, -1, 1, 1000001, math.MinInt, math.MaxInt} {
			bad := good
			bad.N = n
			if kind != 1 || n < -1000000 || n > 1000000 {
				out["kind "+strconv.Itoa(kind)+" with N "+strconv.Itoa(n)] = bad
			}
		}
		for i, a := range append(placesOk(), placesBad()...) {
			bad := good
			bad.Addr = a
			if kind == 2 && i >= 18 || kind != 2 && a != (impl.Addr{}) {
				out["kind "+strconv.Itoa(kind)+" with a place "+strconv.Itoa(i)] = bad
			}
		}
	}
	return out
}

// kindPart is a part of a kind that is ok.
func kindPart(kind int) impl.Expr {
	e := part(kind, slices.Repeat([]impl.Expr{num(1)}, kindKids[kind])...)
	if kind == 2 {
		e.Addr = impl.Addr{Kind: 3, At: 0}
	}
	return e
}

// exprsBad are parts that are not ok, by themselves and deep inside.
func exprsBad() map[string]impl.Expr {
	out := map[string]impl.Expr{}
	for i, c := range exprsTooMuch() {
		out["too much, "+strconv.Itoa(i)] = c.e
	}
	for name, bad := range partsBad() {
		out[name] = bad
		out[name+", in a not"] = part(10, bad)
		out[name+", first"] = part(9, bad, num(1))
		out[name+", second"] = part(9, num(1), bad)
		out[name+", deep inside"] = part(9, num(1), nots(2, part(3, num(1), bad)))
		if len(bad.Kids) == 0 {
			out[name+", as deep as can be"] = nots(5, bad)
		}
	}
	return out
}

// loops are some that hold themselves, and so never end.
func loops() map[string]impl.Expr {
	out := map[string]impl.Expr{}
	for kind, many := range map[int]int{0: 1, 1: 1, 2: 3, 10: 1, 3: 2, 7: 2, 11: 2} {
		all := make([]impl.Expr, many)
		for i := range all {
			all[i] = impl.Expr{Kind: kind, Kids: all}
		}
		out["all kids are itself, kind "+strconv.Itoa(kind)] = all[0]
		last := slices.Repeat([]impl.Expr{num(1)}, many)
		last[many-1] = impl.Expr{Kind: kind, Kids: last}
		out["the last kid is itself, kind "+strconv.Itoa(kind)] = last[many-1]
	}
	two := slices.Repeat([]impl.Expr{part(10)}, 2)
	two[0].Kids, two[1].Kids = two[1:2], two[0:1]
	out["nots that hold each other"] = two[0]
	return out
}

// fullMem is a memory that is ok, without a 0.
func fullMem() impl.Mem {
	m := impl.MemOpen()
	fill(m, 7)
	return m
}

func TestExprNames(t *testing.T) {
	names := []int{impl.ExprNum, impl.ExprAddr, impl.ExprAdd, impl.ExprSub, impl.ExprMul, impl.ExprLess, impl.ExprSame, impl.ExprAnd, impl.ExprOr, impl.ExprNot}
	if !slices.Equal(names, []int{1, 2, 3, 4, 5, 6, 7, 8, 9, 10}) || impl.ExprSize != 14 || impl.ExprDeep != 6 {
		t.Error(names, impl.ExprSize, impl.ExprDeep)
	}
}

// checkExpr asks all functions of one that is ok, what it comes to aside.
func checkExpr(t *testing.T, e impl.Expr) {
	t.Helper()
	text := wantText(e)
	many, _ := wantMany(e)
	if !impl.ExprOk(e) {
		t.Errorf("ExprOk(%q) = false", text)
	}
	if got := impl.ExprMany(e); got != many {
		t.Errorf("ExprMany(%q) = %d, not %d", text, got, many)
	}
	if got := impl.ExprText(e); got != text {
		t.Errorf("ExprText = %q, not %q", got, text)
	}
	if got, ok := impl.ExprRead(text); !ok || !sameExpr(got, e) {
		t.Errorf("ExprRead(%q) = %v, %v", text, got, ok)
	}
	if !impl.ExprAlike(e, copyExpr(e)) {
		t.Errorf("ExprAlike(%q) = false", text)
	}
}

// Promise 3: what is reckoned is read from its text as it was.
func TestExprReadAsWritten(t *testing.T) {
	for _, e := range exprsOk() {
		checkExpr(t, e)
	}
	for n := -1200; n <= 1200; n++ {
		checkExpr(t, num(n))
		checkExpr(t, num(n*833))
	}
}

func TestExprTexts(t *testing.T) {
	for text, e := range map[string]impl.Expr{
		"0":                      num(0),
		"7":                      num(7),
		"-3":                     num(-3),
		"10":                     num(10),
		"1000000":                num(1000000),
		"-1000000":               num(-1000000),
		"i0":                     at(impl.Addr{Kind: 1, At: 0}),
		"o3":                     at(impl.Addr{Kind: 2, At: 3}),
		"v5":                     at(impl.Addr{Kind: 3, At: 5}),
		"not -1":                 part(10, num(-1)),
		"not i2":                 part(10, at(impl.Addr{Kind: 1, At: 2})),
		"add 1 2":                part(3, num(1), num(2)),
		"sub -1 -2":              part(4, num(-1), num(-2)),
		"mul v0 sub o1 4":        part(5, at(impl.Addr{Kind: 3, At: 0}), part(4, at(impl.Addr{Kind: 2, At: 1}), num(4))),
		"less sub 1 2 3":         part(6, part(4, num(1), num(2)), num(3)),
		"same same 1 2 same 3 4": part(7, part(7, num(1), num(2)), part(7, num(3), num(4))),
		"and not 1 not not 0":    part(8, part(10, num(1)), nots(2, num(0))),
		"or or or 1 2 3 4":       part(9, part(9, part(9, num(1), num(2)), num(3)), num(4)),
	} {
		if wantText(e) != text {
			t.Errorf("%q, not %q", wantText(e), text)
		}
		checkExpr(t, e)
	}
}

// One list of no parts is as good as another.
func TestExprEmptyKids(t *testing.T) {
	for _, leaf := range []impl.Expr{num(4), at(placesOk()[3])} {
		empty := leaf
		empty.Kids = []impl.Expr{}
		roomy := leaf
		roomy.Kids = slices.Repeat([]impl.Expr{num(1)}, 3)[:0]
		for _, e := range []impl.Expr{empty, roomy, part(10, empty), part(3, roomy, empty)} {
			checkExpr(t, e)
			if got, want := impl.ExprOf(e, fullMem()), wantOf(e, fullMem()); got != want {
				t.Errorf("ExprOf(%q) = %d, not %d", wantText(e), got, want)
			}
		}
		if !impl.ExprAlike(leaf, empty) || !impl.ExprAlike(roomy, leaf) || !impl.ExprAlike(part(10, empty), part(10, roomy)) {
			t.Error("the empty list is not the same as the nil list")
		}
	}
}

// checkBad asks all functions of one that is not ok.
func checkBad(t *testing.T, name string, e impl.Expr) {
	t.Helper()
	if impl.ExprOk(e) {
		t.Errorf("ExprOk = true: %s", name)
	}
	if got := impl.ExprMany(e); got != 0 {
		t.Errorf("ExprMany = %d: %s", got, name)
	}
	if got := impl.ExprText(e); got != "" {
		t.Errorf("ExprText = %q: %s", got, name)
	}
	for _, m := range []impl.Mem{fullMem(), impl.MemOpen(), memOf(), {}} {
		if got := impl.ExprOf(e, m); got != 0 {
			t.Errorf("ExprOf = %d: %s", got, name)
		}
	}
}

func TestExprBad(t *testing.T) {
	for name, e := range exprsBad() {
		checkBad(t, name, e)
	}
	for name, e := range loops() {
		checkBad(t, name, e)
	}
	short := slices.Repeat([]impl.Expr{num(1)}, 3)
	checkBad(t, "a kid behind the end", impl.Expr{Kind: 3, Kids: short[:1]})
	checkBad(t, "more kids than can be gone through", impl.Expr{Kind: 3, Kids: make([]impl.Expr, 1<<20)})
	checkBad(t, "far too deep", nots(1<<17, num(1)))
}

// checkSize holds against each other what is said of a size, and what it is.
func checkSize(t *testing.T, c sizedExpr) {
	t.Helper()
	if many, deep := wantMany(c.e); many != c.many || deep != c.deep {
		t.Errorf("%d parts, %d around, not %d, %d: %q", many, deep, c.many, c.deep, wantText(c.e))
	}
}

// What just fits is ok; with one part more, or one other more around a part, each by itself, it is not.
func TestExprBounds(t *testing.T) {
	for _, c := range exprsJustOk() {
		checkSize(t, c)
		checkExpr(t, c.e)
		checkOf(t, c.e, memOf())
	}
	for _, c := range exprsTooMuch() {
		checkSize(t, c)
		checkBad(t, wantText(c.e), c.e)
		if got, ok := impl.ExprRead(wantText(c.e)); ok || !isNoExpr(got) {
			t.Errorf("ExprRead(%q) = %v, %v", wantText(c.e), got, ok)
		}
	}
}

// checkOf holds what one comes to against the table of kinds. Promise 3: it comes to one number, within its bounds.
func checkOf(t *testing.T, e impl.Expr, m impl.Mem) {
	t.Helper()
	got, want := impl.ExprOf(e, m), wantOf(e, m)
	if got != want || got < -1000000 || got > 1000000 {
		t.Errorf("ExprOf(%q) = %d, not %d, of %v", wantText(e), got, want, m)
	}
	if again := impl.ExprOf(e, m); again != got {
		t.Errorf("ExprOf(%q) = %d, then %d", wantText(e), got, again)
	}
}

func TestExprOfLeaves(t *testing.T) {
	for _, m := range []impl.Mem{memOf(), impl.MemOpen(), fullMem()} {
		for _, n := range edgeNums {
			checkOf(t, num(n), m)
			checkOf(t, part(10, num(n)), m)
		}
		for _, a := range placesOk() {
			checkOf(t, at(a), m)
			checkOf(t, part(10, at(a)), m)
		}
	}
}

// Each kind, with kids at the bounds of numbers, which are written out or come from places.
func TestExprOfPairs(t *testing.T) {
	for _, x := range edgeNums {
		for _, y := range edgeNums {
			m := impl.MemOpen()
			m.In[5], m.Out[0], m.Var[3] = x, y, y
			in, out, kept := at(impl.Addr{Kind: 1, At: 5}), at(impl.Addr{Kind: 2, At: 0}), at(impl.Addr{Kind: 3, At: 3})
			for kind := 3; kind <= 9; kind++ {
				for _, e := range []impl.Expr{part(kind, num(x), num(y)), part(kind, in, out), part(kind, kept, in), part(kind, num(x), kept)} {
					checkOf(t, e, m)
					checkOf(t, part(10, e), m)
				}
			}
		}
	}
}

// What some come to, written out.
func TestExprOfTable(t *testing.T) {
	m := memOf()
	for _, c := range []struct {
		text string
		want int
	}{
		{"-3", -3}, {"i0", 11}, {"i1", -12}, {"i3", 1000000}, {"o2", -1000000}, {"v4", 999999}, {"v5", -36},
		{"add 1000000 1", 1000000}, {"add -1000000 -1", -1000000}, {"add 2 -5", -3}, {"add add 1000000 1000000 -1", 999999},
		{"sub -1000000 1", -1000000}, {"sub 1000000 -1", 1000000}, {"sub 2 5", -3}, {"sub i3 o2", 1000000}, {"sub o2 i3", -1000000},
		{"mul 1000 1000", 1000000}, {"mul 1001 1000", 1000000}, {"mul -1001 1000", -1000000}, {"mul 1000000 -1000000", -1000000},
		{"mul -1000000 -1000000", 1000000}, {"mul -3 4", -12}, {"mul 0 -1000000", 0},
		{"less 1 2", 1}, {"less 2 1", 0}, {"less 2 2", 0}, {"less -2 -1", 1}, {"less -1 -2", 0}, {"less -1000000 1000000", 1},
		{"same 2 2", 1}, {"same 2 -2", 0}, {"same 0 i2", 1}, {"same i3 1000000", 1},
		{"and 0 0", 0}, {"and 0 2", 0}, {"and -3 0", 0}, {"and -3 2", 1}, {"and 2 5", 1},
		{"or 0 0", 0}, {"or 0 2", 1}, {"or -3 0", 1}, {"or -3 2", 1}, {"or 5 5", 1},
		{"not 0", 1}, {"not 1", 0}, {"not -1", 0}, {"not 1000000", 0}, {"not not -7", 1},
		{"sub sub 10 3 2", 5}, {"sub 10 sub 3 2", 9}, {"less less 5 4 1", 1},
	} {
		e, ok := impl.ExprRead(c.text)
		if got := impl.ExprOf(e, m); !ok || got != c.want {
			t.Errorf("%q comes to %d, %v, not %d", c.text, got, ok, c.want)
		}
	}
}

func TestExprOfMany(t *testing.T) {
	wide := memOf()
	wide.Var = []int{1000000, -1000000, 1000, -1000, 1, 0}
	for _, e := range exprsOk() {
		checkOf(t, e, memOf())
		checkOf(t, e, wide)
	}
}

func TestExprOfBadMem(t *testing.T) {
	for name, m := range memsBad() {
		for _, e := range []impl.Expr{num(5), at(placesOk()[0]), at(placesOk()[12]), part(10, num(0)), part(10, at(placesOk()[7])), part(7, num(1), num(1)), tree(7)} {
			if got := impl.ExprOf(e, m); got != 0 {
				t.Errorf("ExprOf(%q) = %d of a memory that is not ok: %s", wantText(e), got, name)
			}
		}
	}
}

// turnedParts are all that differ from one in one thing of one part.
func turnedParts(e impl.Expr) []impl.Expr {
	var out []impl.Expr
	turn := func(f func(e *impl.Expr)) {
		other := copyExpr(e)
		f(&other)
		out = append(out, other)
	}
	turn(func(e *impl.Expr) { e.Kind++ })
	turn(func(e *impl.Expr) { e.Kind = -e.Kind - 1 })
	turn(func(e *impl.Expr) { e.N++ })
	turn(func(e *impl.Expr) { e.N += 1 << 20 })
	turn(func(e *impl.Expr) { e.Addr.Kind++ })
	turn(func(e *impl.Expr) { e.Addr.At-- })
	turn(func(e *impl.Expr) { e.Kids = append(e.Kids, impl.Expr{}) })
	turn(func(e *impl.Expr) { e.Kids = append([]impl.Expr{{}}, e.Kids...) })
	if len(e.Kids) > 0 {
		turn(func(e *impl.Expr) { e.Kids = nil })
		turn(func(e *impl.Expr) { e.Kids = e.Kids[:len(e.Kids)-1] })
		turn(func(e *impl.Expr) { e.Kids = e.Kids[1:] })
	}
	for i, kid := range e.Kids {
		for _, other := range turnedParts(kid) {
			turn(func(e *impl.Expr) { e.Kids[i] = other })
		}
	}
	return out
}

// What is ok and what is not are the same just if all parts are.
func TestExprAlikeTurned(t *testing.T) {
	var all []impl.Expr
	for _, c := range exprsJustOk() {
		all = append(all, c.e)
	}
	all = append(all, impl.Expr{}, num(1), at(placesOk()[4]), tree(8), nots(9, part(11)))
	all = append(all, part(1, part(0), part(-5, num(2000000)), part(2)), impl.Expr{Kind: 3, N: 4, Addr: impl.Addr{Kind: 9, At: -1}, Kids: []impl.Expr{num(1)}})
	for _, e := range all {
		if !impl.ExprAlike(e, e) || !impl.ExprAlike(e, copyExpr(e)) {
			t.Errorf("ExprAlike(%v, itself) = false", e)
		}
		for _, other := range turnedParts(e) {
			if impl.ExprAlike(e, other) || impl.ExprAlike(other, e) {
				t.Errorf("ExprAlike(%v, %v) = true", e, other)
			}
		}
	}
	for _, kind := range []int{3, 5, 8} {
		if impl.ExprAlike(part(kind, num(1), num(2)), part(kind, num(2), num(1))) {
			t.Error("the order of kids does not count")
		}
	}
}

func TestExprAlikePairs(t *testing.T) {
	all := append(exprsOk()[:140], slices.Collect(maps.Values(partsBad()))...)
	for _, c := range exprsTooMuch() {
		all = append(all, c.e, part(10, c.e))
	}
	for _, a := range all {
		for _, b := range all {
			if got, want := impl.ExprAlike(a, b), sameExpr(a, b); got != want {
				t.Fatalf("ExprAlike(%v, %v) = %v", a, b, got)
			}
		}
	}
}

// What holds itself has parts without end; they are the same just if no part tells them apart.
func TestExprAlikeLoops(t *testing.T) {
	twins := loops()
	for name, e := range loops() {
		if !impl.ExprAlike(e, e) || !impl.ExprAlike(e, twins[name]) {
			t.Errorf("not the same as itself: %s", name)
		}
		if impl.ExprAlike(e, num(1)) || impl.ExprAlike(impl.Expr{}, e) || impl.ExprAlike(e, nots(50, num(1))) || impl.ExprAlike(nots(50, num(1)), e) {
			t.Errorf("the same as one that ends: %s", name)
		}
	}
	once, twice := twins["all kids are itself, kind 10"], twins["nots that hold each other"]
	if !impl.ExprAlike(once, twice) || !impl.ExprAlike(twice, once) {
		t.Error("nots without end are not the same as nots without end")
	}
	if impl.ExprAlike(twins["all kids are itself, kind 3"], twins["the last kid is itself, kind 3"]) {
		t.Error("two that hold themselves otherwise are the same")
	}
}

// shared is one whose kids are all of one list, at each of so many levels: far more parts than can be gone through.
func shared(levels int, last int) impl.Expr {
	e := num(last)
	for range levels {
		e = part(3, e, e)
	}
	return e
}

func TestExprAlikeFar(t *testing.T) {
	if !impl.ExprAlike(shared(60, 1), shared(60, 1)) || impl.ExprAlike(shared(60, 1), shared(60, 2)) || impl.ExprAlike(shared(60, 1), shared(61, 1)) {
		t.Error("with kids that are shared")
	}
	const deep = 1 << 17
	if !impl.ExprAlike(nots(deep, num(1)), nots(deep, num(1))) || impl.ExprAlike(nots(deep, num(1)), nots(deep, num(2))) || impl.ExprAlike(nots(deep, num(1)), nots(deep+1, num(1))) {
		t.Error("far within others")
	}
	ones := slices.Repeat([]impl.Expr{num(1)}, 5)
	a := part(0, impl.Expr{Kind: 1, Kids: ones[:2]}, impl.Expr{Kind: 1, Kids: ones[:3]})
	b := part(0, impl.Expr{Kind: 1, Kids: ones[:2]}, impl.Expr{Kind: 1, Kids: []impl.Expr{num(1), num(1), num(2)}})
	if impl.ExprAlike(a, b) || !impl.ExprAlike(a, copyExpr(a)) {
		t.Error("with lists that begin at one place")
	}
	twos := []impl.Expr{num(1), num(1), num(2)}
	a = part(0, impl.Expr{Kind: 1, Kids: ones[:3]}, impl.Expr{Kind: 1, Kids: ones[:2]})
	b = part(0, impl.Expr{Kind: 1, Kids: twos[:3]}, impl.Expr{Kind: 1, Kids: twos[:2]})
	if impl.ExprAlike(a, b) || impl.ExprAlike(b, a) {
		t.Error("with lists that begin at one place, and are longer at first")
	}
}

func TestExprReadNone(t *testing.T) {
	for _, text := range []string{
		"", " ", "  ", "\n", "\x00", "\t", "-", "+", "--", ".", ",", ";", "[", "!", "\xff", "\xff\xfe", "é", "٣", "０", "①",
		" 1", "1 ", " 1 ", "1\n", "\n1", "1\t", "1\x00", "1\r\n", " add 1 2", "add 1 2 ", "add  1 2", "add 1  2", "not  1", "  not 1",
		"add\t1 2", "add 1\n2", "add\u00a01 2", "add,1,2", "add(1 2)", "add 1,2", "add1 2",
		"fly", "fly 1 2", "num", "num 1", "addr v0", "none", "ad 1 2", "addd 1 2", "nott 1", "no 1", "xor 1 2", "push 1", "set v0 1", "v", "w0", "l0", "!v0",
		"ADD 1 2", "Add 1 2", "aDD 1 2", "NOT 1", "Not 1", "OR 1 2", "V0", "I0", "O0",
		"00", "01", "007", "-01", "-00", "-0", "+0", "+1", "+-1", "-+1", "--1", "1-", "1.0", "1.", ".5", "1e3", "0x10", "1_000", "1,000", "1 000", "0b1", "0o7",
		"1000001", "-1000001", "1000000000", "10000000", "-10000000", "9223372036854775807", "-9223372036854775808", "9223372036854775808",
		"18446744073709551616", "18446744073709551617", "99999999999999999999999999", "-99999999999999999999999999", "4294967297",
		"i", "i6", "o6", "v6", "v9", "i9", "v-1", "v00", "v01", "v10", "x0", "vv0", "v0v0", "v0,", "i0.",
		"add", "add ", "add 1", "add 1 ", "sub v0", "mul", "less 1", "same 1", "and 1", "or 1", "not", "not ", "not not", "add add 1 2", "add 1 add 2", "add 1 not",
		"1 2", "1 1", "v0 v0", "v0 1", "not 1 2", "not not 1 1", "add 1 2 3", "add 1 2 add", "add 1 2 add 3 4", "or 1 2 not", "1 add 1 2", "1 add 2", "add 1 2\x00",
		"add 1 1000001", "add -0 1", "add 1 01", "not v6", "not +1", "add 1 fly", "less 1 \xff",
		"not not not not not not 1", "add 1 2 ; 3", "[ 1 ]", "(1)", "\"1\"", "'1'",
	} {
		if got, ok := impl.ExprRead(text); ok || !isNoExpr(got) {
			t.Errorf("ExprRead(%q) = %v, %v", text, got, ok)
		}
	}
}

// Texts about 400 bytes, and far longer ones: none is the text of one that is ok.
func TestExprReadLong(t *testing.T) {
	for _, size := range []int{398, 399, 400, 401, 402, 1000, 1 << 20} {
		for _, piece := range []string{" ", "1", "0", "-", "not ", "add ", "1 ", "\x00", "\xff", "add 1 2 ", "i0 "} {
			long := strings.Repeat(piece, size)[:size]
			for _, text := range []string{long, "1" + long[1:], long[1:] + "1", long[2:] + " 1", "add 1 2" + long[7:]} {
				if got, ok := impl.ExprRead(text); ok || !isNoExpr(got) || len(text) != size {
					t.Errorf("ExprRead of %d bytes of %q = %v, %v", len(text), piece, got, ok)
				}
			}
		}
	}
}

var (
	wordNum  = regexp.MustCompile(`^(0|-?[1-9][0-9]{0,6})$`)
	wordAddr = regexp.MustCompile(`^[iov][0-5]$`)
)

// wordKids is how many kids the part has that has this word; -1, if there is none.
func wordKids(word string) int {
	if n, err := strconv.Atoi(word); err == nil && wordNum.MatchString(word) && -1000000 <= n && n <= 1000000 || wordAddr.MatchString(word) {
		return 0
	}
	for kind, w := range kindWords {
		if w == word {
			return kindKids[kind]
		}
	}
	return -1
}

// wantExprRead says whether this is the text of one that is ok: of each part that is waited for it is kept how many are around it.
func wantExprRead(text string) bool {
	wait := []int{0}
	words := strings.Split(text, " ")
	for _, word := range words {
		kids := wordKids(word)
		if kids < 0 || len(wait) == 0 || wait[len(wait)-1] > 5 {
			return false
		}
		around := wait[len(wait)-1]
		wait = append(wait[:len(wait)-1], slices.Repeat([]int{around + 1}, kids)...)
	}
	return len(wait) == 0 && len(words) <= 14
}

// checkExprRead holds what is read against what must be: there is just one whose text this is.
func checkExprRead(t *testing.T, text string) {
	t.Helper()
	got, ok := impl.ExprRead(text)
	if want := wantExprRead(text); ok != want {
		t.Errorf("ExprRead(%q) = %v, %v", text, got, ok)
		return
	}
	if !ok && !isNoExpr(got) || ok && (!impl.ExprOk(got) || wantText(got) != text) {
		t.Errorf("ExprRead(%q) = %v, %v", text, got, ok)
	}
}

// Every text of at most two bytes.
func TestExprReadShort(t *testing.T) {
	checkExprRead(t, "")
	read := 0
	for a := range 256 {
		checkExprRead(t, string([]byte{byte(a)}))
		for b := range 256 {
			text := string([]byte{byte(a), byte(b)})
			checkExprRead(t, text)
			if _, ok := impl.ExprRead(text); ok {
				read++
			}
		}
	}
	if read != 90+9+18 {
		t.Errorf("%d texts of two bytes are read", read)
	}
}

// Every text of at most four words.
func TestExprReadWords(t *testing.T) {
	words := []string{"0", "-12", "1000000", "1000001", "i0", "v5", "v6", "add", "sub", "mul", "less", "same", "and", "or", "not", "", "fly"}
	texts := slices.Clone(words)
	for range 3 {
		for _, text := range texts {
			checkExprRead(t, text)
		}
		var next []string
		for _, text := range texts {
			for _, word := range words {
				next = append(next, text+" "+word)
			}
		}
		texts = next
	}
	for _, text := range texts {
		checkExprRead(t, text)
	}
}

// byteTurned are all texts that have a byte more than one, one fewer, or another one in its place, and its beginnings
// and ends.
func byteTurned(text string) iter.Seq[string] {
	return func(yield func(string) bool) {
		for i := range len(text) + 1 {
			others := []string{text[:i], text[i:]}
			if i < len(text) {
				others = append(others, text[:i]+text[i+1:])
			}
			for b := range 256 {
				one := string([]byte{byte(b)})
				others = append(others, text[:i]+one+text[i:])
				if i < len(text) {
					others = append(others, text[:i]+one+text[i+1:])
				}
			}
			for _, other := range others {
				if !yield(other) {
					return
				}
			}
		}
	}
}

// Texts with a byte more, one fewer, or another one in its place.
func TestExprReadByteTurned(t *testing.T) {
	for _, text := range []string{"-1000000", "1000000", "v0", "not i3", "add 10 -2", "less mul v0 o1 and 3 4", "or 1 same i5 -7", wantText(part(10, tree(7))), wantText(nots(5, num(1)))} {
		checkExprRead(t, text)
		for other := range byteTurned(text) {
			checkExprRead(t, other)
		}
	}
}

// Words in any order, about as many as there may be.
func TestExprReadSome(t *testing.T) {
	r := rand.New(rand.NewPCG(1, 5))
	words := []string{"add", "less", "or", "not", "not", "not", "1", "-5", "v2", "i1"}
	read := 0
	for range 50000 {
		text := []string{words[r.IntN(6)]}
		for range 3 + r.IntN(14) {
			text = append(text, words[r.IntN(len(words))])
		}
		checkExprRead(t, strings.Join(text, " "))
		if wantExprRead(strings.Join(text, " ")) {
			read++
		}
	}
	if read < 500 {
		t.Errorf("only %d of them are read", read)
	}
}

// roomOf are the places of all numbers of all lists, spare room included.
func roomOf(e impl.Expr) []*impl.Expr {
	var out []*impl.Expr
	all := e.Kids[:cap(e.Kids)]
	for i := range all {
		out = append(out, &all[i])
	}
	for _, kid := range e.Kids {
		out = append(out, roomOf(kid)...)
	}
	return out
}

// No two lists of one answer share memory, nor those of two answers, of one text or of two.
func TestExprAnswersAreNew(t *testing.T) {
	taken := map[*impl.Expr]string{}
	for _, e := range exprsOk() {
		text := wantText(e)
		for range 2 {
			got, ok := impl.ExprRead(text)
			if !ok {
				t.Fatalf("%q", text)
			}
			for _, p := range roomOf(got) {
				if other, is := taken[p]; is {
					t.Fatalf("what is read from %q shares memory with what is read from %q", text, other)
				}
				taken[p] = text
			}
		}
	}
}

// What is written into an answer is not to be seen in the next one.
func TestExprAnswersNotKept(t *testing.T) {
	for _, e := range exprsOk() {
		text := wantText(e)
		kept, _ := impl.ExprRead(text)
		got, _ := impl.ExprRead(text)
		for _, p := range roomOf(got) {
			*p = num(1234567)
		}
		again, ok := impl.ExprRead(text)
		if !ok || !sameExpr(again, e) || !sameExpr(kept, e) {
			t.Fatalf("%q is read as %v, behind an answer that was written into", text, again)
		}
	}
}

// roomyExpr is the same, with room behind each list, and something in it.
func roomyExpr(e impl.Expr) impl.Expr {
	kids := make([]impl.Expr, 0, len(e.Kids)+3)
	for _, kid := range e.Kids {
		kids = append(kids, roomyExpr(kid))
	}
	all := kids[:cap(kids)]
	for i := len(kids); i < len(all); i++ {
		all[i] = impl.Expr{Kind: 10, N: 70 + i, Addr: impl.Addr{Kind: 3, At: i}, Kids: []impl.Expr{num(i)}}
	}
	e.Kids = kids
	return e
}

// Nothing is written into an argument, nor behind its end, nor is what is behind it seen.
func TestExprArgumentsStay(t *testing.T) {
	m, all := roomy()
	list := slices.Collect(maps.Values(exprsBad()))
	list = append(list, exprsOk()...)
	for _, e := range list {
		given := roomyExpr(e)
		room := roomOf(given)
		var was []impl.Expr
		for _, p := range room {
			was = append(was, copyExpr(*p))
		}
		if impl.ExprOk(given) != impl.ExprOk(e) || impl.ExprMany(given) != impl.ExprMany(e) || impl.ExprOf(given, m) != impl.ExprOf(e, m) || impl.ExprText(given) != impl.ExprText(e) {
			t.Errorf("what is behind the lists of %v counts", e)
		}
		if !impl.ExprAlike(given, e) || !impl.ExprAlike(e, given) || !impl.ExprAlike(given, given) {
			t.Errorf("ExprAlike(%v, itself) = false", e)
		}
		if !sameExpr(given, e) {
			t.Errorf("%v is %v now", e, given)
		}
		for i, p := range room {
			if !sameExpr(*p, was[i]) {
				t.Errorf("turned within %v: %v", e, *p)
			}
		}
	}
	if at := turned(all); at != nil {
		t.Errorf("the memory is turned at %v", at)
	}
}
