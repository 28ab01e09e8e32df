package tests

import (
	"iter"
	"math/rand/v2"
	"slices"
	"strconv"
	"strings"
	"testing"

	"loop.example/stopgate/impl"
)

// exprOf is what is reckoned of a text, which must be read.
func exprOf(t *testing.T, text string) impl.Expr {
	t.Helper()
	e, ok := impl.ExprRead(text)
	if !ok || wantText(e) != text {
		t.Fatalf("%q is read as %v, %v", text, e, ok)
	}
	return e
}

// stmtsOf is what is done of a text, which must be read.
func stmtsOf(t *testing.T, text string) []impl.Stmt {
	t.Helper()
	list, ok := impl.StmtsRead(text)
	if !ok || wantStmtsText(list) != text {
		t.Fatalf("%q is read as %v, %v", text, list, ok)
	}
	return list
}

// wantSlim is one that is ok made shorter, told apart from the program: by kinds, and by the texts of what is within.
func wantSlim(e impl.Expr) impl.Expr {
	e = copyExpr(e)
	texts := make([]string, len(e.Kids))
	known := len(e.Kids) > 0
	for i, kid := range e.Kids {
		e.Kids[i] = wantSlim(kid)
		texts[i] = wantText(e.Kids[i])
		known = known && e.Kids[i].Kind == 1
	}
	if known {
		return num(wantOf(e, impl.Mem{}))
	}
	if len(texts) < 2 {
		return e
	}
	x, y := texts[0], texts[1]
	switch kindWords[e.Kind] {
	case "add":
		if y == "0" {
			return e.Kids[0]
		} else if x == "0" {
			return e.Kids[1]
		}
	case "sub":
		if y == "0" {
			return e.Kids[0]
		} else if x == y {
			return num(0)
		}
	case "mul":
		if y == "1" {
			return e.Kids[0]
		} else if x == "1" {
			return e.Kids[1]
		} else if x == "0" || y == "0" {
			return num(0)
		}
	case "and":
		if x == "0" || y == "0" {
			return num(0)
		}
	case "less", "same":
		if x == y {
			return num(wantIs(e.Kind == 7))
		}
	}
	return e
}

// wantSlimStmts is a list that is ok made shorter, told apart from the program.
func wantSlimStmts(list []impl.Stmt) []impl.Stmt {
	var out []impl.Stmt
	for _, s := range list {
		s.Expr, s.Then, s.Else = wantSlim(s.Expr), wantSlimStmts(s.Then), wantSlimStmts(s.Else)
		words := strings.Fields(wantStmtsText(stmts(s)))
		switch {
		case words[0] == "set" && len(words) == 3 && words[1] == words[2], words[0] == "while" && words[1] == "0":
			continue
		case words[0] != "if" || s.Expr.Kind != 1 && len(s.Then)+len(s.Else) > 0:
			out = append(out, s)
		case words[1] == "0":
			out = append(out, s.Else...)
		case s.Expr.Kind == 1:
			out = append(out, s.Then...)
		}
	}
	return out
}

// wantReads says whether one that is ok reads a place, by their texts; wantWrites whether a list that is ok sets it.
func wantReads(e impl.Expr, text string) bool {
	return text != "" && slices.Contains(strings.Fields(wantText(e)), text)
}

func wantWrites(list []impl.Stmt, text string) bool {
	return text != "" && strings.Contains(" "+wantStmtsText(list)+" ", " set "+text+" ")
}

// slimPlaces are few places, so that parts are often the same.
var slimPlaces = []impl.Addr{v0, v0, v1, o0, in0}

// someSlim is one that is ok, of at most so many parts, with at most so many around its deepest one, which can often be
// made shorter: of few numbers and places, with parts that are the same, or are so once they are shorter.
func someSlim(r *rand.Rand, many int, deep int) impl.Expr {
	if deep == 0 || many < 3 || r.IntN(8) == 0 {
		if r.IntN(2) == 0 {
			return num([]int{0, 0, 1, 1, 2, -1, 1000000, -1000000}[r.IntN(8)])
		}
		return at(slimPlaces[r.IntN(len(slimPlaces))])
	}
	if r.IntN(9) == 0 {
		return part(10, someSlim(r, many-1, deep-1))
	}
	kind := 3 + r.IntN(7)
	a := someSlim(r, 1+r.IntN(many-2), deep-1)
	n, _ := wantMany(a)
	b := someSlim(r, many-1-n, deep-1)
	if r.IntN(4) == 0 {
		if like := someLike(r, a); fitsIn(like, many-1-n, deep-1) {
			b = like
		}
	}
	if r.IntN(2) == 0 {
		a, b = b, a
	}
	return part(kind, a, b)
}

// fitsIn says whether one has no more parts, and no more around its deepest one, than these.
func fitsIn(e impl.Expr, many int, deep int) bool {
	n, d := wantMany(e)
	return n <= many && d <= deep
}

// someLike is the same, or one that is the same once it is shorter.
func someLike(r *rand.Rand, e impl.Expr) impl.Expr {
	switch r.IntN(6) {
	case 0:
		return part(3, e, num(0))
	case 1:
		return part(3, num(0), e)
	case 2:
		return part(4, e, num(0))
	case 3:
		return part(5, e, num(1))
	case 4:
		return part(5, num(1), e)
	}
	return copyExpr(e)
}

// someSlimStmts is a list that is ok, of at most so many statements, with at most so many around its deepest one, which
// can often be made shorter.
func someSlimStmts(r *rand.Rand, many int, deep int) []impl.Stmt {
	var out []impl.Stmt
	for many > 0 && r.IntN(6) > 0 {
		s := someSlimStmt(r, many, deep)
		n, _ := wantStmtsMany(stmts(s))
		many -= n
		out = append(out, s)
	}
	return out
}

// someSlimStmt is a statement, with at most so many, with itself.
func someSlimStmt(r *rand.Rand, many int, deep int) impl.Stmt {
	e := someSlim(r, 1+r.IntN(14), r.IntN(6))
	to := slimPlaces[r.IntN(4)]
	var then, other []impl.Stmt
	if deep > 0 && many > 1 {
		then = someSlimStmts(r, r.IntN(many), deep-1)
		n, _ := wantStmtsMany(then)
		other = someSlimStmts(r, r.IntN(many-n), deep-1)
	}
	switch r.IntN(9) {
	case 0:
		return set(to, e)
	case 1:
		return set(to, someLike(r, at(to)))
	case 2:
		return more(to)
	case 3, 4:
		return when(e, then, other)
	case 5:
		return when(num(r.IntN(3)-1), then, other)
	case 6:
		return while(e, then...)
	case 7:
		return while(someLike(r, num(0)), then...)
	}
	n, _ := wantStmtsMany(then)
	if n+2 > many {
		return while(below(to, r.IntN(9)), then...)
	}
	if deep == 0 {
		return while(below(to, r.IntN(9)))
	}
	return while(below(to, r.IntN(9)), append(then, more(to))...)
}

// slimMems are some memories.
func slimMems(r *rand.Rand) []impl.Mem { return append(memsFor(), someMem(r), someMem(r)) }

// checkSlim holds one that is ok against itself made shorter. Promise 10: it is ok, comes to the same of each of these
// memories, and has no more parts; and made shorter twice it is as made shorter once: a rule leaves a number, or what is
// shorter already.
func checkSlim(t *testing.T, e impl.Expr, mems []impl.Mem) impl.Expr {
	t.Helper()
	text := wantText(e)
	got, want := impl.SlimExpr(e), wantSlim(e)
	if !sameExpr(got, want) || !impl.ExprAlike(got, want) {
		t.Fatalf("SlimExpr(%q) = %v, not %q", text, got, wantText(want))
	}
	if many := impl.ExprMany(got); !impl.ExprOk(got) || many < 1 || many > impl.ExprMany(e) {
		t.Errorf("SlimExpr(%q) = %q: %v, %d parts", text, impl.ExprText(got), impl.ExprOk(got), many)
	}
	if again := impl.SlimExpr(got); !sameExpr(again, got) {
		t.Errorf("SlimExpr(%q), of %q, = %q", wantText(got), text, wantText(again))
	}
	for _, m := range mems {
		if a, b := impl.ExprOf(e, m), impl.ExprOf(got, m); a != b || a != wantOf(e, m) {
			t.Errorf("%q comes to %d, and to %d as %q, of %v", text, a, b, wantText(got), m)
		}
	}
	if a := impl.ExprOf(got, impl.Mem{}); a != 0 {
		t.Errorf("%q comes to %d, of no memory", wantText(got), a)
	}
	return got
}

// slimRows are the rows of a table, each a text and what it is once it is shorter.
func slimRows(t *testing.T, table string) iter.Seq2[string, string] {
	return func(yield func(string, string) bool) {
		for line := range strings.Lines(table) {
			for row := range strings.SplitSeq(line, "|") {
				if row = strings.TrimSpace(row); row == "" {
					continue
				}
				text, want, ok := strings.Cut(row, " => ")
				if !ok {
					t.Fatalf("%q", row)
				}
				if !yield(text, want) {
					return
				}
			}
		}
	}
}

// checkSlims checks a table of what is reckoned.
func checkSlims(t *testing.T, table string) {
	t.Helper()
	for text, want := range slimRows(t, table) {
		if got := wantText(checkSlim(t, exprOf(t, text), memsFor())); got != want {
			t.Errorf("SlimExpr(%q) = %q, not %q", text, got, want)
		}
	}
}

// checkFilled checks a table in which X stands for a place, or for a greater part: once for each of these.
func checkFilled(t *testing.T, table string) {
	t.Helper()
	for _, x := range []string{
		"i0", "o5", "v1", "not v2", "not not i1", "add v1 1", "sub 0 v0", "mul v0 v0", "less v1 -7", "same o1 i1", "and v0 1", "or 0 v3", "or not v0 i2", "or add v0 2 v1",
	} {
		checkSlims(t, strings.ReplaceAll(table, "X", x))
	}
}

// Numbers alone, and places alone, are as they are.
func TestSlimExprLeaves(t *testing.T) {
	for _, n := range edgeNums {
		if got := checkSlim(t, num(n), memsFor()); !sameExpr(got, num(n)) {
			t.Errorf("SlimExpr(%d) = %v", n, got)
		}
	}
	for _, a := range placesOk() {
		if got := checkSlim(t, at(a), memsFor()); !sameExpr(got, at(a)) {
			t.Errorf("SlimExpr of %v = %v", a, got)
		}
	}
}

// An ExprNot of a number is that number's.
func TestSlimExprNot(t *testing.T) {
	checkSlims(t, `not 0 => 1 | not 1 => 0 | not -1 => 0 | not 7 => 0 | not 1000000 => 0 | not -1000000 => 0 | not not 0 => 0 | not not 5 => 1 | not not not not not 0 => 1 | not not not not not -3 => 0`)
	for _, n := range edgeNums {
		if got := checkSlim(t, part(10, num(n)), memsFor()); !sameExpr(got, num(wantIs(n == 0))) {
			t.Errorf("SlimExpr of the not of %d = %v", n, got)
		}
	}
	checkFilled(t, `not X => not X | not not X => not not X | not not not X => not not not X`)
}

// Two numbers are what their Kind makes of them.
func TestSlimExprNumbers(t *testing.T) {
	checkSlims(t, `
		add 2 3 => 5 | add 2 -3 => -1 | sub 2 3 => -1 | sub 3 2 => 1 | mul 4 -5 => -20 | mul -4 -5 => 20
		less 1 2 => 1 | less 2 1 => 0 | less 2 2 => 0 | less -1 0 => 1 | less 0 -1 => 0 | same 2 2 => 1 | same 2 3 => 0 | same 0 0 => 1 | same 1 -1 => 0
		and 2 3 => 1 | and 0 3 => 0 | and 3 0 => 0 | and 0 0 => 0 | and -1 1 => 1 | or 0 0 => 0 | or 0 -4 => 1 | or 4 0 => 1 | or 4 5 => 1
		add add 1 2 add 3 4 => 10 | sub 1 sub 2 sub 3 4 => -2 | mul add 1 2 sub 3 5 => -6 | or and 1 0 less 1 0 => 0
	`)
	for kind := 3; kind <= 9; kind++ {
		for _, a := range edgeNums {
			for _, b := range edgeNums {
				e := part(kind, num(a), num(b))
				if got := checkSlim(t, e, memsFor()[:1]); !sameExpr(got, num(wantOf(e, impl.Mem{}))) {
					t.Errorf("SlimExpr(%q) = %v", wantText(e), got)
				}
			}
		}
	}
}

// Sums and products that are cut: it is not the sum of three that is cut, but each sum.
func TestSlimExprCut(t *testing.T) {
	checkSlims(t, `
		add 1000000 1 => 1000000 | add 999999 1 => 1000000 | add 999999 2 => 1000000 | add 1000000 1000000 => 1000000 | add 1000000 -1000000 => 0
		add -1000000 -1 => -1000000 | add -999999 -1 => -1000000 | add -999999 -2 => -1000000 | add -1000000 -1000000 => -1000000
		sub -1000000 1 => -1000000 | sub 1000000 -1 => 1000000 | sub 1000000 1000000 => 0 | sub -1000000 1000000 => -1000000 | sub 1000000 -1000000 => 1000000
		mul 1000 1000 => 1000000 | mul 1001 1000 => 1000000 | mul -1001 1000 => -1000000 | mul -1001 -1000 => 1000000 | mul 1000000 1000000 => 1000000
		mul 1000000 -1000000 => -1000000
		sub add 1000000 1 1 => 999999 | add sub -1000000 1 1 => -999999 | add 1 sub -1000000 1 => -999999 | sub mul 1000000 2 mul 1000 1000 => 0
		sub mul 1001 1000 1 => 999999 | same add 1000000 1 1000000 => 1 | less mul -1000 1001 -1000000 => 0
		sub add v0 1000000 1000000 => sub add v0 1000000 1000000 | add sub v0 1 1 => add sub v0 1 1 | mul mul v0 1000 1000 => mul mul v0 1000 1000
		add v0 add 1000000 5 => add v0 1000000 | sub v0 mul 1001 -1000 => sub v0 -1000000
	`)
}

// 0 as the second of ExprAdd and ExprSub, and 1 of ExprMul, leave the first; the same as the first of ExprAdd and
// ExprMul leaves the second.
func TestSlimExprOneGoes(t *testing.T) {
	checkFilled(t, `
		add X 0 => X | sub X 0 => X | mul X 1 => X | add 0 X => X | mul 1 X => X | sub 0 X => sub 0 X
		add add X 0 0 => X | mul 1 mul X 1 => X | sub add 0 X 0 => X
		add X 1 => add X 1 | add 1 X => add 1 X | sub X 1 => sub X 1 | sub 1 X => sub 1 X | mul X 2 => mul X 2 | mul 2 X => mul 2 X | mul X -1 => mul X -1
		mul -1 X => mul -1 X
		add X -1 => add X -1 | add -1 X => add -1 X | sub X -1 => sub X -1
	`)
}

// ExprMul and ExprAnd with 0 as one of the two are 0.
func TestSlimExprZero(t *testing.T) {
	checkFilled(t, `
		mul X 0 => 0 | mul 0 X => 0 | and X 0 => 0 | and 0 X => 0 | mul mul X 0 X => 0 | and X mul X 0 => 0 | not and X 0 => 1 | add X mul X 0 => X
		and X 1 => and X 1 | and 1 X => and 1 X | and X -1 => and X -1 | and -1 X => and -1 X
		or X 0 => or X 0 | or 0 X => or 0 X | or X 1 => or X 1 | or 1 X => or 1 X | or X -5 => or X -5
	`)
}

// ExprSame of two that are the same is 1, ExprLess and ExprSub of such are 0; the other kinds of such are as they are.
func TestSlimExprAlike(t *testing.T) {
	checkFilled(t, `
		same X X => 1 | less X X => 0 | sub X X => 0 | not same X X => 0 | not less X X => 1 | not sub X X => 1
		add X X => add X X | mul X X => mul X X | and X X => and X X | or X X => or X X
		same X v5 => same X v5 | same v5 X => same v5 X | less X v5 => less X v5 | sub v5 X => sub v5 X
		same X 0 => same X 0 | same 0 X => same 0 X | less X 0 => less X 0 | less 0 X => less 0 X | same X 1 => same X 1 | less 1 X => less 1 X
		same X not X => same X not X | sub not X X => sub not X X | less X add X 1 => less X add X 1
	`)
	checkSlims(t, `
		same v0 v1 => same v0 v1 | same v0 o0 => same v0 o0 | sub v0 o0 => sub v0 o0 | less i0 o0 => less i0 o0 | sub i3 i4 => sub i3 i4
		same add v0 v1 add v1 v0 => same add v0 v1 add v1 v0 | sub add v0 1 add v0 2 => sub add v0 1 add v0 2 | less mul v0 2 add v0 2 => less mul v0 2 add v0 2
		same or v0 add v1 2 or v0 add v1 2 => 1 | sub or v0 add v1 2 or v0 add v1 3 => sub or v0 add v1 2 or v0 add v1 3
	`)
}

// What is the same only when it is shorter: under each of the three, with what it is the same as as the other part, or
// with what becomes the same in another way.
func TestSlimExprAlikeShorter(t *testing.T) {
	like := []string{"add X 0", "add 0 X", "sub X 0", "mul X 1", "mul 1 X", "add X sub v4 v4", "mul X same v4 v4", "add less 2 1 X", "sub X mul v4 0", "X"}
	for _, x := range []string{"v1", "not v2", "add v1 1"} {
		for _, first := range like {
			for _, second := range like {
				table := "same A B => 1 | less A B => 0 | sub A B => 0 | add A B => add X X | mul A B => mul X X | and A B => and X X | or A B => or X X"
				table = strings.NewReplacer("A", first, "B", second).Replace(table)
				if len(strings.Fields(strings.ReplaceAll(first+" "+second, "X", x))) < 14 {
					checkSlims(t, strings.ReplaceAll(table, "X", x))
				}
			}
		}
	}
	checkSlims(t, `
		same add v0 0 v0 => 1 | sub not add v0 0 not mul 1 v0 => 0 | less add v0 add 1 1 add v0 2 => 0 | same add v0 2 add v0 sub 5 3 => 1
		same and v0 not 0 and add v0 0 1 => 1 | sub add v0 0 mul v1 1 => sub v0 v1 | same not not v0 v0 => same not not v0 v0
	`)
}

// What becomes a number only when it is shorter.
func TestSlimExprNumberShorter(t *testing.T) {
	checkSlims(t, `
		not sub v0 v0 => 1 | not same v0 v0 => 0 | not mul v0 0 => 1 | not and 0 v0 => 1 | not add not 0 0 => 0
		add v1 sub v0 v0 => v1 | add sub v0 v0 v1 => v1 | sub v1 less v0 v0 => v1 | mul v1 same v0 v0 => v1 | mul same v0 v0 v1 => v1 | mul v1 not 0 => v1
		mul v1 sub v0 v0 => 0 | and sub v0 v0 v1 => 0 | and v1 not 7 => 0 | and v1 not 0 => and v1 1 | or v1 not 7 => or v1 0
		add same v0 v0 same v1 v1 => 2 | less sub v0 v0 same v0 v0 => 1 | same sub v0 v0 less v1 v1 => 1 | same same v0 v0 1 => 1 | same less v0 v0 1 => 0
		sub 3 same v0 v0 => 2 | add add v0 0 sub v0 v0 => v0 | mul add 1 sub v0 v0 v1 => v1 | less v0 sub v0 v0 => less v0 0
		mul v0 add 1 mul v1 and v2 sub v3 v3 => v0 | not not not not sub v0 v0 => 0
	`)
}

// Rules that meet: the first that applies is the one.
func TestSlimExprRulesMeet(t *testing.T) {
	checkSlims(t, `
		mul 0 1 => 0 | mul 1 0 => 0 | mul 1 1 => 1 | mul 0 0 => 0 | add 0 0 => 0 | add 0 1 => 1 | add 1 0 => 1 | sub 0 0 => 0 | sub 1 0 => 1 | sub 1 1 => 0
		less 0 0 => 0 | less 5 5 => 0 | same 5 5 => 1 | and 0 0 => 0 | sub 5 5 => 0 | sub 7 0 => 7 | mul 9 1 => 9 | mul 1 9 => 9 | mul 9 0 => 0 | add 0 9 => 9
		sub v0 sub v0 v0 => v0 | sub sub v0 v0 sub v0 v0 => 0 | sub sub v0 v0 0 => 0 | mul sub v0 v0 same v0 v0 => 0 | mul same v0 v0 sub v0 v0 => 0
		add sub v0 v0 sub v1 v1 => 0
		sub 0 sub v0 v0 => 0 | sub 0 v0 => sub 0 v0 | less 0 sub v0 v0 => 0 | and sub v0 v0 0 => 0 | mul 1 mul v0 0 => 0 | mul mul v0 0 1 => 0
	`)
}

// Each kind, with each two of many parts of all sorts, by itself, and within others.
func TestSlimExprPairs(t *testing.T) {
	texts := []string{
		"0", "1", "2", "-1", "1000000", "-1000000", "i0", "o0", "v0", "v1", "not v0", "not not v0", "not 0", "not 1", "add v0 0", "add 0 v0", "mul 1 v0", "sub v0 v0", "same v0 v0", "same v0 v1",
		"mul v1 0", "and 0 v1", "or 0 v0", "add v0 1", "add v0 add 1 0", "less 1 2", "add 999999 1", "sub 0 mul 1000 1000",
	}
	for kind := 3; kind <= 9; kind++ {
		for _, first := range texts {
			for _, second := range texts {
				e := part(kind, exprOf(t, first), exprOf(t, second))
				for _, whole := range []impl.Expr{e, part(10, e), part(3, e, num(0)), part(5, num(1), e), part(4, at(v0), e), part(7, e, at(v0))} {
					checkSlim(t, whole, memsFor())
				}
			}
		}
	}
}

// Promise 10, of each that has at most two others around any part, out of two numbers and two places.
func TestSlimExprEvery(t *testing.T) {
	leaves := []impl.Expr{num(0), num(1), at(v0), at(o5)}
	level := leaves
	mems := memsFor()
	for range 2 {
		next := slices.Clone(leaves)
		for _, a := range level {
			next = append(next, part(10, a))
			for _, b := range level {
				for kind := 3; kind <= 9; kind++ {
					next = append(next, part(kind, a, b))
				}
			}
		}
		level = next
	}
	for i, e := range level {
		checkSlim(t, e, mems[i%3:i%3+1])
	}
	if len(level) != 4+120+7*120*120 {
		t.Error(len(level))
	}
}

// Promise 10: of all kinds and depths, and of many memories.
func TestSlimExprMany(t *testing.T) {
	r := rand.New(rand.NewPCG(1, 10))
	list := exprsOk()
	for range 12000 {
		list = append(list, someSlim(r, 1+r.IntN(14), r.IntN(6)))
	}
	shorter, same, greatest := 0, 0, 0
	for _, e := range list {
		got := checkSlim(t, e, slimMems(r))
		was, _ := wantMany(e)
		now, _ := wantMany(got)
		if now < was {
			shorter++
		} else if sameExpr(got, e) {
			same++
		}
		if was >= 11 && now > 1 && now < was {
			greatest++
		}
	}
	if shorter < 5000 || same < 1000 || greatest < 100 {
		t.Errorf("%d are shorter, %d are as they were, %d of the greatest are shorter", shorter, same, greatest)
	}
}

// The greatest and the deepest ones, of which only what is innermost, or all, goes.
func TestSlimExprBounds(t *testing.T) {
	checkSlims(t, `
		not not not not not v0 => not not not not not v0 | not not not not not 1 => 0
		add add add add add v0 0 0 0 0 0 => v0 | add 0 add 0 add 0 add 0 add 0 v0 => v0 | sub sub sub sub sub v0 1 1 1 1 0 => sub sub sub sub v0 1 1 1 1
		not not not not add v0 0 => not not not not v0 | not not not mul 0 not v0 => 1 | or v1 or v1 or v1 or v1 sub v0 v0 => or v1 or v1 or v1 or v1 0
		not add add add 1 2 3 add add 4 5 add 6 7 => 0 | not add add add v1 v2 v3 add add v4 v5 add i0 i1 => not add add add v1 v2 v3 add add v4 v5 add i0 i1
		not add add add v1 0 v3 add add v4 0 add 0 0 => not add add v1 v3 v4
	`)
	for _, c := range exprsJustOk() {
		checkSlim(t, c.e, memsFor())
	}
}

// checkSlimBad asks the functions of what is reckoned of one that is not ok.
func checkSlimBad(t *testing.T, name string, e impl.Expr) {
	t.Helper()
	if got := impl.SlimExpr(e); !isNoExpr(got) {
		t.Errorf("%s: SlimExpr = %v", name, got)
	}
	for _, a := range append(placesOk(), impl.Addr{}, e.Addr) {
		if impl.SlimReads(e, a) {
			t.Errorf("%s: SlimReads of %v", name, a)
		}
	}
}

func TestSlimExprBad(t *testing.T) {
	for name, e := range exprsBad() {
		checkSlimBad(t, name, e)
		checkSlimBad(t, name+", beside a place", part(3, at(v0), e))
		checkSlimBad(t, name+", times 0", part(5, num(0), e))
		checkSlimBad(t, name+", behind a place", part(5, e, at(v0)))
	}
	for name, e := range loops() {
		checkSlimBad(t, name, e)
		checkSlimBad(t, name+", beside a place", part(7, at(v0), e))
	}
	checkSlimBad(t, "one that is too great, and would not be", part(3, part(3, tree(4), tree(4)), at(v0)))
	checkSlimBad(t, "one that is too deep, and would not be", nots(6, at(v0)))
	for _, n := range []int{1000001, -1000001, 1 << 40} {
		checkSlimBad(t, "a number that is too great", part(4, num(n), num(n)))
		checkSlimBad(t, "a number that is too great, times 0", part(5, num(n), num(0)))
	}
	checkSlimBad(t, "a number with a place", impl.Expr{Kind: 1, Addr: v0})
	checkSlimBad(t, "a place with a number", impl.Expr{Kind: 2, N: 1, Addr: v0})
	checkSlimBad(t, "a sum with a place", impl.Expr{Kind: 3, Addr: v0, Kids: []impl.Expr{at(v0), at(v0)}})
}

// checkReads asks for each place, and for what is none, of one that is ok.
func checkReads(t *testing.T, e impl.Expr) {
	t.Helper()
	for _, a := range placesOk() {
		if got, want := impl.SlimReads(e, a), wantReads(e, placeTexts[a.Kind-1][a.At]); got != want {
			t.Errorf("SlimReads(%q, %v) = %v", wantText(e), a, got)
		}
	}
	for _, a := range placesBad() {
		if impl.SlimReads(e, a) {
			t.Errorf("SlimReads(%q, %v)", wantText(e), a)
		}
	}
}

func TestSlimReads(t *testing.T) {
	for _, row := range []struct{ text, reads string }{
		{"v0", "v0"}, {"i0", "i0"}, {"o5", "o5"}, {"0", ""}, {"5", ""}, {"add v0 1", "v0"}, {"add 1 v0", "v0"}, {"add v0 v1", "v0 v1"}, {"not v3", "v3"}, {"add i1 o1", "i1 o1"},
		{"not not not not not v0", "v0"}, {"add 1 add 1 add 1 add 1 add 1 o4", "o4"}, {"add add add add add i5 1 1 1 1 1", "i5"}, {"add 1 add 1 add 1 add 1 add v2 1", "v2"},
		{"mul 0 v0", "v0"}, {"mul v0 0", "v0"}, {"and 0 v0", "v0"}, {"sub v0 v0", "v0"}, {"same add v1 0 v1", "v1"}, {"mul 0 not not not not v5", "v5"}, {"and sub i0 i0 add v0 v1", "i0 v0 v1"},
		{"less 1 2", ""}, {"not not 0", ""}, {"or or v0 v1 or or o0 o1 i0", "v0 v1 o0 o1 i0"}, {"add add 1 2 add add 3 4 add 5 v4", "v4"},
	} {
		e := exprOf(t, row.text)
		checkReads(t, e)
		for _, a := range placesOk() {
			if got, want := impl.SlimReads(e, a), slices.Contains(strings.Fields(row.reads), placeTexts[a.Kind-1][a.At]); got != want {
				t.Errorf("SlimReads(%q, %v) = %v", row.text, a, got)
			}
		}
	}
	for _, e := range exprsOk() {
		checkReads(t, e)
	}
	r := rand.New(rand.NewPCG(2, 10))
	for range 1000 {
		checkReads(t, someSlim(r, 14, 5))
	}
}

// checkSlimStmts holds a list that is ok against itself made shorter, what it does aside: it is ok, there are no more of
// them, and made shorter twice it is as made shorter once.
func checkSlimStmts(t *testing.T, list []impl.Stmt) []impl.Stmt {
	t.Helper()
	text := wantStmtsText(list)
	got, want := impl.SlimStmts(list), wantSlimStmts(list)
	if !sameStmts(got, want) || !impl.StmtsSame(got, want) {
		t.Fatalf("SlimStmts(%q) = %v, not %q", text, got, wantStmtsText(want))
	}
	if !impl.StmtsOk(got) || impl.StmtsMany(got) > impl.StmtsMany(list) || len(impl.CodeOf(got)) > len(impl.CodeOf(list)) {
		t.Errorf("SlimStmts(%q) = %q, which is not ok (%v), or longer", text, impl.StmtsText(got), impl.StmtsOk(got))
	}
	if again := impl.SlimStmts(got); !sameStmts(again, got) {
		t.Errorf("SlimStmts(%q), of %q, = %q", wantStmtsText(got), text, wantStmtsText(again))
	}
	return got
}

// slimRun is one that runs with a fuel: a list, or its code.
type slimRun func(m impl.Mem, fuel int) (impl.Mem, int, int)

// slimRuns are the runs of a list, of its code, of the shorter one, and of that one's code.
func slimRuns(list []impl.Stmt, short []impl.Stmt) []slimRun {
	var out []slimRun
	for _, l := range [][]impl.Stmt{list, short} {
		p := impl.CodeOf(l)
		out = append(out, func(m impl.Mem, fuel int) (impl.Mem, int, int) { return impl.StmtsRun(m, l, fuel) })
		out = append(out, func(m impl.Mem, fuel int) (impl.Mem, int, int) { return impl.CodeRun(m, p, fuel) })
	}
	return out
}

// checkSlimRun holds what a list does against what the shorter one does, and the codes of both, with this fuel. Promise
// 10. What is taken out takes no fuel, so that just as much is left. It is how the list ends.
func checkSlimRun(t *testing.T, m impl.Mem, list []impl.Stmt, short []impl.Stmt, fuels ...int) (end int, left int) {
	t.Helper()
	runs := slimRuns(list, short)
	for _, fuel := range fuels {
		var want impl.Mem
		want, end, left = runs[0](m, fuel)
		for i, run := range runs[1:] {
			if got, e, l := run(m, fuel); !sameMem(got, want) || e != end || l != left || e == 2 {
				t.Errorf("%q, as %q, run %d with fuel %d of %v: %v, %d, %d, not %v, %d, %d", wantStmtsText(list), wantStmtsText(short), i, fuel, m, got, e, l, want, end, left)
			}
		}
	}
	return end, left
}

// checkSlimFuel does so with all fuel from 0 on to more than the list takes, or to the most.
func checkSlimFuel(t *testing.T, m impl.Mem, list []impl.Stmt, short []impl.Stmt) int {
	t.Helper()
	_, left := checkSlimRun(t, m, list, short, 100)
	var fuels []int
	for fuel := range min(100-left+3, 100) {
		fuels = append(fuels, fuel)
	}
	end, _ := checkSlimRun(t, m, list, short, append(fuels, 100)...)
	return end
}

// checkSlimTexts checks a table of what is done.
func checkSlimTexts(t *testing.T, table string) {
	t.Helper()
	for text, want := range slimRows(t, table) {
		list := stmtsOf(t, text)
		got := checkSlimStmts(t, list)
		if wantStmtsText(got) != want {
			t.Errorf("SlimStmts(%q) = %q, not %q", text, wantStmtsText(got), want)
		}
		for _, m := range memsFor() {
			checkSlimFuel(t, m, list, got)
		}
	}
}

// A StmtSet of a place to the number at that very place is nothing; one of another place is not, of the same Kind or at
// the same number.
func TestSlimSet(t *testing.T) {
	checkSlimTexts(t, `
		- => - | set v0 v0 => - | set o5 o5 => - | set v0 1 => set v0 1 | set v0 0 => set v0 0 | set v0 i0 => set v0 i0
		set v0 add v0 0 => - | set v0 add 0 v0 => - | set o1 sub o1 0 => - | set v2 mul 1 v2 => - | set v2 mul v2 1 => - | set v0 add v0 sub v1 v1 => -
		set v0 mul v0 same i0 i0 => -
		set v0 add v1 0 => set v0 v1 | set v0 add o0 0 => set v0 o0 | set o0 mul 1 v0 => set o0 v0 | set v0 mul 1 i0 => set v0 i0 | set v0 sub v0 v0 => set v0 0
		set v0 add 1 2 => set v0 3
		set v0 add v0 1 => set v0 add v0 1 | set v0 not not v0 => set v0 not not v0 | set v0 or v0 0 => set v0 or v0 0 | set v0 add v0 v0 => set v0 add v0 v0
		set v0 v0 ; set v0 v0 => - | set v0 v1 ; set v1 v0 => set v0 v1 ; set v1 v0 | set v0 v1 ; set v0 v0 => set v0 v1
		set v0 1 ; set v0 1 => set v0 1 ; set v0 1
	`)
	for _, to := range placesOk()[6:] {
		for _, from := range placesOk() {
			for _, e := range []impl.Expr{at(from), part(3, at(from), num(0)), part(5, num(1), at(from))} {
				got := checkSlimStmts(t, stmts(set(to, e)))
				if to == from && len(got) != 0 || to != from && !sameStmts(got, stmts(set(to, at(from)))) {
					t.Errorf("%v set to what is at %v: %v", to, from, got)
				}
			}
		}
	}
}

// Of a StmtIf whose Expr is a number what is in Then, or else in Else; of one with nothing in both nothing; also where
// that is so only once they are shorter.
func TestSlimIf(t *testing.T) {
	checkSlimTexts(t, `
		if 1 [ set v0 1 ] [ set v0 2 ] => set v0 1 | if 0 [ set v0 1 ] [ set v0 2 ] => set v0 2 | if -1 [ set v0 1 ] [ set v0 2 ] => set v0 1
		if 1000000 [ set v0 1 ] [ set v0 2 ] => set v0 1
		if 1 [ set v0 1 ] [ - ] => set v0 1 | if 0 [ set v0 1 ] [ - ] => - | if 1 [ - ] [ set v0 2 ] => - | if 0 [ - ] [ set v0 2 ] => set v0 2
		if 1 [ - ] [ - ] => - | if 0 [ - ] [ - ] => - | if v0 [ - ] [ - ] => - | if less v0 add v1 2 [ - ] [ - ] => -
		if v0 [ set v0 1 ] [ - ] => if v0 [ set v0 1 ] [ - ] | if v0 [ - ] [ set v0 1 ] => if v0 [ - ] [ set v0 1 ]
		if v0 [ set v0 1 ] [ set v0 2 ] => if v0 [ set v0 1 ] [ set v0 2 ]
		if v0 [ set v0 1 ] [ set v0 1 ] => if v0 [ set v0 1 ] [ set v0 1 ] | if not v0 [ - ] [ set v0 1 ] => if not v0 [ - ] [ set v0 1 ]
		if v0 [ set v1 v1 ] [ - ] => - | if v0 [ - ] [ set v1 v1 ] => - | if v0 [ set v1 v1 ] [ set v2 v2 ] => -
		if v0 [ set v1 v1 ; set v1 add v1 0 ] [ while 0 [ set v0 1 ] ] => -
		if v0 [ set v1 v1 ] [ set v2 1 ] => if v0 [ - ] [ set v2 1 ] | if v0 [ set v2 1 ] [ set v1 v1 ] => if v0 [ set v2 1 ] [ - ]
		if v0 [ if v1 [ set v2 v2 ] [ - ] ] [ - ] => -
		if v0 [ if 1 [ - ] [ set v0 1 ] ] [ if 0 [ set v0 1 ] [ - ] ] => -
		if less 1 2 [ set v0 1 ] [ set v0 2 ] => set v0 1 | if sub v0 v0 [ set v0 1 ] [ set v0 2 ] => set v0 2
		if same v0 v0 [ set v0 1 ] [ set v0 2 ] => set v0 1 | if not 7 [ set v0 1 ] [ set v0 2 ] => set v0 2
		if sub 2 5 [ set v0 1 ] [ set v0 2 ] => set v0 1 | if mul v0 0 [ set v0 1 ] [ - ] => - | if and 0 i0 [ set v0 1 ] [ set v1 v1 ] => -
		if same add v0 0 v0 [ set v1 v1 ] [ set v0 1 ] => -
		if add v0 0 [ set v0 add v1 0 ] [ set o0 add 1 2 ] => if v0 [ set v0 v1 ] [ set o0 3 ] | if or v0 1 [ set v0 1 ] [ - ] => if or v0 1 [ set v0 1 ] [ - ]
		if 1 [ if 0 [ set v0 1 ] [ set v0 2 ] ] [ set v0 3 ] => set v0 2
		if 0 [ set v0 1 ] [ if 1 [ if 1 [ set v0 2 ; set v0 add v0 1 ] [ - ] ] [ - ] ] => set v0 2 ; set v0 add v0 1
		set o0 1 ; if 1 [ set v0 1 ; set v1 2 ] [ set v2 3 ] ; set o1 2 => set o0 1 ; set v0 1 ; set v1 2 ; set o1 2
		set o0 1 ; if 0 [ set v0 1 ] [ set v1 2 ; set v2 3 ] ; set o1 2 => set o0 1 ; set v1 2 ; set v2 3 ; set o1 2
		if 1 [ set v0 v0 ; set v0 1 ; set v1 v1 ] [ - ] ; set v0 2 => set v0 1 ; set v0 2
		if 1 [ while v0 [ set v0 0 ] ] [ - ] ; if 0 [ - ] [ while v1 [ set v1 0 ] ] => while v0 [ set v0 0 ] ; while v1 [ set v1 0 ]
		while v0 [ if 1 [ set v0 0 ; set v1 2 ] [ - ] ; set v2 3 ] => while v0 [ set v0 0 ; set v1 2 ; set v2 3 ]
	`)
}

// A StmtWhile whose Expr is the number 0 is nothing, whatever is in it; any other stays.
func TestSlimWhile(t *testing.T) {
	checkSlimTexts(t, `
		while 0 [ - ] => - | while 0 [ set v0 1 ] => - | while 0 [ while 1 [ - ] ] => - | while sub v0 v0 [ set o0 1 ] => - | while not 7 [ set o0 1 ] => -
		while mul 0 v0 [ - ] => - | while and v0 0 [ - ] => -
		while less v0 v0 [ set v0 1 ] => - | while less add v0 0 v0 [ set v0 1 ] => - | while less 2 1 [ - ] => - | while same 1 2 [ - ] => -
		while v0 [ - ] => while v0 [ - ] | while v0 [ set v1 v1 ] => while v0 [ - ] | while v0 [ set v0 v0 ; set v0 0 ] => while v0 [ set v0 0 ]
		while less v0 3 [ set v0 add v0 1 ] => while less v0 3 [ set v0 add v0 1 ]
		while add v0 0 [ set v0 add 0 0 ] => while v0 [ set v0 0 ] | while or v0 0 [ set v0 0 ] => while or v0 0 [ set v0 0 ]
		set v0 3 ; while v0 [ set v1 v1 ; set v0 sub v0 1 ; while 0 [ - ] ; if v2 [ - ] [ - ] ] => set v0 3 ; while v0 [ set v0 sub v0 1 ]
		while v0 [ while 0 [ set v0 1 ] ; set v0 0 ] ; while 0 [ while v0 [ set v0 0 ] ] => while v0 [ set v0 0 ]
		set v1 0 ; while less v1 3 [ set v1 add v1 1 ; set v2 0 ; while less v2 2 [ set v2 add v2 1 ; set o0 o0 ] ] => set v1 0 ; while less v1 3 [ set v1 add v1 1 ; set v2 0 ; while less v2 2 [ set v2 add v2 1 ] ]
	`)
}

// A loop that does nothing and never ends stays, as does what it takes: all the fuel, so that nothing behind it is done.
func TestSlimEndless(t *testing.T) {
	table := `
		while 1 [ - ] => while 1 [ - ] | while -1 [ - ] => while -1 [ - ] | while 2 [ set v0 v0 ] => while 2 [ - ]
		while 1000000 [ set v0 add v0 0 ] => while 1000000 [ - ]
		while not 0 [ - ] => while 1 [ - ] | while same v0 v0 [ - ] => while 1 [ - ] | while sub 2 5 [ - ] => while -3 [ - ]
		while same add v0 0 v0 [ set v1 v1 ] => while 1 [ - ]
		while 1 [ while 0 [ set v0 1 ] ] => while 1 [ - ] | while 1 [ if v0 [ - ] [ - ] ] => while 1 [ - ]
		while 1 [ if v0 [ set v1 v1 ] [ set v2 v2 ] ] => while 1 [ - ] | while 1 [ if 0 [ set v0 1 ] [ - ] ] => while 1 [ - ]
		while 1 [ while 1 [ - ] ] => while 1 [ while 1 [ - ] ] | while 1 [ while 1 [ while 1 [ while 0 [ - ] ] ] ] => while 1 [ while 1 [ while 1 [ - ] ] ]
		if 1 [ while 1 [ set v0 v0 ] ] [ - ] => while 1 [ - ]
		if 0 [ - ] [ while 1 [ - ] ] => while 1 [ - ] | if v0 [ while 1 [ - ] ] [ while 1 [ - ] ] => if v0 [ while 1 [ - ] ] [ while 1 [ - ] ]
		while 1 [ - ] ; set v0 1 => while 1 [ - ] ; set v0 1 | set v0 1 ; while 1 [ set v1 v1 ] ; set v0 2 => set v0 1 ; while 1 [ - ] ; set v0 2
		while 1 [ - ] ; while 0 [ - ] => while 1 [ - ]
		while not mul 0 v5 [ - ] => while 1 [ - ] | while 3 [ set v0 add v0 1 ] => while 3 [ set v0 add v0 1 ]
	`
	checkSlimTexts(t, table)
	texts := slices.Clone(endless)
	for text := range slimRows(t, table) {
		texts = append(texts, text)
	}
	for _, text := range texts {
		list := stmtsOf(t, text)
		got := checkSlimStmts(t, list)
		for fuel := range 101 {
			if end, left := checkSlimRun(t, impl.MemOpen(), list, got, fuel); end != 1 || left != 0 {
				t.Errorf("%q with fuel %d: %d, %d", text, fuel, end, left)
			}
		}
	}
}

// gone are statements of which nothing is left, some with much in them, and some only once that is shorter.
var gone = []string{
	"set v0 v0", "set o3 add o3 0", "while 0 [ set v0 7 ]", "while less v1 v1 [ while 1 [ - ] ]", "if v0 [ - ] [ - ]", "if i0 [ set v1 v1 ] [ while 0 [ - ] ]", "if 1 [ - ] [ set v0 8 ]", "if mul v0 0 [ set v0 9 ] [ set o0 o0 ]",
}

// stays are statements that stay as they are.
var stays = []string{"set v0 add v0 1", "set o0 v0", "while less v0 5 [ set v0 add v0 2 ]", "if v0 [ set o1 1 ] [ set o1 2 ]", "if i1 [ - ] [ set v2 3 ]", "set v1 o1"}

// checkSlimWithin checks what is left of a list, by itself and within at most so many others of each sort, L being the
// list. Of an StmtIf with nothing else nothing is left then either.
func checkSlimWithin(t *testing.T, text string, want string, most int) {
	t.Helper()
	within := []string{"if i2 [ L ] [ - ]", "if i2 [ - ] [ L ]", "while less v3 2 [ L ]", "if o2 [ L ] [ set v4 4 ]"}
	checkSlimTexts(t, text+" => "+want)
	for first := range within {
		whole, wantWhole := text, want
		for around := range most {
			sort := within[(first+around)%len(within)]
			whole, wantWhole = strings.ReplaceAll(sort, "L", whole), strings.ReplaceAll(sort, "L", wantWhole)
			if wantWhole == "if i2 [ - ] [ - ]" {
				wantWhole = "-"
			}
			list := stmtsOf(t, whole)
			got := checkSlimStmts(t, list)
			if wantStmtsText(got) != wantWhole {
				t.Errorf("SlimStmts(%q) = %q, not %q", whole, wantStmtsText(got), wantWhole)
			}
			for _, m := range memsFor() {
				checkSlimRun(t, m, list, got, 0, 1, 9)
			}
		}
	}
}

// What is taken out is the first, the last, between others, beside one another, and all: each row of five statements that
// stay or go.
func TestSlimLists(t *testing.T) {
	for row := range 1 << 5 {
		var all, kept, sets, keptSets []string
		for i := range 5 {
			all, sets = append(all, gone[(row+3*i)%len(gone)]), append(sets, gone[i%2])
			if row>>i&1 == 1 {
				all[i], sets[i] = stays[(row+i)%len(stays)], stays[i%2]
				kept, keptSets = append(kept, all[i]), append(keptSets, sets[i])
			}
		}
		if row == 0 {
			kept, keptSets = []string{"-"}, []string{"-"}
		}
		checkSlimWithin(t, strings.Join(all, " ; "), strings.Join(kept, " ; "), 2)
		checkSlimWithin(t, strings.Join(sets, " ; "), strings.Join(keptSets, " ; "), 3)
	}
	for _, one := range gone {
		for _, two := range gone {
			checkSlimTexts(t, strings.NewReplacer("A", one, "B", two).Replace("A => - | A ; B => - | set v0 1 ; A ; B ; set v0 2 => set v0 1 ; set v0 2"))
		}
	}
}

// Each sort of statement at the greatest depth, within others that are taken out, or that are not.
func TestSlimDeep(t *testing.T) {
	for _, text := range []string{
		"-", "set v0 v0", "set o3 add o3 0", "set v0 3", "while 0 [ - ]", "while less v1 v1 [ - ]", "while 1 [ - ]", "while v0 [ - ]", "if v0 [ - ] [ - ]", "if 1 [ - ] [ - ]",
		"set v0 add v0 0 ; set v0 add 1 1", "while sub v0 v0 [ - ] ; while 1 [ - ]", "if less 1 2 [ - ] [ - ] ; set o0 not not 0", "set v0 sub v0 1 ; if i0 [ - ] [ - ]",
	} {
		for around := range 4 {
			for first := range wraps {
				whole := deepest(around, first, stmtsOf(t, text))
				checkSlimFuel(t, memOf(), whole, checkSlimStmts(t, whole))
			}
		}
	}
	for first := range wraps {
		whole := deepest(3, first, stmtsOf(t, "set v0 add 1 1 ; set v1 v1"))
		if got := wantStmtsText(checkSlimStmts(t, whole)); got != "while v0 [ set v0 2 ]" {
			t.Errorf("SlimStmts(%q) = %q", wantStmtsText(whole), got)
		}
	}
	held, want := stmtsOf(t, "set v0 add 1 1 ; set v0 v0"), stmtsOf(t, "set v0 2")
	for range 2 {
		held, want = stmts(when(at(in0), held, held)), stmts(when(at(in0), want, want))
		if got := checkSlimStmts(t, held); !sameStmts(got, want) {
			t.Errorf("SlimStmts(%q) = %q", wantStmtsText(held), wantStmtsText(got))
		}
	}
}

// Promise 10: many lists, many memories, and all fuel from 0 on to more than they take.
func TestSlimStmtsMany(t *testing.T) {
	r := rand.New(rand.NewPCG(3, 10))
	var lists [][]impl.Stmt
	for _, c := range stmtsJustOk() {
		lists = append(lists, c.list)
	}
	for _, list := range runsOf() {
		lists = append(lists, list)
	}
	for i, list := range stmtsOk() {
		if i%9 == 0 {
			lists = append(lists, list)
		}
	}
	for range 1200 {
		lists = append(lists, someSlimStmts(r, 16, 3))
	}
	ends, shorter, same := [2]int{}, 0, 0
	for i, list := range lists {
		got := checkSlimStmts(t, list)
		if sameStmts(got, list) {
			same++
		} else if wantStmtsText(got) != "-" {
			shorter++
		}
		for k, m := range slimMems(r) {
			if k%3 == i%3 {
				ends[checkSlimFuel(t, m, list, got)]++
			}
		}
	}
	if shorter < 500 || same < 100 || ends[0] < 500 || ends[1] < 100 {
		t.Errorf("%d are shorter, %d are as they were; how they end: %v", shorter, same, ends)
	}
}

// Many more lists, and what they are when they are shorter alone.
func TestSlimStmtsShapes(t *testing.T) {
	r := rand.New(rand.NewPCG(4, 10))
	for _, list := range stmtsOk() {
		checkSlimStmts(t, list)
	}
	for range 6000 {
		checkSlimStmts(t, someSlimStmts(r, 16, 3))
	}
	full := 0
	for range 3000 {
		list := someSlimStmts(r, 16, 3)
		if n, deep := wantStmtsMany(list); n == 16 || deep == 3 {
			full++
		}
		checkSlimStmts(t, list)
	}
	if full < 300 {
		t.Errorf("only %d are as many, or as deep, as may be", full)
	}
}

// What can't be run can't be run when it is shorter.
func TestSlimStmtsForm(t *testing.T) {
	r := rand.New(rand.NewPCG(5, 10))
	for range 50 {
		list := someSlimStmts(r, 16, 3)
		got := checkSlimStmts(t, list)
		for _, fuel := range []int{-1, 101} {
			checkForm(t, "fuel "+strconv.Itoa(fuel), memOf(), got, fuel)
		}
		for name, m := range everyNth(memsBad(), 9) {
			checkForm(t, name, m, got, 5)
		}
	}
}

// checkSlimStmtsBad asks the functions of what is done of a list that is not ok.
func checkSlimStmtsBad(t *testing.T, name string, list []impl.Stmt) {
	t.Helper()
	if got := impl.SlimStmts(list); len(got) != 0 {
		t.Errorf("%s: SlimStmts = %v", name, got)
	}
	for _, a := range append(placesOk(), impl.Addr{}, list[0].To) {
		if impl.SlimWrites(list, a) {
			t.Errorf("%s: SlimWrites of %v", name, a)
		}
	}
}

func TestSlimStmtsBad(t *testing.T) {
	for name, list := range stmtsBad() {
		checkSlimStmtsBad(t, name, list)
	}
	for name, bad := range everyNth(stmtsBadAlone(), 3) {
		checkSlimStmtsBad(t, name+", in what is never done", stmts(set(v0, num(1)), while(num(0), bad)))
		checkSlimStmtsBad(t, name+", in an Else that is never done", stmts(set(v0, num(1)), when(num(1), nil, stmts(bad))))
	}
	for name, list := range stmtLoops() {
		checkSlimStmtsBad(t, name, list)
		checkSlimStmtsBad(t, name+", behind a set", append(flat(1), list...))
	}
	checkSlimStmtsBad(t, "too many, and would not be", slices.Repeat(stmts(set(v0, at(v0))), 17))
	checkSlimStmtsBad(t, "too deep, and would not be", deepest(4, 0, flat(1)))
}

// checkWrites asks for each place, and for what is none, of a list that is ok.
func checkWrites(t *testing.T, list []impl.Stmt) {
	t.Helper()
	for _, a := range placesOk() {
		if got, want := impl.SlimWrites(list, a), wantWrites(list, placeTexts[a.Kind-1][a.At]); got != want {
			t.Errorf("SlimWrites(%q, %v) = %v", wantStmtsText(list), a, got)
		}
	}
	for _, a := range placesBad() {
		if impl.SlimWrites(list, a) {
			t.Errorf("SlimWrites(%q, %v)", wantStmtsText(list), a)
		}
	}
}

func TestSlimWrites(t *testing.T) {
	for _, row := range []struct{ text, writes string }{
		{"-", ""}, {"set v0 1", "v0"}, {"set o5 v0", "o5"}, {"set v0 i0", "v0"}, {"set v0 add v1 o0", "v0"}, {"set v0 v0", "v0"}, {"set v0 1 ; set o0 2", "v0 o0"},
		{"if v0 [ set v1 1 ] [ - ]", "v1"}, {"if v0 [ - ] [ set v1 1 ]", "v1"}, {"if v0 [ set v1 1 ] [ set o1 1 ]", "v1 o1"}, {"while v0 [ set v2 1 ]", "v2"}, {"while v0 [ - ]", ""}, {"if v0 [ - ] [ - ]", ""},
		{"while 0 [ set v3 1 ]", "v3"}, {"if 1 [ - ] [ set v3 1 ]", "v3"}, {"if 0 [ set v3 1 ] [ - ]", "v3"}, {"while 1 [ - ] ; set v3 1", "v3"},
		{"if v0 [ while v1 [ if v2 [ set o4 v3 ] [ - ] ] ] [ - ]", "o4"}, {"if v0 [ - ] [ if v1 [ - ] [ if v2 [ - ] [ set o4 v3 ] ] ]", "o4"}, {"while v0 [ while v1 [ while v2 [ set o3 v4 ] ] ]", "o3"},
		{"if i0 [ while i1 [ set v0 i2 ] ; set v1 i3 ] [ set v2 i4 ] ; set v3 i5", "v0 v1 v2 v3"},
	} {
		list := stmtsOf(t, row.text)
		checkWrites(t, list)
		for _, a := range placesOk() {
			if got, want := impl.SlimWrites(list, a), slices.Contains(strings.Fields(row.writes), placeTexts[a.Kind-1][a.At]); got != want {
				t.Errorf("SlimWrites(%q, %v) = %v", row.text, a, got)
			}
		}
	}
	for _, list := range stmtsOk() {
		checkWrites(t, list)
	}
	r := rand.New(rand.NewPCG(6, 10))
	for range 500 {
		checkWrites(t, someSlimStmts(r, 16, 3))
	}
}

// A place that no statement sets is as it was, and what is reckoned comes to the same, whatever is at places that it does
// not read.
func TestSlimTouches(t *testing.T) {
	r := rand.New(rand.NewPCG(7, 10))
	for range 500 {
		list, e, m := someSlimStmts(r, 16, 3), someSlim(r, 14, 5), someMem(r)
		got, _, _ := impl.StmtsRun(m, list, 20)
		for _, a := range placesOk() {
			if !impl.SlimWrites(list, a) && impl.MemGet(got, a) != impl.MemGet(m, a) {
				t.Errorf("%q sets %v", wantStmtsText(list), a)
			}
			other := copyMem(m)
			(*listOf(&other, a.Kind))[a.At] = 77
			if !impl.SlimReads(e, a) && impl.ExprOf(e, other) != impl.ExprOf(e, m) {
				t.Errorf("%q reads %v", wantText(e), a)
			}
		}
	}
}

// An empty list is as good as none, spare room or not.
func TestSlimEmpty(t *testing.T) {
	for _, none := range [][]impl.Stmt{nil, {}, flat(3)[:0]} {
		if got := impl.SlimStmts(none); len(got) != 0 {
			t.Errorf("SlimStmts of none = %v", got)
		}
		if impl.SlimWrites(none, v0) {
			t.Error("SlimWrites of none")
		}
		for _, kids := range [][]impl.Expr{nil, {}, {num(3), num(4)}} {
			leaf, place := num(1), at(v0)
			leaf.Kids, place.Kids = kids[:0], kids[:0]
			w := while(leaf)
			w.Then, w.Else = none, none
			s := set(v0, place)
			s.Then, s.Else = none, none
			got := checkSlimStmts(t, stmts(s, w, when(place, none, none), when(leaf, none, none)))
			if wantStmtsText(got) != "while 1 [ - ]" {
				t.Errorf("%q", wantStmtsText(got))
			}
			if got := checkSlim(t, part(7, place, at(v0)), memsFor()); wantText(got) != "1" {
				t.Errorf("%q", wantText(got))
			}
			if !impl.SlimReads(part(3, leaf, place), v0) || impl.SlimReads(leaf, v0) {
				t.Error("SlimReads with empty lists")
			}
		}
	}
}

// slimGiven are some of what is reckoned and of what is done, much of which can be made shorter, and some that is not ok.
func slimGiven() ([]impl.Expr, [][]impl.Stmt) {
	r := rand.New(rand.NewPCG(8, 10))
	var parts []impl.Expr
	var lists [][]impl.Stmt
	for range 600 {
		parts = append(parts, someSlim(r, 14, 5), someExpr(r, 14, 5))
		lists = append(lists, someSlimStmts(r, 16, 3), someStmts(r, 16, 3))
	}
	for _, e := range everyNth(exprsBad(), 11) {
		parts = append(parts, e)
	}
	for _, list := range everyNth(stmtsBad(), 150) {
		lists = append(lists, list)
	}
	return parts, lists
}

// Nothing is written into an argument, nor behind its end, nor is what is behind it seen.
func TestSlimArgumentsStay(t *testing.T) {
	parts, lists := slimGiven()
	for _, e := range parts {
		given := roomyExpr(e)
		leaves := roomLeaves(&given)
		was := told(leaves)
		if !sameExpr(impl.SlimExpr(given), impl.SlimExpr(e)) || impl.SlimReads(given, v0) != impl.SlimReads(e, v0) {
			t.Errorf("what is behind the lists of %v counts", e)
		}
		if !slices.Equal(told(leaves), was) || !sameExpr(given, e) {
			t.Errorf("%v is %v now", e, given)
		}
	}
	for _, list := range lists {
		given := roomyStmts(list)
		leaves := roomLeaves(&given)
		was := told(leaves)
		if !sameStmts(impl.SlimStmts(given), impl.SlimStmts(list)) || impl.SlimWrites(given, v0) != impl.SlimWrites(list, v0) {
			t.Errorf("what is behind the lists of %v counts", list)
		}
		if !slices.Equal(told(leaves), was) || !sameStmts(given, list) {
			t.Errorf("%v is %v now", list, given)
		}
	}
}

// checkOwn says that two answers, and what is handed in, share no memory: not where they lie, and not by writing.
func checkOwn[T any](t *testing.T, given T, slim func(T) T, same func(T, T) bool) {
	t.Helper()
	was, want := told(roomLeaves(&given)), slim(given)
	one, two := slim(given), slim(given)
	if !apart(&given, &one, &two) {
		t.Fatalf("%v: lists of answers share memory, or share it with the argument", given)
	}
	spoil(&one)
	if !slices.Equal(told(roomLeaves(&given)), was) || !same(two, want) || !same(slim(given), want) {
		t.Fatalf("%v: writing into an answer turned the argument, or another answer", given)
	}
	spoil(&given)
	if !same(two, want) {
		t.Fatalf("writing into the argument turned the answer: %v, not %v", two, want)
	}
}

// All that is answered is new memory: kids, Then and Else at every depth among them, spare room included.
func TestSlimAnswersAreNew(t *testing.T) {
	parts, lists := slimGiven()
	for _, e := range parts {
		checkOwn(t, roomyExpr(e), impl.SlimExpr, sameExpr)
	}
	for _, list := range lists {
		checkOwn(t, roomyStmts(list), impl.SlimStmts, sameStmts)
	}
	for _, text := range []string{
		"or add v0 1 not v1", "add or v0 v1 0", "add 0 or v0 v1", "mul 1 or v0 v1", "sub or v0 v1 0", "not not v0", "or add or v0 v1 0 mul 1 or v0 v1",
	} {
		checkOwn(t, roomyExpr(exprOf(t, text)), impl.SlimExpr, sameExpr)
		for _, list := range []string{
			"set v0 E", "if E [ set v0 E ] [ set v1 E ]", "while E [ set v0 E ]", "if 1 [ set v0 E ; set v1 1 ] [ - ]", "if 0 [ - ] [ set v0 E ; while E [ set v1 E ] ]", "if 1 [ if v0 [ set v0 E ] [ set v1 1 ] ] [ - ]",
		} {
			checkOwn(t, roomyStmts(stmtsOf(t, strings.ReplaceAll(list, "E", text))), impl.SlimStmts, sameStmts)
		}
	}
}

// No two lists of one answer share any, not even of arguments whose lists are one.
func TestSlimListsApart(t *testing.T) {
	kids := []impl.Expr{at(v0), at(v1)}
	two := impl.Expr{Kind: 9, Kids: kids}
	parts := []impl.Expr{part(3, two, two), part(9, part(3, two, num(0)), part(5, num(1), two)), part(8, part(10, two), part(10, two))}
	for _, e := range parts {
		if got := checkSlim(t, e, memsFor()); !apart(&got, &kids) || wantText(got) == wantText(two) {
			t.Errorf("two lists of %q share memory", wantText(got))
		}
	}
	held := stmts(set(v0, two), set(v2, at(v2)))
	both := when(two, held, held)
	var got, was [][]impl.Stmt
	for i, list := range [][]impl.Stmt{
		stmts(both, both), stmts(when(num(1), held, nil), when(num(0), nil, held), while(two, held...)), stmts(when(num(1), stmts(both), nil), both), stmts(set(v0, parts[0]), set(v1, parts[0])),
		stmts(when(two, stmts(when(num(1), held, held)), stmts(when(num(0), held, held)))), held,
	} {
		got = append(got, checkSlimStmts(t, list))
		was = append(was, copyStmts(got[i]))
		if !apart(&got[i]) || !apart(&got[i], &kids) {
			t.Errorf("two lists of %q share memory", wantStmtsText(got[i]))
		}
	}
	if wantStmtsText(held) != "set v0 or v0 v1 ; set v2 v2" {
		t.Errorf("%q", wantStmtsText(held))
	}
	spoil(&held)
	for i := range got {
		if !sameStmts(got[i], was[i]) {
			t.Errorf("writing into a list that is handed in turned %q", wantStmtsText(was[i]))
		}
	}
}
