package tests

import (
	"maps"
	"math"
	"math/rand/v2"
	"slices"
	"strconv"
	"strings"
	"testing"

	"loop.example/stopgate/impl"
)

var (
	in0 = impl.Addr{Kind: 1, At: 0}
	o0  = impl.Addr{Kind: 2, At: 0}
	o5  = impl.Addr{Kind: 2, At: 5}
	v0  = impl.Addr{Kind: 3, At: 0}
	v1  = impl.Addr{Kind: 3, At: 1}
	v2  = impl.Addr{Kind: 3, At: 2}
)

func set(to impl.Addr, e impl.Expr) impl.Stmt { return impl.Stmt{Kind: 1, To: to, Expr: e} }

func when(e impl.Expr, then []impl.Stmt, other []impl.Stmt) impl.Stmt {
	return impl.Stmt{Kind: 2, Expr: e, Then: then, Else: other}
}

func while(e impl.Expr, then ...impl.Stmt) impl.Stmt {
	return impl.Stmt{Kind: 3, Expr: e, Then: append([]impl.Stmt(nil), then...)}
}

func stmts(list ...impl.Stmt) []impl.Stmt { return append([]impl.Stmt(nil), list...) }

// more sets a place to one more than it is.
func more(a impl.Addr) impl.Stmt { return set(a, part(3, at(a), num(1))) }

// below is whether a place is less than a number.
func below(a impl.Addr, n int) impl.Expr { return part(6, at(a), num(n)) }

// flat is as many statements beside one another.
func flat(many int) []impl.Stmt {
	var out []impl.Stmt
	for i := range many {
		out = append(out, set(placesOk()[6+i%12], num(i)))
	}
	return out
}

// wraps are the ways to have a list within a statement.
var wraps = []func(list []impl.Stmt) impl.Stmt{
	func(list []impl.Stmt) impl.Stmt { return when(num(1), list, nil) },
	func(list []impl.Stmt) impl.Stmt { return when(num(0), nil, list) },
	func(list []impl.Stmt) impl.Stmt { return while(at(v0), list...) },
}

// deepest is a list within as many statements, each of the next way of wraps.
func deepest(around int, first int, list []impl.Stmt) []impl.Stmt {
	for i := range around {
		list = stmts(wraps[(first+i)%len(wraps)](list))
	}
	return list
}

// sameStmts says whether two lists are the same in all parts, told apart from the program; both must end.
func sameStmts(a []impl.Stmt, b []impl.Stmt) bool {
	return slices.EqualFunc(a, b, func(x impl.Stmt, y impl.Stmt) bool {
		return x.Kind == y.Kind && x.To == y.To && sameExpr(x.Expr, y.Expr) && sameStmts(x.Then, y.Then) && sameStmts(x.Else, y.Else)
	})
}

// copyStmts is the same, with lists of its own, told apart from the program.
func copyStmts(list []impl.Stmt) []impl.Stmt {
	out := make([]impl.Stmt, len(list))
	for i, s := range list {
		s.Expr, s.Then, s.Else = copyExpr(s.Expr), copyStmts(s.Then), copyStmts(s.Else)
		out[i] = s
	}
	return out
}

// wantStmtsMany is how many there are, and within how many others the deepest one is; -1, if there is none.
func wantStmtsMany(list []impl.Stmt) (int, int) {
	many, deep := 0, -1
	for _, s := range list {
		deep = max(deep, 0)
		for _, within := range [][]impl.Stmt{s.Then, s.Else} {
			n, d := wantStmtsMany(within)
			many, deep = many+n, max(deep, d+1)
		}
		many++
	}
	return many, deep
}

// wantStmtsText is the text of a list that is ok, told apart from the program.
func wantStmtsText(list []impl.Stmt) string {
	if len(list) == 0 {
		return "-"
	}
	text := ""
	for i, s := range list {
		if i > 0 {
			text += " ; "
		}
		switch s.Kind {
		case 1:
			text += "set " + placeTexts[s.To.Kind-1][s.To.At] + " " + wantText(s.Expr)
		case 2:
			text += "if " + wantText(s.Expr) + " [ " + wantStmtsText(s.Then) + " ] [ " + wantStmtsText(s.Else) + " ]"
		case 3:
			text += "while " + wantText(s.Expr) + " [ " + wantStmtsText(s.Then) + " ]"
		}
	}
	return text
}

// wantRun does a list that is ok, of a memory that is, told apart from the program: what is to be done yet is one list,
// the next one first, in which a statement of Kind -3 takes the fuel of the loop that it is.
func wantRun(m impl.Mem, list []impl.Stmt, fuel int) (impl.Mem, int, int) {
	m = copyMem(m)
	todo := slices.Clone(list)
	for len(todo) > 0 {
		s := todo[0]
		todo = todo[1:]
		if s.Kind == -3 {
			if fuel == 0 {
				return m, 1, 0
			}
			fuel--
			s.Kind = 3
		}
		is := wantOf(s.Expr, m)
		switch {
		case s.Kind == 1:
			(*listOf(&m, s.To.Kind))[s.To.At] = is
		case s.Kind == 2 && is != 0:
			todo = slices.Concat(s.Then, todo)
		case s.Kind == 2:
			todo = slices.Concat(s.Else, todo)
		case s.Kind == 3 && is != 0:
			back := s
			back.Kind = -3
			todo = slices.Concat(s.Then, stmts(back), todo)
		}
	}
	return m, 0, fuel
}

// someStmts is a list that is ok, of at most so many statements, with at most so many around its deepest one.
func someStmts(r *rand.Rand, many int, deep int) []impl.Stmt {
	var out []impl.Stmt
	for many > 0 && r.IntN(5) > 0 {
		s := someStmt(r, many, deep)
		n, _ := wantStmtsMany(stmts(s))
		many -= n
		out = append(out, s)
	}
	return out
}

// someStmt is a statement, with at most so many, with itself; one that has lists may well end by itself.
func someStmt(r *rand.Rand, many int, deep int) impl.Stmt {
	e := someExpr(r, 1+r.IntN(14), r.IntN(6))
	to := placesOk()[6+r.IntN(12)]
	if deep == 0 {
		return []impl.Stmt{set(to, e), more(to), while(e), when(e, nil, nil)}[r.IntN(4)]
	}
	switch r.IntN(5) {
	case 0:
		return set(to, e)
	case 1:
		return more(to)
	case 2:
		then := someStmts(r, r.IntN(many), deep-1)
		n, _ := wantStmtsMany(then)
		return when(e, then, someStmts(r, r.IntN(many-n), deep-1))
	case 3:
		return while(e, someStmts(r, r.IntN(many), deep-1)...)
	}
	if many == 1 {
		return while(below(to, r.IntN(9)))
	}
	return while(below(to, r.IntN(9)), append(someStmts(r, r.IntN(many-1), deep-1), more(to))...)
}

// sizedStmts is a list, with how many there are, and within how many others the deepest one is.
type sizedStmts struct {
	many, deep int
	list       []impl.Stmt
}

// stmtsJustOk are those with as many statements, or with one within as many others, as there may be, or both.
func stmtsJustOk() []sizedStmts {
	out := []sizedStmts{
		{16, 0, flat(16)},
		{16, 1, append(flat(14), wraps[0](flat(1)))},
		{16, 1, append(stmts(when(num(1), flat(5), flat(5))), flat(5)...)},
		{16, 1, slices.Repeat(stmts(wraps[1](flat(1))), 8)},
		{16, 2, stmts(while(num(0), when(num(1), flat(7), flat(7))))},
		{16, 3, slices.Repeat(deepest(3, 0, flat(1)), 4)},
		{16, 3, append(deepest(3, 1, flat(8)), flat(5)...)},
		{16, 3, slices.Concat(flat(3), deepest(3, 2, flat(1)), flat(9))},
	}
	for first := range wraps {
		out = append(out,
			sizedStmts{16, 1, stmts(wraps[first](flat(15)))},
			sizedStmts{16, 3, deepest(3, first, flat(13))},
			sizedStmts{4, 3, deepest(3, first, flat(1))},
			sizedStmts{4, 3, deepest(4, first, nil)},
			sizedStmts{16, 3, deepest(3, first, slices.Repeat(stmts(while(num(1))), 13))})
		for second := range wraps {
			out = append(out, sizedStmts{4, 3, stmts(wraps[first](stmts(wraps[second](stmts(wraps[second](flat(1)))))))})
		}
	}
	return out
}

// stmtsTooMuch are those with one statement, or one other around a statement, too many, or more, and all else as it
// must be.
func stmtsTooMuch() []sizedStmts {
	out := []sizedStmts{
		{17, 0, flat(17)},
		{17, 1, append(flat(15), wraps[0](flat(1)))},
		{17, 1, append(stmts(wraps[0](flat(1))), flat(15)...)},
		{17, 1, append(stmts(when(num(1), flat(5), flat(6))), flat(5)...)},
		{17, 1, stmts(when(num(1), flat(8), flat(8)))},
		{17, 2, stmts(while(num(0), when(num(1), flat(7), flat(8))))},
		{17, 3, append(slices.Repeat(deepest(3, 0, flat(1)), 4), flat(1)...)},
		{18, 0, flat(18)},
		{32, 0, flat(32)},
		{300, 0, flat(300)},
		{17, 4, append(deepest(4, 1, flat(8)), flat(5)...)},
		{16, 4, append(flat(11), deepest(4, 1, flat(1))...)},
	}
	for first := range wraps {
		out = append(out,
			sizedStmts{17, 1, stmts(wraps[first](flat(16)))},
			sizedStmts{17, 3, deepest(3, first, flat(14))},
			sizedStmts{5, 4, deepest(4, first, flat(1))},
			sizedStmts{5, 4, deepest(5, first, nil)},
			sizedStmts{6, 5, deepest(5, first, flat(1))},
			sizedStmts{300, 299, deepest(300, first, nil)})
		for second := range wraps {
			out = append(out, sizedStmts{5, 4, stmts(wraps[first](stmts(wraps[second](stmts(wraps[first](stmts(wraps[second](flat(1)))))))))})
		}
	}
	return out
}

// stmtsOk are many that are ok: none, each kind with each expression, what just fits, and some more.
func stmtsOk() [][]impl.Stmt {
	out := [][]impl.Stmt{nil}
	for _, a := range placesOk()[6:] {
		out = append(out, stmts(set(a, num(-1))))
	}
	for _, e := range exprsOk()[:150] {
		out = append(out, stmts(set(o5, e)), stmts(when(e, nil, nil)), stmts(while(e)))
		out = append(out, stmts(when(e, stmts(set(v0, e)), stmts(set(v1, e))), while(e, set(v2, e))))
	}
	for _, c := range exprsJustOk() {
		out = append(out, stmts(while(c.e, set(o0, c.e), when(c.e, nil, nil))))
	}
	for _, c := range stmtsJustOk() {
		out = append(out, c.list)
	}
	r := rand.New(rand.NewPCG(4, 16))
	for range 1500 {
		out = append(out, someStmts(r, 16, 3))
	}
	return out
}

// stmtsBadAlone are statements that are not ok by themselves, each by one thing alone where that can be.
func stmtsBadAlone() map[string]impl.Stmt {
	out := map[string]impl.Stmt{"nothing": {}}
	for _, kind := range []int{0, 4, 5, 256 + 1, -1, -2, -3, math.MinInt, math.MaxInt} {
		name := "kind " + strconv.Itoa(kind)
		out[name] = impl.Stmt{Kind: kind, Expr: num(1)}
		out[name+" with a place"] = impl.Stmt{Kind: kind, To: v0, Expr: num(1)}
		out[name+" with a list"] = impl.Stmt{Kind: kind, Expr: num(1), Then: flat(1)}
		out[name+" with lists"] = impl.Stmt{Kind: kind, Expr: num(1), Then: flat(1), Else: flat(1)}
	}
	for i, a := range placesBad() {
		out["set at no place "+strconv.Itoa(i)] = set(a, num(1))
	}
	for i := range 6 {
		out["set where something comes in "+strconv.Itoa(i)] = set(placesOk()[i], num(1))
	}
	for i, a := range append(placesOk(), placesBad()...) {
		if a != (impl.Addr{}) {
			s, w := when(num(1), flat(1), flat(1)), while(num(1), flat(1)...)
			s.To, w.To = a, a
			out["if with a place "+strconv.Itoa(i)], out["while with a place "+strconv.Itoa(i)] = s, w
		}
	}
	for name, e := range exprsBad() {
		out["set to "+name] = set(v0, e)
		out["if "+name] = when(e, flat(1), flat(1))
		out["while "+name] = while(e, flat(1)...)
	}
	for name, list := range map[string][]impl.Stmt{"something": flat(1), "nothing": make([]impl.Stmt, 1), "much": flat(40)} {
		s, both, w := set(v0, num(1)), set(v0, num(1)), while(num(1))
		s.Then, w.Else = list, list
		both.Then, both.Else = list, list
		out["set with "+name+" in Then"], out["set with "+name+" in both"], out["while with "+name+" in Else"] = s, both, w
		s.Then, s.Else = nil, list
		out["set with "+name+" in Else"] = s
	}
	return out
}

// stmtsBad are lists that are not ok: of one that is not, beside others and within others.
func stmtsBad() map[string][]impl.Stmt {
	out := map[string][]impl.Stmt{}
	for i, c := range stmtsTooMuch() {
		out["too much, "+strconv.Itoa(i)] = c.list
	}
	for name, bad := range stmtsBadAlone() {
		out[name] = stmts(bad)
		out[name+", first"] = append(stmts(bad), flat(2)...)
		out[name+", last"] = append(flat(15), bad)
		for i, wrap := range wraps {
			out[name+", within, "+strconv.Itoa(i)] = stmts(wrap(stmts(bad)))
			out[name+", last within, "+strconv.Itoa(i)] = stmts(wrap(append(flat(2), bad)), set(v0, num(1)))
		}
		if len(bad.Then)+len(bad.Else) == 0 {
			out[name+", deep inside"] = append(flat(1), deepest(3, 1, append(flat(1), bad))...)
		}
	}
	return out
}

// stmtLoops are lists that hold themselves, and so never end.
func stmtLoops() map[string][]impl.Stmt {
	out := map[string][]impl.Stmt{}
	for _, kind := range []int{0, 1, 2, 3, 4} {
		name := ", kind " + strconv.Itoa(kind)
		then := slices.Repeat(stmts(impl.Stmt{Kind: kind, Expr: num(1)}), 2)
		then[0].Then = then
		out["in the first's Then"+name] = then
		other := slices.Repeat(stmts(impl.Stmt{Kind: kind, Expr: num(1)}), 2)
		other[1].Else = other
		out["in the last's Else"+name] = other
		all := slices.Repeat(stmts(impl.Stmt{Kind: kind, Expr: num(1)}), 3)
		for i := range all {
			all[i].Then, all[i].Else = all, all
		}
		out["in all"+name] = all
	}
	one := stmts(while(num(1)))
	one[0].Then = one
	out["a while of itself"] = one
	two := stmts(while(num(1)), while(num(1)))
	two[0].Then, two[1].Then = two[1:], two[:1]
	out["whiles of each other"] = two[:1]
	return out
}

func TestStmtNames(t *testing.T) {
	names := []int{impl.StmtSet, impl.StmtIf, impl.StmtWhile, impl.RunFine, impl.RunLong, impl.RunForm, impl.StmtSize, impl.StmtDeep, impl.RunFuel}
	if !slices.Equal(names, []int{1, 2, 3, 0, 1, 2, 16, 4, 100}) {
		t.Error(names)
	}
}

// checkStmts asks all functions of a list that is ok, what it does aside.
func checkStmts(t *testing.T, list []impl.Stmt) {
	t.Helper()
	text := wantStmtsText(list)
	many, _ := wantStmtsMany(list)
	if !impl.StmtsOk(list) {
		t.Errorf("StmtsOk(%q) = false", text)
	}
	if got := impl.StmtsMany(list); got != many {
		t.Errorf("StmtsMany(%q) = %d, not %d", text, got, many)
	}
	if got := impl.StmtsText(list); got != text {
		t.Errorf("StmtsText = %q, not %q", got, text)
	}
	if got, ok := impl.StmtsRead(text); !ok || !sameStmts(got, list) {
		t.Errorf("StmtsRead(%q) = %v, %v", text, got, ok)
	}
	if !impl.StmtsSame(list, copyStmts(list)) {
		t.Errorf("StmtsSame(%q) = false", text)
	}
}

// Promise 4: what is done is read from its text as it was.
func TestStmtsReadAsWritten(t *testing.T) {
	for _, list := range stmtsOk() {
		checkStmts(t, list)
	}
}

func TestStmtsTexts(t *testing.T) {
	for text, list := range map[string][]impl.Stmt{
		"-":                       nil,
		"set v0 1":                stmts(set(v0, num(1))),
		"set o5 add o5 -1":        stmts(set(o5, part(3, at(o5), num(-1)))),
		"set v0 i0 ; set v1 v0":   stmts(set(v0, at(in0)), set(v1, at(v0))),
		"if i0 [ - ] [ - ]":       stmts(when(at(in0), nil, nil)),
		"if 1 [ set v0 2 ] [ - ]": stmts(when(num(1), stmts(set(v0, num(2))), nil)),
		"if 1 [ - ] [ set v0 2 ]": stmts(when(num(1), nil, stmts(set(v0, num(2))))),
		"if not 0 [ set v0 1 ] [ set v0 2 ; set v1 3 ]": stmts(when(part(10, num(0)), stmts(set(v0, num(1))), stmts(set(v0, num(2)), set(v1, num(3))))),
		"while 1 [ - ]":                                           stmts(while(num(1))),
		"while less v0 5 [ set v0 add v0 1 ]":                     stmts(while(below(v0, 5), more(v0))),
		"while 1 [ while 2 [ - ] ; while 3 [ - ] ]":               stmts(while(num(1), while(num(2)), while(num(3)))),
		"while 1 [ while 2 [ - ] ] ; while 3 [ - ]":               stmts(while(num(1), while(num(2))), while(num(3))),
		"if 1 [ if 2 [ - ] [ set v0 1 ] ] [ - ]":                  stmts(when(num(1), stmts(when(num(2), nil, stmts(set(v0, num(1))))), nil)),
		"if 1 [ if 2 [ - ] [ - ] ] [ set v0 1 ]":                  stmts(when(num(1), stmts(when(num(2), nil, nil)), stmts(set(v0, num(1))))),
		"if 1 [ - ] [ if 2 [ set v0 1 ] [ - ] ]":                  stmts(when(num(1), nil, stmts(when(num(2), stmts(set(v0, num(1))), nil)))),
		"while 1 [ if 2 [ while 3 [ set o0 4 ] ] [ - ] ]":         stmts(while(num(1), when(num(2), stmts(while(num(3), set(o0, num(4)))), nil))),
		"if 1 [ - ] [ - ] ; set v0 -7 ; while 0 [ - ]":            stmts(when(num(1), nil, nil), set(v0, num(-7)), while(num(0))),
		"if 0 [ while 0 [ if 0 [ while 0 [ - ] ] [ - ] ] ] [ - ]": stmts(when(num(0), stmts(while(num(0), when(num(0), stmts(while(num(0))), nil))), nil)),
	} {
		if wantStmtsText(list) != text {
			t.Errorf("%q, not %q", wantStmtsText(list), text)
		}
		checkStmts(t, list)
	}
}

// A list of none in every place where one can stand: one list of none is as good as another.
func TestStmtsOfNone(t *testing.T) {
	nones := [][]impl.Stmt{nil, {}, flat(3)[:0]}
	for _, none := range nones {
		checkStmts(t, none)
		if got, ok := impl.StmtsRead("-"); !ok || len(got) != 0 {
			t.Errorf("StmtsRead(-) = %v, %v", got, ok)
		}
		m, code, left := impl.StmtsRun(memOf(), none, 7)
		if !sameMem(m, memOf()) || code != 0 || left != 7 {
			t.Errorf("none does something: %v, %d, %d", m, code, left)
		}
		for _, other := range nones {
			s := set(v0, impl.Expr{Kind: 1, N: 4, Kids: []impl.Expr{}})
			s.Then, s.Else = none, other
			w := while(num(1))
			w.Then, w.Else = none, other
			for around := range 4 {
				for first := range wraps {
					checkStmts(t, deepest(around, first, stmts(s, w, when(num(1), none, other))))
					checkStmts(t, deepest(around, first, stmts(when(num(1), none, other), s)))
				}
			}
			if !impl.StmtsSame(none, other) || !impl.StmtsSame(stmts(s, w), stmts(set(v0, num(4)), while(num(1)))) {
				t.Error("the empty list is not the same as the nil list")
			}
		}
	}
}

// checkStmtsBad asks all functions of a list that is not ok.
func checkStmtsBad(t *testing.T, name string, list []impl.Stmt) {
	t.Helper()
	if impl.StmtsOk(list) {
		t.Errorf("StmtsOk = true: %s", name)
	}
	if got := impl.StmtsMany(list); got != 0 {
		t.Errorf("StmtsMany = %d: %s", got, name)
	}
	if got := impl.StmtsText(list); got != "" {
		t.Errorf("StmtsText = %q: %s", got, name)
	}
	for _, fuel := range []int{0, 50, 100} {
		checkForm(t, name, memOf(), list, fuel)
	}
	checkForm(t, name, impl.Mem{}, list, 101)
}

// checkForm asks for the answer to what can't be run.
func checkForm(t *testing.T, name string, m impl.Mem, list []impl.Stmt, fuel int) {
	t.Helper()
	if got, code, left := impl.StmtsRun(m, list, fuel); !isNothing(got) || code != 2 || left != 0 {
		t.Errorf("StmtsRun = %v, %d, %d with fuel %d: %s", got, code, left, fuel, name)
	}
}

func TestStmtsBad(t *testing.T) {
	for name, list := range stmtsBad() {
		checkStmtsBad(t, name, list)
	}
	for name, list := range stmtLoops() {
		checkStmtsBad(t, name, list)
	}
	for name, e := range loops() {
		checkStmtsBad(t, "set to: "+name, stmts(set(v0, e)))
		checkStmtsBad(t, "while: "+name, append(flat(1), while(num(1), while(e))))
	}
	checkStmtsBad(t, "more than can be gone through", make([]impl.Stmt, 1<<20))
	checkStmtsBad(t, "many that are ok by themselves", slices.Repeat(flat(1), 1<<20))
	checkStmtsBad(t, "far too deep", deepest(1<<17, 0, nil))
}

// checkStmtsSize holds against each other what is said of a size, and what it is.
func checkStmtsSize(t *testing.T, c sizedStmts) {
	t.Helper()
	if many, deep := wantStmtsMany(c.list); many != c.many || deep != c.deep {
		t.Errorf("%d statements, %d around, not %d, %d: %q", many, deep, c.many, c.deep, wantStmtsText(c.list))
	}
}

// What just fits is ok; with one statement more, or one other more around a statement, each by itself, it is not.
func TestStmtsBounds(t *testing.T) {
	for _, c := range stmtsJustOk() {
		checkStmtsSize(t, c)
		checkStmts(t, c.list)
		checkRun(t, memOf(), c.list, 100)
	}
	for _, c := range stmtsTooMuch() {
		checkStmtsSize(t, c)
		checkStmtsBad(t, wantStmtsText(c.list), c.list)
		if got, ok := impl.StmtsRead(wantStmtsText(c.list)); ok || len(got) != 0 {
			t.Errorf("StmtsRead(%q) = %v, %v", wantStmtsText(c.list), got, ok)
		}
	}
}

// checkRun holds what a list does against what it means. Promise 4: it always ends, and within its fuel.
func checkRun(t *testing.T, m impl.Mem, list []impl.Stmt, fuel int) (impl.Mem, int, int) {
	t.Helper()
	was := copyMem(m)
	got, code, left := impl.StmtsRun(m, list, fuel)
	want, wantCode, wantLeft := wantRun(m, list, fuel)
	if !sameMem(got, want) || code != wantCode || left != wantLeft {
		t.Errorf("%q with fuel %d of %v: %v, %d, %d, not %v, %d, %d", wantStmtsText(list), fuel, m, got, code, left, want, wantCode, wantLeft)
	}
	if !impl.MemOk(got) || left < 0 || left > fuel || !slices.Equal(got.In, was.In) || !sameMem(m, was) {
		t.Errorf("%q with fuel %d of %v: %v, %d, %d", wantStmtsText(list), fuel, was, got, code, left)
	}
	return got, code, left
}

// What some do, written out: v0 and v1 ahead, fuel, and v0, v1, the code and the fuel that is left behind it.
func TestStmtsRunTable(t *testing.T) {
	for _, c := range []struct {
		text               string
		a, b, fuel         int
		wantA, wantB       int
		wantCode, wantLeft int
	}{
		{"-", 3, 4, 0, 3, 4, 0, 0},
		{"-", 3, 4, 100, 3, 4, 0, 100},
		{"set v0 7", 3, 4, 0, 7, 4, 0, 0},
		{"set v0 7", 3, 4, 9, 7, 4, 0, 9},
		{"set v0 v1 ; set v1 v0", 3, 4, 0, 4, 4, 0, 0},
		{"set v1 v0 ; set v0 v1", 3, 4, 0, 3, 3, 0, 0},
		{"set v0 add v0 v0", 600000, 4, 0, 1000000, 4, 0, 0},
		{"set v0 sub v0 2", -999999, 4, 0, -1000000, 4, 0, 0},
		{"if v0 [ set v1 1 ] [ set v1 2 ]", 3, 4, 0, 3, 1, 0, 0},
		{"if v0 [ set v1 1 ] [ set v1 2 ]", -3, 4, 0, -3, 1, 0, 0},
		{"if v0 [ set v1 1 ] [ set v1 2 ]", 0, 4, 0, 0, 2, 0, 0},
		{"if v0 [ set v0 0 ; set v1 1 ] [ set v1 2 ]", 3, 4, 5, 0, 1, 0, 5},
		{"if v0 [ - ] [ set v1 2 ]", 3, 4, 5, 3, 4, 0, 5},
		{"if v0 [ set v1 2 ] [ - ]", 0, 4, 5, 0, 4, 0, 5},
		{"while v0 [ - ]", 0, 4, 0, 0, 4, 0, 0},
		{"while v0 [ - ]", 0, 4, 100, 0, 4, 0, 100},
		{"while v0 [ - ]", 1, 4, 0, 1, 4, 1, 0},
		{"while v0 [ - ]", -1, 4, 100, -1, 4, 1, 0},
		{"while v0 [ set v0 0 ]", 5, 4, 1, 0, 4, 0, 0},
		{"while v0 [ set v0 0 ]", 5, 4, 0, 0, 4, 1, 0},
		{"while v0 [ set v0 sub v0 1 ; set v1 add v1 2 ]", 3, 0, 4, 0, 6, 0, 1},
		{"while v0 [ set v0 sub v0 1 ; set v1 add v1 2 ]", 3, 0, 3, 0, 6, 0, 0},
		{"while v0 [ set v0 sub v0 1 ; set v1 add v1 2 ]", 3, 0, 2, 0, 6, 1, 0},
		{"while v0 [ set v0 sub v0 1 ; set v1 add v1 2 ]", 3, 0, 1, 1, 4, 1, 0},
		{"while v0 [ set v0 sub v0 1 ; set v1 add v1 2 ]", 3, 0, 0, 2, 2, 1, 0},
		{"while v0 [ set v0 0 ] ; set v1 9", 3, 4, 1, 0, 9, 0, 0},
		{"while v0 [ set v0 0 ] ; set v1 9", 3, 4, 0, 0, 4, 1, 0},
		{"while v0 [ set v0 0 ] ; while v1 [ set v1 0 ]", 1, 1, 2, 0, 0, 0, 0},
		{"while v0 [ set v0 0 ] ; while v1 [ set v1 0 ]", 1, 1, 1, 0, 0, 1, 0},
		{"while v0 [ set v0 0 ] ; while v1 [ set v1 0 ]", 1, 1, 0, 0, 1, 1, 0},
		{"while v0 [ set v1 3 ; while v1 [ set v1 sub v1 1 ] ; set v0 sub v0 1 ]", 2, 0, 8, 0, 0, 0, 0},
		{"while v0 [ set v1 3 ; while v1 [ set v1 sub v1 1 ] ; set v0 sub v0 1 ]", 2, 0, 7, 0, 0, 1, 0},
		{"while v0 [ set v1 3 ; while v1 [ set v1 sub v1 1 ] ; set v0 sub v0 1 ]", 2, 0, 6, 1, 0, 1, 0},
		{"while v0 [ set v1 3 ; while v1 [ set v1 sub v1 1 ] ; set v0 sub v0 1 ]", 2, 0, 5, 1, 1, 1, 0},
		{"while v0 [ set v1 3 ; while v1 [ set v1 sub v1 1 ] ; set v0 sub v0 1 ]", 2, 0, 4, 1, 2, 1, 0},
		{"while v0 [ set v1 3 ; while v1 [ set v1 sub v1 1 ] ; set v0 sub v0 1 ]", 2, 0, 3, 1, 0, 1, 0},
		{"if 1 [ while 1 [ set v1 5 ] ; set v0 9 ] [ - ] ; set v0 8", 3, 4, 2, 3, 5, 1, 0},
		{"if 0 [ - ] [ while 1 [ set v1 5 ] ; set v0 9 ] ; set v0 8", 3, 4, 2, 3, 5, 1, 0},
	} {
		list, ok := impl.StmtsRead(c.text)
		m := impl.MemOpen()
		m.Var[0], m.Var[1] = c.a, c.b
		got, code, left := impl.StmtsRun(m, list, c.fuel)
		m.Var[0], m.Var[1] = c.wantA, c.wantB
		if !ok || !sameMem(got, m) || code != c.wantCode || left != c.wantLeft {
			t.Errorf("%q of %d, %d with fuel %d: %v, %d, %d", c.text, c.a, c.b, c.fuel, got, code, left)
		}
		checkRun(t, m, list, c.fuel)
	}
}

// Each place that can be set is, to what each kind of expression comes to, and no other one is turned.
func TestStmtsRunSet(t *testing.T) {
	for _, to := range placesOk()[6:] {
		for _, e := range append(exprsOk()[:120], num(1000000), at(to), part(5, at(to), num(-1000000))) {
			want := memOf()
			(*listOf(&want, to.Kind))[to.At] = wantOf(e, memOf())
			if got, code, left := impl.StmtsRun(memOf(), stmts(set(to, e)), 3); !sameMem(got, want) || code != 0 || left != 3 {
				t.Errorf("set %v %q: %v, %d, %d", to, wantText(e), got, code, left)
			}
		}
	}
}

// endless are loops that never end by themselves, some of which do nothing.
var endless = []string{
	"while 1 [ - ]", "while -1 [ - ]", "while not v5 [ - ]", "while same v0 v0 [ - ]", "while less v0 1000000 [ - ]",
	"while 1 [ set v0 v0 ]", "while 1 [ set v1 0 ]", "while 1 [ set v0 add v0 1 ]", "while not 0 [ set o0 sub o0 1000 ]",
	"while 1 [ while 0 [ - ] ]", "while 1 [ while 1 [ - ] ]", "while 1 [ while 1 [ while 1 [ while 1 [ - ] ] ] ]", "while 1 [ while 1 [ while 1 [ while 0 [ - ] ] ] ]",
	"while 1 [ if v0 [ - ] [ - ] ]", "while 1 [ if v0 [ set v0 0 ] [ set v0 1 ] ]", "if 1 [ while 1 [ - ] ] [ - ]", "if 0 [ - ] [ while 1 [ - ] ]",
	"while 0 [ - ] ; while 1 [ - ]", "set v0 2 ; while v0 [ set v0 sub v0 1 ] ; while 1 [ set o1 add o1 v0 ]",
	"while 1 [ set v0 0 ; while less v0 3 [ set v0 add v0 1 ; set o0 add o0 1 ] ; set o1 add o1 1 ]",
	"while 1 [ if less v0 7 [ set v0 add v0 1 ; while same v0 7 [ set o0 add o0 1 ] ] [ - ] ]",
}

// Promise 4: it always ends, also what never ends by itself, with every fuel that there may be.
func TestStmtsEndless(t *testing.T) {
	for _, text := range endless {
		list, ok := impl.StmtsRead(text)
		if !ok {
			t.Fatalf("%q", text)
		}
		for fuel := range 101 {
			if _, code, left := checkRun(t, impl.MemOpen(), list, fuel); code != 1 || left != 0 {
				t.Errorf("%q with fuel %d: %d, %d", text, fuel, code, left)
			}
		}
	}
}

// A loop without end is gone through once more than there is fuel: the last Then is done ahead of fuel being asked for.
func TestStmtsEndlessCounts(t *testing.T) {
	for fuel := range 101 {
		m, code, left := impl.StmtsRun(impl.MemOpen(), stmts(while(num(1), more(v0)), more(v1)), fuel)
		want := impl.MemOpen()
		want.Var[0] = fuel + 1
		if !sameMem(m, want) || code != 1 || left != 0 {
			t.Errorf("fuel %d: %v, %d, %d", fuel, m, code, left)
		}
	}
}

// runList is a way to do a list: the memory behind it, how it ended, and how much fuel is left.
type runList func(m impl.Mem, list []impl.Stmt, fuel int) (impl.Mem, int, int)

// Fuel that is just enough, one too little, and more than enough, for a loop of every length.
func TestStmtsFuel(t *testing.T) { checkFuel(t, impl.StmtsRun) }

func checkFuel(t *testing.T, run runList) {
	t.Helper()
	for times := range 103 {
		list := stmts(while(below(v0, times), more(v0)), set(o5, num(77)))
		for fuel := range 101 {
			m, code, left := run(impl.MemOpen(), list, fuel)
			want := impl.MemOpen()
			want.Var[0] = min(times, fuel+1)
			wantCode, wantLeft := 1, 0
			if fuel >= times {
				want.Out[5] = 77
				wantCode, wantLeft = 0, fuel-times
			}
			if !sameMem(m, want) {
				t.Errorf("%d times with fuel %d leave %v", times, fuel, m)
			}
			if code != wantCode {
				t.Errorf("%d times with fuel %d end with %d", times, fuel, code)
			}
			if left != wantLeft {
				t.Errorf("%d times with fuel %d: %d is left", times, fuel, left)
			}
		}
	}
}

// The fuel of loops within loops, and of loops behind loops, is one.
func TestStmtsFuelNested(t *testing.T) {
	for outer := range 6 {
		for inner := range 6 {
			within := stmts(while(below(v0, outer), set(v1, num(0)), while(below(v1, inner), more(v1)), more(v0)))
			behind := stmts(while(below(v0, outer), more(v0)), while(below(v1, inner), more(v1)))
			for name, c := range map[string]struct {
				list []impl.Stmt
				need int
			}{"within": {within, outer * (inner + 1)}, "behind": {behind, outer + inner}} {
				for fuel := range 101 {
					_, code, left := checkRun(t, impl.MemOpen(), c.list, fuel)
					if fuel >= c.need && (code != 0 || left != fuel-c.need) || fuel < c.need && (code != 1 || left != 0) {
						t.Errorf("%d, %d %s with fuel %d: %d, %d", outer, inner, name, fuel, code, left)
					}
				}
			}
		}
	}
}

// A loop that is not gone into takes no fuel, and neither does anything but a loop.
func TestStmtsFuelNone(t *testing.T) {
	for _, list := range [][]impl.Stmt{
		nil, flat(16), stmts(while(num(0))), stmts(while(num(0), while(num(1)))), slices.Repeat(stmts(while(at(v0), more(v1))), 8),
		stmts(when(num(1), stmts(while(num(0), more(v1))), nil)), stmts(when(num(1), stmts(more(v1)), stmts(while(num(1))))),
		stmts(when(num(0), stmts(while(num(1))), stmts(more(v1)))), stmts(set(v0, num(1)), set(v0, num(0)), while(at(v0))),
		stmts(while(part(4, num(5), num(5)), while(num(1), while(num(1), while(num(1)))))),
	} {
		for fuel := range 101 {
			if _, code, left := checkRun(t, impl.MemOpen(), list, fuel); code != 0 || left != fuel {
				t.Errorf("%q with fuel %d: %d, %d", wantStmtsText(list), fuel, code, left)
			}
		}
	}
}

// Lists of all shapes, of several memories, with fuel of 0, of 100, and between.
func TestStmtsRunMany(t *testing.T) {
	wide := memOf()
	wide.Var = []int{0, 0, 1000, -1000, 1, 0}
	r := rand.New(rand.NewPCG(8, 2))
	codes := [3]int{}
	for _, list := range stmtsOk() {
		for _, m := range []impl.Mem{memOf(), impl.MemOpen(), wide} {
			for _, fuel := range []int{0, 1, r.IntN(10), r.IntN(101), 100} {
				_, code, _ := checkRun(t, m, list, fuel)
				codes[code]++
			}
		}
	}
	if codes[0] < 2000 || codes[1] < 2000 {
		t.Errorf("how they end: %v", codes)
	}
}

// Promise 4: it always ends, with every fuel; what ends fine does so with all fuel from just enough on, and leaves the
// same memory then.
func TestStmtsRunEveryFuel(t *testing.T) {
	r := rand.New(rand.NewPCG(5, 9))
	enough := 0
	for range 150 {
		list := someStmts(r, 16, 3)
		m := impl.MemOpen()
		m.In[0], m.Var[1] = 1, -3
		need := -1
		var then impl.Mem
		for fuel := range 101 {
			got, code, left := checkRun(t, m, list, fuel)
			if code == 0 && need < 0 {
				need, then = fuel, got
				if left != 0 && fuel > 0 {
					t.Errorf("%q: %d is left of what is just enough", wantStmtsText(list), left)
				}
			}
			if need >= 0 && (code != 0 || left != fuel-need || !sameMem(got, then)) {
				t.Errorf("%q with fuel %d: %v, %d, %d; %d is enough", wantStmtsText(list), fuel, got, code, left, need)
			}
		}
		if need > 0 {
			enough++
		}
	}
	if enough < 10 {
		t.Errorf("only %d of them take fuel, and end", enough)
	}
}

func TestStmtsRunForm(t *testing.T) {
	lists := map[string][]impl.Stmt{"none": nil, "a set": flat(1), "a loop": stmts(while(num(1))), "much": flat(16)}
	for name, list := range lists {
		for _, fuel := range []int{-1, 101, -2, 102, -100, 200, 356, math.MinInt, math.MaxInt} {
			checkForm(t, name, memOf(), list, fuel)
		}
		for bad, m := range memsBad() {
			for _, fuel := range []int{-1, 0, 5, 100, 101} {
				checkForm(t, name+" of "+bad, m, list, fuel)
			}
		}
		for _, fuel := range []int{0, 100} {
			if _, code, _ := impl.StmtsRun(memOf(), list, fuel); code == 2 {
				t.Errorf("%s with fuel %d is not run", name, fuel)
			}
		}
	}
}

// turnedStmts are all lists that differ from one in one thing of one statement.
func turnedStmts(list []impl.Stmt) [][]impl.Stmt {
	var out [][]impl.Stmt
	turn := func(f func(list []impl.Stmt) []impl.Stmt) { out = append(out, f(copyStmts(list))) }
	turn(func(list []impl.Stmt) []impl.Stmt { return append(list, impl.Stmt{}) })
	turn(func(list []impl.Stmt) []impl.Stmt { return append(stmts(impl.Stmt{}), list...) })
	if len(list) > 0 {
		turn(func([]impl.Stmt) []impl.Stmt { return nil })
		turn(func(list []impl.Stmt) []impl.Stmt { return list[1:] })
		turn(func(list []impl.Stmt) []impl.Stmt { return list[:len(list)-1] })
	}
	for i, s := range list {
		change := func(f func(s *impl.Stmt)) {
			turn(func(list []impl.Stmt) []impl.Stmt { f(&list[i]); return list })
		}
		change(func(s *impl.Stmt) { s.Kind++ })
		change(func(s *impl.Stmt) { s.Kind = -s.Kind - 1 })
		change(func(s *impl.Stmt) { s.To.Kind++ })
		change(func(s *impl.Stmt) { s.To.At-- })
		for _, e := range turnedParts(s.Expr) {
			change(func(s *impl.Stmt) { s.Expr = e })
		}
		for _, other := range turnedStmts(s.Then) {
			change(func(s *impl.Stmt) { s.Then = other })
		}
		for _, other := range turnedStmts(s.Else) {
			change(func(s *impl.Stmt) { s.Else = other })
		}
		if !sameStmts(s.Then, s.Else) {
			change(func(s *impl.Stmt) { s.Then, s.Else = s.Else, s.Then })
		}
	}
	return out
}

// What is ok and what is not are the same just if all parts are.
func TestStmtsSameTurned(t *testing.T) {
	all := [][]impl.Stmt{nil, flat(1), make([]impl.Stmt, 2), stmts(more(v0), when(below(v1, 2), flat(2), stmts(while(num(1))))), deepest(3, 0, flat(2)), deepest(6, 1, stmts(set(in0, part(0, num(5))))), flat(18)}
	odd := impl.Stmt{Kind: 9, To: impl.Addr{Kind: -2, At: 70}, Expr: part(1, part(0), num(2000000)), Then: flat(1), Else: make([]impl.Stmt, 1)}
	all = append(all, stmts(odd), stmts(set(in0, num(1)), odd), stmts(impl.Stmt{Kind: 1, Then: stmts(odd), Else: stmts(odd, odd)}))
	for _, list := range all {
		if !impl.StmtsSame(list, list) || !impl.StmtsSame(list, copyStmts(list)) {
			t.Errorf("StmtsSame(%v, itself) = false", list)
		}
		for _, other := range turnedStmts(list) {
			if impl.StmtsSame(list, other) || impl.StmtsSame(other, list) {
				t.Errorf("StmtsSame(%v, %v) = true", list, other)
			}
		}
	}
	if impl.StmtsSame(stmts(set(v0, num(1)), set(v1, num(2))), stmts(set(v1, num(2)), set(v0, num(1)))) {
		t.Error("the order does not count")
	}
}

func TestStmtsSamePairs(t *testing.T) {
	var all [][]impl.Stmt
	for _, c := range append(stmtsJustOk(), stmtsTooMuch()...) {
		all = append(all, c.list)
	}
	all = append(all, stmtsOk()[:60]...)
	bad := stmtsBad()
	for _, name := range slices.Sorted(maps.Keys(bad))[:300] {
		all = append(all, bad[name])
	}
	for _, a := range all {
		for _, b := range all {
			if got, want := impl.StmtsSame(a, b), sameStmts(a, b); got != want {
				t.Fatalf("StmtsSame(%v, %v) = %v", a, b, got)
			}
		}
	}
}

// What holds itself has statements without end; they are the same just if nothing tells them apart.
func TestStmtsSameLoops(t *testing.T) {
	twins := stmtLoops()
	for name, list := range stmtLoops() {
		if !impl.StmtsSame(list, list) || !impl.StmtsSame(list, twins[name]) {
			t.Errorf("not the same as itself: %s", name)
		}
		for _, ends := range [][]impl.Stmt{nil, flat(1), flat(2), make([]impl.Stmt, 2), deepest(50, 0, nil), deepest(50, 2, flat(2))} {
			if impl.StmtsSame(list, ends) || impl.StmtsSame(ends, list) {
				t.Errorf("the same as one that ends: %s", name)
			}
		}
	}
	if !impl.StmtsSame(twins["a while of itself"], twins["whiles of each other"]) || !impl.StmtsSame(twins["whiles of each other"], twins["a while of itself"]) {
		t.Error("whiles without end are not the same as whiles without end")
	}
	if impl.StmtsSame(twins["in the first's Then, kind 3"], twins["in the last's Else, kind 3"]) || impl.StmtsSame(twins["in all, kind 2"], twins["in all, kind 3"]) {
		t.Error("two that hold themselves otherwise are the same")
	}
	exprs := loops()
	for name, e := range loops() {
		a, b := stmts(set(v0, e)), stmts(set(v0, exprs[name]))
		if !impl.StmtsSame(a, b) || impl.StmtsSame(a, stmts(set(v0, num(1)))) {
			t.Errorf("with an expression that holds itself: %s", name)
		}
	}
}

// sharedStmts is one whose lists are all one list, at each of so many levels: far more than can be gone through.
func sharedStmts(levels int, last int) []impl.Stmt {
	list := stmts(set(v0, num(last)))
	for range levels {
		list = stmts(when(num(1), list, list))
	}
	return list
}

func TestStmtsSameFar(t *testing.T) {
	if !impl.StmtsSame(sharedStmts(60, 1), sharedStmts(60, 1)) || impl.StmtsSame(sharedStmts(60, 1), sharedStmts(60, 2)) || impl.StmtsSame(sharedStmts(60, 1), sharedStmts(61, 1)) {
		t.Error("with lists that are shared")
	}
	if !impl.StmtsSame(stmts(set(v0, shared(60, 1))), stmts(set(v0, shared(60, 1)))) || impl.StmtsSame(stmts(set(v0, shared(60, 1))), stmts(set(v0, shared(60, 2)))) {
		t.Error("with kids that are shared")
	}
	const deep = 1 << 17
	if !impl.StmtsSame(deepest(deep, 0, flat(1)), deepest(deep, 0, flat(1))) || impl.StmtsSame(deepest(deep, 0, flat(1)), deepest(deep, 0, nil)) || impl.StmtsSame(deepest(deep, 0, nil), deepest(deep+3, 0, nil)) {
		t.Error("far within others")
	}
	ones, twos := slices.Repeat(flat(1), 3), slices.Repeat(flat(1), 3)
	twos[2] = set(v1, num(1))
	for _, sizes := range [][2]int{{2, 3}, {3, 2}} {
		a := stmts(while(num(1), flat(1)...), when(num(1), ones[:sizes[0]], ones[:sizes[1]]))
		b := stmts(while(num(1), flat(1)...), when(num(1), twos[:sizes[0]], twos[:sizes[1]]))
		if impl.StmtsSame(a, b) || impl.StmtsSame(b, a) || !impl.StmtsSame(a, copyStmts(a)) {
			t.Error("with lists that begin at one place")
		}
	}
}

func TestStmtsReadNone(t *testing.T) {
	for _, text := range []string{
		"", " ", "  ", "\n", "\x00", "\t", "\xff", "\xff\xfe", "é", "٣", ";", " ; ", "; ;", "[", "]", "[ ]", "[ - ]", "--", "- -", "- ", " -", " - ", "-\n", "none", "0", "1", "v0", "add 1 2", "1 ; 2",
		" set v0 1", "set v0 1 ", "set  v0 1", "set v0  1", "set v0 add  1 2", "set v0 1\n", "\nset v0 1", "set v0 1\x00", "set\tv0 1", "set v0\n1", "set\u00a0v0 1", "set v0 1 ;  set v1 2", "set v0 1  ; set v1 2",
		"; set v0 1", "set v0 1 ;", "set v0 1 ; ", "set v0 1 ; ; set v1 2", "set v0 1 ;; set v1 2", "set v0 1; set v1 2", "set v0 1 ;set v1 2", "set v0 1;set v1 2", "set v0 1 set v1 2", "set v0 1 , set v1 2", "set v0 1\nset v1 2",
		"- ; -", "- ; set v0 1", "set v0 1 ; -", "set v0 1 -", "- set v0 1", "set v0 -", "set - 1", "while - [ - ]", "if - [ - ] [ - ]", "while 1 -", "if 1 - -", "while 1 [ - ; - ]", "while 1 [ - ; set v0 1 ]", "while 1 [ set v0 1 ; - ]", "while 1 [ - - ]", "while 1 [ -1 ]",
		"set", "set ", "set v0", "set v0 ", "set 1", "set 1 v0", "set i0 1", "set i5 v0", "set v6 1", "set o6 1", "set v00 1", "set V0 1", "set v-1 1", "set w0 1", "set v 1", "set 0 1", "set set v0 1", "set v0 set v0 1", "set v0 v1 v2", "set v0 1 2", "set v0 add 1", "set v0 add 1 2 3", "set v0 1000001", "set v0 01", "set v0 -0", "set v0 +1", "set v0 fly", "set v0 i6", "set v0 not not not not not not 1", "set v0 = 1", "v0 set 1", "set v0 [ 1 ]", "set v0 1 [ - ]", "set v0 1 [ - ] [ - ]", "[ set v0 1 ]",
		"if", "if 1", "if 1 [", "if 1 [ ]", "if 1 [ - ]", "if 1 [ - ] [", "if 1 [ - ] [ ]", "if 1 [ - ] [ -", "if 1 [ ] [ ]", "if 1 [ ] [ - ]", "if 1 [ - ] [ - ] [ - ]", "if 1 [ - ] [ - ] ]", "if 1 [ [ - ] [ - ]", "if 1 [ - ] ] [ - ]", "if 1 [ - [ - ] ]", "if 1 - ] [ - ]", "if 1 [ - [ - ]", "if 1 [ - ] - ]", "if [ - ] [ - ]", "if 1 2 [ - ] [ - ]", "if 1 ] - [ ] - [", "if 1 [ - ] else [ - ]", "if 1 [ - ] ; [ - ]", "if 1 [- ] [ - ]", "if 1 [ -] [ - ]", "if 1 [-] [-]", "if 1[ - ] [ - ]", "if 1 [ - ][ - ]", "if 1 ( - ) ( - )", "if 1 { - } { - }", "if 1 [  ] [ - ]", "if 1  [ - ] [ - ]", "if 1 [ - ]  [ - ]", "if 1 [ - ] [ - ] ", "if 1 [ - ] [ - ] ;", "if 1 [ - ] [ - ] - ", "if i6 [ - ] [ - ]", "if add 1 [ - ] [ - ]", "if v0 1 [ - ] [ - ]", "if 1 [ - ] [ - ] set v0 1",
		"while", "while 1", "while 1 [", "while 1 [ ]", "while 1 [ -", "while 1 - ]", "while 1 ]", "while 1 [ - ] [ - ]", "while 1 [ - ] ]", "while 1 [ [ - ]", "while 1 [ [ - ] ]", "while [ - ]", "while 1 2 [ - ]", "while 1 [ - ] -", "while v0 1 [ - ]", "while 1 [ 1 ]", "while 1 [ set v0 1", "while 1 set v0 1 ]", "while 1 [ set v0 1 ; ]", "while 1 [ ; set v0 1 ]", "while 1 [ ; ]", "while 1 [ set v0 1 ;; set v0 1 ]", "while 1 [ set i0 1 ]", "while 1 [ while 1 [ - ]", "while 1 [ while 1 - ] ]", "while 1 [ if 1 [ - ] ]", "while not [ - ]", "while 1000001 [ - ]", "while 1 [ - ] [ ]", "while 1 [ - ] while 1 [ - ]",
		"SET v0 1", "Set v0 1", "IF 1 [ - ] [ - ]", "While 1 [ - ]", "sett v0 1", "se v0 1", "iff 1 [ - ] [ - ]", "whil 1 [ - ]", "for 1 [ - ]", "fly 1", "do [ - ]", "push 1", "loop 1 [ - ]", "else", "if 1 [ - ] [ - ] end", "set v0 1 .", "set v0 1 # x", "\"set v0 1\"", "set v0 \xff", "s\xc3\xa9t v0 1", "set v0 ١", "set v0 1\u2028", "\ufeffset v0 1", "set v0 1 ； set v1 2", "while 1 ［ - ］", "while 1 [ — ]",
		"if 1 [ if 1 [ if 1 [ if 1 [ set v0 1 ] [ - ] ] [ - ] ] [ - ] ] [ - ]", "while 1 [ while 1 [ while 1 [ while 1 [ while 1 [ - ] ] ] ] ]",
	} {
		if got, ok := impl.StmtsRead(text); ok || len(got) != 0 {
			t.Errorf("StmtsRead(%q) = %v, %v", text, got, ok)
		}
	}
}

// stmtToken is a word, or, in the place of a list in brackets that has been read, its size.
type stmtToken struct {
	word       string
	held       bool
	many, deep int
}

// wantStmtsRead says whether this is the text of a list that is ok: the brackets are done away with from within.
func wantStmtsRead(text string) bool {
	var open [][]stmtToken
	var now []stmtToken
	for _, word := range strings.Split(text, " ") {
		switch {
		case word == "[":
			open = append(open, now)
			now = nil
		case word == "]":
			list, ok := wantFlat(now)
			if !ok || len(open) == 0 {
				return false
			}
			now = append(open[len(open)-1], list)
			open = open[:len(open)-1]
		default:
			now = append(now, stmtToken{word: word})
		}
	}
	list, ok := wantFlat(now)
	return ok && len(open) == 0 && list.many <= 16 && list.deep <= 4
}

// wantFlat is the size of a list without brackets; deep counts from 0, for one of none.
func wantFlat(tokens []stmtToken) (stmtToken, bool) {
	if len(tokens) == 1 && tokens[0].word == "-" {
		return stmtToken{held: true}, true
	}
	list := stmtToken{held: true}
	var one []stmtToken
	for _, token := range append(slices.Clone(tokens), stmtToken{word: ";"}) {
		if token.word != ";" {
			one = append(one, token)
			continue
		}
		if !wantOne(one) {
			return stmtToken{}, false
		}
		list.many, list.deep = list.many+1, max(list.deep, 1)
		for _, part := range one {
			if part.held {
				list.many, list.deep = list.many+part.many, max(list.deep, part.deep+1)
			}
		}
		one = nil
	}
	return list, true
}

// wantOne says whether this is a statement, how great it is aside.
func wantOne(tokens []stmtToken) bool {
	words := make([]string, len(tokens))
	for i, token := range tokens {
		words[i] = token.word
		if token.held {
			words[i] = "[]"
		}
	}
	text := strings.Join(words, " ")
	if rest, ok := strings.CutPrefix(text, "set "); ok {
		place, e, _ := strings.Cut(rest, " ")
		return wordAddr.MatchString(place) && place[0] != 'i' && wantExprRead(e)
	}
	lists := 1
	rest, ok := strings.CutPrefix(text, "while ")
	if !ok {
		lists = 2
		rest, ok = strings.CutPrefix(text, "if ")
	}
	if !ok || len(tokens) < lists+2 {
		return false
	}
	for _, token := range tokens[len(tokens)-lists:] {
		if !token.held {
			return false
		}
	}
	return wantExprRead(strings.TrimSuffix(rest, strings.Repeat(" []", lists)))
}

// checkStmtsRead holds what is read against what must be: there is just one list whose text this is.
func checkStmtsRead(t *testing.T, text string) bool {
	t.Helper()
	got, ok := impl.StmtsRead(text)
	if want := wantStmtsRead(text); ok != want {
		t.Errorf("StmtsRead(%q) = %v, %v", text, got, ok)
		return ok
	}
	if !ok && len(got) != 0 || ok && (!impl.StmtsOk(got) || wantStmtsText(got) != text) {
		t.Errorf("StmtsRead(%q) = %v, %v", text, got, ok)
	}
	return ok
}

// Every text of at most two bytes: but for one, none is that of a list.
func TestStmtsReadShort(t *testing.T) {
	checkStmtsRead(t, "")
	for a := range 256 {
		one := string([]byte{byte(a)})
		if checkStmtsRead(t, one) != (one == "-") {
			t.Errorf("%q", one)
		}
		for b := range 256 {
			if two := string([]byte{byte(a), byte(b)}); checkStmtsRead(t, two) {
				t.Errorf("%q", two)
			}
		}
	}
}

// Every text of at most six words, but for what stands behind a bracket, or behind no word, at the beginning.
func TestStmtsReadWords(t *testing.T) {
	words := []string{"set", "if", "while", "[", "]", "-", ";", "v0", "1", "not", ""}
	read := 0
	texts := slices.Clone(words)
	for range 6 {
		var next []string
		for _, text := range texts {
			if checkStmtsRead(t, text) {
				read++
			}
			for _, word := range words {
				if strings.Count(text, " ") < 5 && !strings.HasPrefix(text, "[") && !strings.HasPrefix(text, "]") && !strings.HasPrefix(text, " ") && text != "" {
					next = append(next, text+" "+word)
				}
			}
		}
		texts = next
	}
	if read != 13 {
		t.Errorf("%d of them are read", read)
	}
}

// Words in any order that come near a text, about as long as those of lists within lists.
func TestStmtsReadSome(t *testing.T) {
	r := rand.New(rand.NewPCG(6, 3))
	pieces := []string{"set v0 1", "while 1 [", "if 0 [", "if v1 [", "] [", "]", "]", "- ]", ";", ";", "-", "set o1 add v0 1", "while 1 [ - ]", "if 1 [ - ] [ - ]"}
	read := 0
	for range 60000 {
		var text []string
		for range 1 + r.IntN(9) {
			text = append(text, pieces[r.IntN(len(pieces))])
		}
		if checkStmtsRead(t, strings.Join(text, " ")) {
			read++
		}
	}
	if read < 500 {
		t.Errorf("only %d of them are read", read)
	}
}

// A word of a text more, fewer, twice, or another one in its place.
func TestStmtsReadWordTurned(t *testing.T) {
	words := []string{"set", "if", "while", "[", "]", "-", ";", "v0", "i0", "1", "-1000001", "not", "add", "", "fly", "[ - ]", "; -", "set v0 1", "; set v0 1"}
	r := rand.New(rand.NewPCG(7, 7))
	for range 60 {
		text := strings.Split(wantStmtsText(someStmts(r, 8, 3)), " ")
		for i := range len(text) + 1 {
			for _, word := range words {
				checkStmtsRead(t, strings.Join(slices.Insert(slices.Clone(text), i, word), " "))
				if i < len(text) {
					checkStmtsRead(t, strings.Join(slices.Replace(slices.Clone(text), i, i+1, word), " "))
				}
			}
			if i < len(text) {
				checkStmtsRead(t, strings.Join(slices.Delete(slices.Clone(text), i, i+1), " "))
			}
		}
	}
}

// Texts with a byte more, one fewer, or another one in its place.
func TestStmtsReadByteTurned(t *testing.T) {
	for _, text := range []string{"-", "set v0 1", "set o5 add v0 -10", "if i0 [ - ] [ - ]", "while 1 [ - ]", "set v0 1 ; set v1 2", "if 0 [ set v0 1 ] [ while less v0 3 [ - ] ]", "while not v0 [ set v0 1 ; if 1 [ - ] [ set v1 2 ] ] ; set o0 9"} {
		if !checkStmtsRead(t, text) {
			t.Errorf("%q is not read", text)
		}
		for other := range byteTurned(text) {
			checkStmtsRead(t, other)
		}
	}
}

// Texts about 4000 bytes, and far longer ones: none is the text of a list that is ok.
func TestStmtsReadLong(t *testing.T) {
	for _, size := range []int{3998, 3999, 4000, 4001, 4002, 8000, 1 << 20} {
		for _, piece := range []string{" ", "-", "1", "\x00", "\xff", "[ ", "] ", "; ", "while 1 [ ", "if 1 [ ", "if 1 [ - ] [ ", "set v0 1 ; ", "while 1 [ - ] ; ", "not ", "add ", "while not ", "set v0 "} {
			long := strings.Repeat(piece, size)[:size]
			for _, text := range []string{long, "-" + long[1:], long[1:] + "-", long[8:] + "set v0 1", "set v0 1" + long[8:], "set v0 1 ; " + long[11:], long[13:] + "while 1 [ - ]"} {
				if got, ok := impl.StmtsRead(text); ok || len(got) != 0 || len(text) != size {
					t.Errorf("StmtsRead of %d bytes of %q = %v, %v", len(text), piece, got, ok)
				}
			}
		}
	}
}

// The longest text of a list that is ok: 16 statements, each with 14 parts whose words are as long as can be.
func TestStmtsReadLongest(t *testing.T) {
	wide := func(a impl.Expr, b impl.Expr) impl.Expr { return part(6, a, b) }
	low := num(-1000000)
	e := part(10, wide(wide(wide(low, low), wide(low, low)), wide(wide(low, low), low)))
	for _, s := range []impl.Stmt{when(e, nil, nil), while(e), set(v0, e)} {
		list := slices.Repeat(stmts(s), 16)
		checkStmts(t, list)
		if n := len(wantStmtsText(list)); n < 1600 {
			t.Errorf("%d bytes", n)
		}
	}
}

// stmtRoom are the places of all of all lists, spare room included: of statements, and of parts.
func stmtRoom(list []impl.Stmt) ([]*impl.Stmt, []*impl.Expr) {
	var out []*impl.Stmt
	var parts []*impl.Expr
	all := list[:cap(list)]
	for i := range all {
		out = append(out, &all[i])
	}
	for _, s := range list {
		parts = append(parts, roomOf(s.Expr)...)
		for _, within := range [][]impl.Stmt{s.Then, s.Else} {
			a, b := stmtRoom(within)
			out, parts = append(out, a...), append(parts, b...)
		}
	}
	return out, parts
}

// No two lists of one answer share memory, nor those of two answers, of one text or of two.
func TestStmtsAnswersAreNew(t *testing.T) {
	taken := map[any]string{}
	for _, list := range stmtsOk() {
		text := wantStmtsText(list)
		for range 2 {
			got, ok := impl.StmtsRead(text)
			if !ok {
				t.Fatalf("%q", text)
			}
			var room []any
			out, parts := stmtRoom(got)
			for _, p := range out {
				room = append(room, p)
			}
			for _, p := range parts {
				room = append(room, p)
			}
			for _, p := range room {
				if other, is := taken[p]; is {
					t.Fatalf("what is read from %q shares memory with what is read from %q", text, other)
				}
				taken[p] = text
			}
		}
	}
}

// What is written into an answer is not to be seen in the next one.
func TestStmtsAnswersNotKept(t *testing.T) {
	for _, list := range stmtsOk() {
		text := wantStmtsText(list)
		kept, _ := impl.StmtsRead(text)
		got, _ := impl.StmtsRead(text)
		out, parts := stmtRoom(got)
		for _, p := range out {
			*p = set(v2, num(1234567))
		}
		for _, p := range parts {
			*p = num(1234567)
		}
		again, ok := impl.StmtsRead(text)
		if !ok || !sameStmts(again, list) || !sameStmts(kept, list) {
			t.Fatalf("%q is read as %v, behind an answer that was written into", text, again)
		}
	}
}

// runsOf are lists that end fine, that take too long, that do nothing, and that set what comes out and what is kept.
func runsOf() map[string][]impl.Stmt {
	return map[string][]impl.Stmt{
		"none": nil, "a set": stmts(set(o0, num(1))), "two sets": stmts(set(v0, num(1)), set(v0, num(2))), "the same": stmts(set(v1, at(v1))),
		"a loop not gone into": stmts(while(num(0), more(v0))), "too long": stmts(while(num(1))), "too long, and set": stmts(while(num(1), more(o5))),
		"an if of none": stmts(when(num(1), nil, nil)), "an if": stmts(when(num(0), nil, stmts(more(v2)))),
	}
}

// Writing into an answer turns no argument, and no other answer, and the other way round; spare room included.
func TestStmtsRunAnswersAreNew(t *testing.T) { checkRunAnswersAreNew(t, impl.StmtsRun) }

func checkRunAnswersAreNew(t *testing.T, run runList) {
	t.Helper()
	for name, list := range runsOf() {
		m, all := roomy()
		first, code, _ := run(m, list, 3)
		again, _, _ := run(m, list, 3)
		want, wantCode, _ := wantRun(m, list, 3)
		if code != wantCode || !sameMem(first, want) || !sameMem(again, want) {
			t.Fatalf("%s: %v, %v, not %v", name, first, again, want)
		}
		fill(first, -1)
		if at := turned(all); at != nil || !sameMem(again, want) {
			t.Errorf("%s: writing into an answer turned the argument at %v, or another answer: %v", name, at, again)
		}
		for i := range all {
			all[i] = -2
		}
		if !sameMem(again, want) {
			t.Errorf("%s: writing into the argument turned the answer: %v", name, again)
		}
	}
}

// No two lists of one answer share memory, spare room included, not even of an argument whose lists are one.
func TestStmtsRunListsApart(t *testing.T) { checkRunListsApart(t, impl.StmtsRun) }

func checkRunListsApart(t *testing.T, run runList) {
	t.Helper()
	for name, list := range runsOf() {
		one := []int{1, 2, 3, 4, 5, 6}
		m, _, _ := run(impl.Mem{In: one, Out: one, Var: one}, list, 3)
		want, _, _ := wantRun(impl.Mem{In: one, Out: one, Var: one}, list, 3)
		if !sameMem(m, want) || !slices.Equal(one, []int{1, 2, 3, 4, 5, 6}) {
			t.Errorf("%s: %v, not %v, of %v", name, m, want, one)
		}
		for kind := 1; kind <= 3; kind++ {
			want := copyMem(m)
			written := (*listOf(&m, kind))
			written = written[:cap(written)]
			for i := range written {
				written[i] = 50 + kind
			}
			copy(*listOf(&want, kind), written)
			if !sameMem(m, want) {
				t.Errorf("%s: writing into list %d turned another one: %v, not %v", name, kind, m, want)
			}
		}
	}
}

// roomyStmts is the same, with room behind each list, and something in it.
func roomyStmts(list []impl.Stmt) []impl.Stmt {
	out := make([]impl.Stmt, 0, len(list)+3)
	for _, s := range list {
		s.Expr, s.Then, s.Else = roomyExpr(s.Expr), roomyStmts(s.Then), roomyStmts(s.Else)
		out = append(out, s)
	}
	all := out[:cap(out)]
	for i := len(out); i < len(all); i++ {
		all[i] = impl.Stmt{Kind: 1, To: impl.Addr{Kind: 3, At: i % 6}, Expr: num(70 + i), Then: flat(1)}
	}
	return out
}

// Nothing is written into an argument, nor behind its end, nor is what is behind it seen.
func TestStmtsArgumentsStay(t *testing.T) {
	m, all := roomy()
	lists := stmtsOk()
	bad := stmtsBad()
	for i, name := range slices.Sorted(maps.Keys(bad)) {
		if i%10 == 0 {
			lists = append(lists, bad[name])
		}
	}
	for _, list := range lists {
		given := roomyStmts(list)
		out, parts := stmtRoom(given)
		var was [][]impl.Stmt
		var wasParts []impl.Expr
		for _, p := range out {
			was = append(was, copyStmts([]impl.Stmt{*p}))
		}
		for _, p := range parts {
			wasParts = append(wasParts, copyExpr(*p))
		}
		if impl.StmtsOk(given) != impl.StmtsOk(list) || impl.StmtsMany(given) != impl.StmtsMany(list) || impl.StmtsText(given) != impl.StmtsText(list) {
			t.Errorf("what is behind the lists of %v counts", list)
		}
		got, code, left := impl.StmtsRun(m, given, 20)
		want, wantCode, wantLeft := impl.StmtsRun(m, list, 20)
		if !sameMem(got, want) || code != wantCode || left != wantLeft {
			t.Errorf("what is behind the lists of %v is done", list)
		}
		if !impl.StmtsSame(given, list) || !impl.StmtsSame(list, given) || !sameStmts(given, list) {
			t.Errorf("%v is %v now", list, given)
		}
		for i, p := range out {
			if !sameStmts([]impl.Stmt{*p}, was[i]) {
				t.Errorf("turned within %v: %v", list, *p)
			}
		}
		for i, p := range parts {
			if !sameExpr(*p, wasParts[i]) {
				t.Errorf("turned within %v: %v", list, *p)
			}
		}
	}
	if at := turned(all); at != nil {
		t.Errorf("the memory is turned at %v", at)
	}
}
