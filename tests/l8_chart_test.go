package tests

import (
	"maps"
	"math"
	"math/rand/v2"
	"reflect"
	"regexp"
	"slices"
	"strconv"
	"strings"
	"testing"

	"loop.example/stopgate/impl"
)

// The kinds of acts, their words, and what is no kind.
var (
	actWords = [5]string{"", "with", "set", "off", "begin"}
	actNone  = []int{math.MinInt, -4, -1, 0, 5, 6, 256 + 1, 1<<32 + 1, math.MaxInt}
)

// always and never are what is so, and what is not.
func always() impl.Expr { return num(1) }

func never() impl.Expr { return num(0) }

// inAt is what comes in at a place.
func inAt(which int) impl.Expr { return at(impl.Addr{Kind: 1, At: which}) }

func outAt(which int) impl.Addr { return impl.Addr{Kind: 2, At: which} }

// steps are the steps of a text of one sign each.
func steps(text string) []int {
	var out []int
	for _, s := range text {
		out = append(out, int(s-'0'))
	}
	return out
}

// way is a way from steps to steps, each told by signs.
func way(from string, to string, e impl.Expr) impl.Trans {
	return impl.Trans{From: steps(from), To: steps(to), When: e}
}

func act(kind int, step int, out int) impl.Act {
	return impl.Act{Kind: kind, Step: step, To: outAt(out)}
}

func charted(many int, ways ...impl.Trans) impl.Chart {
	return impl.Chart{Steps: many, Trans: append([]impl.Trans(nil), ways...)}
}

func acted(c impl.Chart, acts ...impl.Act) impl.Chart {
	c.Acts = append([]impl.Act(nil), acts...)
	return c
}

// flags are the bools of a text of `1` and `0`.
func flags(text string) []bool {
	var out []bool
	for _, s := range text {
		out = append(out, s == '1')
	}
	return out
}

// flagText is the text of bools.
func flagText(list []bool) string {
	text := ""
	for _, is := range list {
		text += strconv.Itoa(wantIs(is))
	}
	return text
}

// numText is the text of numbers, with a comma between.
func numText(list []int) string {
	words := make([]string, len(list))
	for i, n := range list {
		words[i] = strconv.Itoa(n)
	}
	return strings.Join(words, ",")
}

// marks are the marks of these steps that are on, and these places that are kept.
func marks(on string, kept string) impl.Marks {
	return impl.Marks{On: flags(on), Kept: flags(kept)}
}

func copyMarks(k impl.Marks) impl.Marks {
	return impl.Marks{On: append([]bool{}, k.On...), Kept: append([]bool{}, k.Kept...)}
}

func sameMarks(a impl.Marks, b impl.Marks) bool { return reflect.DeepEqual(copyMarks(a), copyMarks(b)) }

func isNoMarks(k impl.Marks) bool { return len(k.On)+len(k.Kept) == 0 }

func copyChart(c impl.Chart) impl.Chart {
	out := impl.Chart{Steps: c.Steps, Trans: []impl.Trans{}, Acts: append([]impl.Act{}, c.Acts...)}
	for _, t := range c.Trans {
		out.Trans = append(out.Trans, impl.Trans{From: append([]int{}, t.From...), To: append([]int{}, t.To...), When: copyExpr(t.When)})
	}
	return out
}

// sameChart says whether two charts are the same in all parts, told apart from the program; both must end.
func sameChart(a impl.Chart, b impl.Chart) bool {
	return reflect.DeepEqual(copyChart(a), copyChart(b))
}

func isNoChart(c impl.Chart) bool { return c.Steps == 0 && len(c.Trans)+len(c.Acts) == 0 }

// stepLists are all lists of steps that a way may have, of so many steps: at bits, those of which a bit is set.
func stepLists(many int) [][]int {
	var out [][]int
	for bits := range 1 << many {
		var list []int
		for s := range many {
			if bits>>s&1 == 1 {
				list = append(list, s)
			}
		}
		out = append(out, list)
	}
	return out
}

// stepTexts are the texts of all lists that a way may have, by how many steps there are.
var stepTexts = func() (out [7]map[string]struct{}) {
	for many := range out {
		out[many] = map[string]struct{}{}
		for _, list := range stepLists(many)[1:] {
			out[many][numText(list)] = struct{}{}
		}
	}
	return out
}()

// wantChartOk says whether a chart is ok, told apart from the program.
func wantChartOk(c impl.Chart) bool {
	if c.Steps < 1 || c.Steps > 6 || len(c.Trans) > 6 || len(c.Acts) > 6 {
		return false
	}
	for _, t := range c.Trans {
		_, from := stepTexts[c.Steps][numText(t.From)]
		_, to := stepTexts[c.Steps][numText(t.To)]
		if !from || !to || !impl.ExprOk(t.When) {
			return false
		}
	}
	for _, a := range c.Acts {
		if a.Kind < 1 || a.Kind > 4 || a.Step < 0 || a.Step >= c.Steps || !slices.Contains(placesOk()[6:12], a.To) {
			return false
		}
	}
	return true
}

// meet says whether two lists have one in common.
func meet(a []int, b []int) bool {
	return slices.ContainsFunc(a, func(n int) bool { return slices.Contains(b, n) })
}

// wantLeads says whether a way leads on, told apart from the program: each way is asked by itself.
func wantLeads(c impl.Chart, k impl.Marks, m impl.Mem, i int) bool {
	t := c.Trans[i]
	for _, s := range t.From {
		if !k.On[s] {
			return false
		}
	}
	for ahead := range i {
		if meet(c.Trans[ahead].From, t.From) && wantLeads(c, k, m, ahead) {
			return false
		}
	}
	return wantOf(t.When, m) != 0
}

// wantFires are the ways that lead on in a chart that is ok.
func wantFires(c impl.Chart, k impl.Marks, m impl.Mem) []int {
	var out []int
	for i := range c.Trans {
		if wantLeads(c, k, m, i) {
			out = append(out, i)
		}
	}
	return out
}

// wantChartStep is a chart that is ok behind one step, told apart from the program: each step and each place is asked
// by itself.
func wantChartStep(c impl.Chart, k impl.Marks, m impl.Mem) (impl.Marks, impl.Mem) {
	fires := wantFires(c, k, m)
	among := func(s int, of func(t impl.Trans) []int) bool {
		return slices.ContainsFunc(fires, func(i int) bool { return slices.Contains(of(c.Trans[i]), s) })
	}
	var out impl.Marks
	begins := make([]bool, c.Steps)
	for s := range c.Steps {
		begins[s] = among(s, func(t impl.Trans) []int { return t.To })
		stays := k.On[s] && !among(s, func(t impl.Trans) []int { return t.From })
		out.On = append(out.On, begins[s] || stays)
	}
	then := copyMem(m)
	for place := range 6 {
		has := func(kind int, of []bool) bool {
			return slices.ContainsFunc(c.Acts, func(a impl.Act) bool { return a.Kind == kind && a.To.At == place && of[a.Step] })
		}
		kept := !has(3, out.On) && (has(2, out.On) || k.Kept[place])
		out.Kept = append(out.Kept, kept)
		if slices.ContainsFunc(c.Acts, func(a impl.Act) bool { return a.To.At == place }) {
			then.Out[place] = wantIs(kept || has(1, out.On) || has(4, begins))
		}
	}
	return out, then
}

// wantFirst is what a chart that is ok begins with.
func wantFirst(c impl.Chart) impl.Marks {
	return marks("1"+strings.Repeat("0", c.Steps-1), "000000")
}

// wantChartText is the text of a chart whose kinds, places and whens are ok, told apart from the program.
func wantChartText(c impl.Chart) string {
	text := "steps " + strconv.Itoa(c.Steps)
	for _, t := range c.Trans {
		text += " ; " + numText(t.From) + " > " + numText(t.To) + " when " + wantText(t.When)
	}
	for _, a := range c.Acts {
		text += " ; " + actWords[a.Kind] + " " + strconv.Itoa(a.Step) + " " + placeTexts[a.To.Kind-1][a.To.At]
	}
	return text
}

// exprFrom is the one whose text words begin with, which there must be, and the words that are left.
func exprFrom(words []string) (impl.Expr, []string) {
	word, rest := words[0], words[1:]
	if a, ok := wantRead(word); ok {
		return at(a), rest
	}
	for kind, w := range kindWords {
		if w == word {
			e := impl.Expr{Kind: kind, Kids: make([]impl.Expr, kindKids[kind])}
			for i := range e.Kids {
				e.Kids[i], rest = exprFrom(rest)
			}
			return e, rest
		}
	}
	n, _ := strconv.Atoi(word)
	return num(n), rest
}

// The pieces of a chart's text.
var (
	chartHead = regexp.MustCompile(`^steps ([1-6])\z`)
	chartWay  = regexp.MustCompile(`^([0-5](?:,[0-5])*) > ([0-5](?:,[0-5])*) when ([^;]+)\z`)
	chartAct  = regexp.MustCompile(`^(with|set|off|begin) ([0-5]) o([0-5])\z`)
)

// wantChartRead is the chart of a text, told apart from the program.
func wantChartRead(text string) (impl.Chart, bool) {
	var c impl.Chart
	pieces := strings.Split(text, " ; ")
	head := chartHead.FindStringSubmatch(pieces[0])
	if head == nil {
		return c, false
	}
	c.Steps = int(head[1][0] - '0')
	for _, piece := range pieces[1:] {
		if parts := chartAct.FindStringSubmatch(piece); parts != nil {
			kind := slices.Index(actWords[:], parts[1])
			c.Acts = append(c.Acts, act(kind, int(parts[2][0]-'0'), int(parts[3][0]-'0')))
			continue
		}
		parts := chartWay.FindStringSubmatch(piece)
		if parts == nil || len(c.Acts) > 0 || !wantExprRead(parts[3]) {
			return impl.Chart{}, false
		}
		e, _ := exprFrom(strings.Split(parts[3], " "))
		c.Trans = append(c.Trans, way(strings.ReplaceAll(parts[1], ",", ""), strings.ReplaceAll(parts[2], ",", ""), e))
	}
	if !wantChartOk(c) {
		return impl.Chart{}, false
	}
	return c, true
}

// someSteps is a list of steps that a way may have.
func someSteps(r *rand.Rand, many int) []int {
	lists := stepLists(many)
	for {
		list := lists[1+r.IntN(len(lists)-1)]
		// Short lists lead on more often.
		if len(list) <= 1+r.IntN(6) {
			return list
		}
	}
}

// someWhen is what a way may go by, mostly something that is so about as often as not.
func someWhen(r *rand.Rand) impl.Expr {
	switch k := r.IntN(10); {
	case k < 3:
		return num([]int{1, -1, 0, 1000000}[r.IntN(4)])
	case k < 7:
		return at(placesOk()[r.IntN(18)])
	case k < 8:
		return part(10, at(placesOk()[r.IntN(18)]))
	}
	return someExpr(r, 14, 5)
}

// someChart is a chart that is ok, of so many steps, and at most so many ways and acts.
func someChart(r *rand.Rand, many int, ways int, acts int) impl.Chart {
	c := impl.Chart{Steps: many}
	for range ways {
		c.Trans = append(c.Trans, impl.Trans{From: someSteps(r, many), To: someSteps(r, many), When: someWhen(r)})
	}
	wide := 1 + r.IntN(6)
	for range acts {
		c.Acts = append(c.Acts, act(1+r.IntN(4), r.IntN(many), r.IntN(wide)))
	}
	return c
}

// someMarks are any marks of a chart, also such to which no row of steps leads.
func someMarks(r *rand.Rand, c impl.Chart) impl.Marks {
	var k impl.Marks
	for range c.Steps {
		k.On = append(k.On, r.IntN(3) > 0)
	}
	for range 6 {
		k.Kept = append(k.Kept, r.IntN(3) == 0)
	}
	return k
}

// fullChart is a chart with as many steps, ways and acts, each way leading round, and each act of another kind.
func fullChart(many int, ways int, acts int) impl.Chart {
	c := impl.Chart{Steps: many}
	for i := range ways {
		c.Trans = append(c.Trans, impl.Trans{From: []int{i % many}, To: []int{(i + 1) % many}, When: at(placesOk()[i%18])})
	}
	for i := range acts {
		c.Acts = append(c.Acts, act(1+i%4, i%many, i%6))
	}
	return c
}

// chartsOk are many charts that are ok: steps alone, each list of steps, each when, each act, what just fits, and more.
func chartsOk() []impl.Chart {
	var out []impl.Chart
	for many := 1; many <= 6; many++ {
		out = append(out, charted(many), impl.Chart{Steps: many, Trans: []impl.Trans{}, Acts: []impl.Act{}})
		out = append(out, fullChart(many, 6, 6), fullChart(many, 6, 0), fullChart(many, 0, 6), fullChart(many, 1, 1))
		for _, list := range stepLists(many)[1:] {
			out = append(out, charted(many, impl.Trans{From: list, To: []int{0}, When: always()}), charted(many, impl.Trans{From: []int{many - 1}, To: list, When: inAt(0)}))
		}
		for kind := 1; kind <= 4; kind++ {
			for s := range many {
				out = append(out, acted(charted(many), act(kind, s, s)), acted(charted(many, way("0", "0", always())), act(kind, s, 5), act(kind, s, 0)))
			}
		}
	}
	for i, e := range exprsOk() {
		if i < 160 || i%20 == 0 {
			out = append(out, charted(2, way("0", "1", e), way("1", "0", part(10, inAt(1)))))
		}
	}
	r := rand.New(rand.NewPCG(8, 8))
	for i := range 3000 {
		out = append(out, someChart(r, 1+i%6, r.IntN(7), r.IntN(7)))
	}
	return out
}

// stepListsBad are lists of steps that no way may have, of so many steps.
func stepListsBad(many int) map[string][]int {
	out := map[string][]int{"none": nil, "empty": {}}
	for _, n := range []int{math.MinInt, -256, -2, -1, many, many + 1, 7, 8, 64, 256, 1 << 32, math.MaxInt} {
		name := strconv.Itoa(n)
		out[name+" alone"] = []int{n}
		out[name+" behind"] = []int{0, n}
		out[name+" ahead"] = []int{n, many - 1}
	}
	for s := range many {
		out[strconv.Itoa(s)+" twice"] = []int{s, s}
		for other := range s {
			name := strconv.Itoa(s) + " and " + strconv.Itoa(other)
			out[name+", the other way"] = []int{s, other}
			out[name+", the first twice"] = []int{other, other, s}
			out[name+", the last twice"] = []int{other, s, s}
			out[name+", the first again"] = []int{other, s, other}
		}
	}
	all := stepLists(many)[1<<many-1]
	out["all, and one behind"] = append(slices.Clone(all), many)
	out["all, and -1 ahead"] = append([]int{-1}, all...)
	out["all twice"] = append(slices.Clone(all), all...)
	out["many of one"] = make([]int, 1000)
	return out
}

// waysBad are ways that are not ok in a chart of so many steps, each by one thing alone where that can be.
func waysBad(many int) map[string]impl.Trans {
	out := map[string]impl.Trans{"nothing": {}}
	for name, list := range stepListsBad(many) {
		out["From: "+name] = impl.Trans{From: list, To: []int{0}, When: always()}
		out["To: "+name] = impl.Trans{From: []int{0}, To: list, When: always()}
		out["both: "+name] = impl.Trans{From: list, To: list, When: always()}
	}
	for name, e := range exprsBad() {
		out["When: "+name] = way("0", "0", e)
	}
	for name, e := range loops() {
		out["When: "+name] = way("0", "0", e)
	}
	return out
}

// actsBad are acts that are not ok in a chart of so many steps, each by one thing alone where that can be.
func actsBad(many int) map[string]impl.Act {
	out := map[string]impl.Act{"nothing": {}, "no place": {Kind: 1}, "no kind": {To: o0}}
	for _, kind := range actNone {
		out["kind "+strconv.Itoa(kind)] = act(kind, 0, 0)
	}
	for kind := 1; kind <= 4; kind++ {
		for _, s := range []int{math.MinInt, -2, -1, many, many + 1, 7, 8, 256, 1 << 32, math.MaxInt} {
			out[actWords[kind]+", step "+strconv.Itoa(s)] = act(kind, s, 0)
		}
		for i, a := range append(placesBad(), append(placesOk()[:6], placesOk()[12:]...)...) {
			out[actWords[kind]+", place "+strconv.Itoa(i)] = impl.Act{Kind: kind, To: a}
		}
	}
	return out
}

// chartsBad are charts that are not ok: of too few or too many steps, of too many ways or acts, or with one that is not.
func chartsBad() map[string]impl.Chart {
	out := map[string]impl.Chart{
		"nothing": {}, "nothing, empty": {Trans: []impl.Trans{}, Acts: []impl.Act{}},
		"seven ways": fullChart(6, 7, 6), "seven ways alone": fullChart(1, 7, 0), "many ways": fullChart(6, 300, 0),
		"seven acts": fullChart(6, 6, 7), "seven acts alone": fullChart(1, 0, 7), "many acts": fullChart(6, 0, 300), "much": fullChart(6, 20, 20),
		"ways without steps": {Trans: []impl.Trans{way("0", "0", always())}}, "acts without steps": {Acts: []impl.Act{act(1, 0, 0)}},
	}
	for _, many := range []int{math.MinInt, -6, -1, 0, 7, 8, 9, 64, 256 + 1, 1<<32 + 1, math.MaxInt} {
		name := strconv.Itoa(many) + " steps"
		out[name] = charted(many)
		full := fullChart(1, 2, 2)
		full.Steps = many
		out[name+", with ways and acts"] = full
	}
	for name, t := range waysBad(3) {
		good := way("0", "1", always())
		out[name+", alone"] = charted(3, t)
		out[name+", last"] = acted(charted(3, good, good, good, good, good, t), act(1, 0, 0))
		out[name+", first"] = charted(3, t, good)
	}
	for name, t := range waysBad(6) {
		out[name+", of six"] = charted(6, t)
	}
	for name, t := range waysBad(1) {
		out[name+", of one"] = charted(1, t)
	}
	for name, a := range actsBad(3) {
		good := act(2, 2, 5)
		out[name+", alone"] = acted(charted(3), a)
		out[name+", last"] = acted(charted(3, way("0", "1", always())), good, good, good, good, good, a)
		out[name+", first"] = acted(charted(3), a, good)
	}
	for name, a := range actsBad(6) {
		out[name+", of six"] = acted(charted(6), a)
	}
	return out
}

func TestChartNames(t *testing.T) {
	got := []int{impl.ActWith, impl.ActSet, impl.ActOff, impl.ActBegin, impl.ChartSteps, impl.ChartTrans, impl.ChartActs}
	if !slices.Equal(got, []int{1, 2, 3, 4, 6, 6, 6}) {
		t.Error(got)
	}
}

// checkChart asks all functions of a chart that is ok, what it does aside.
func checkChart(t *testing.T, c impl.Chart) {
	t.Helper()
	text := wantChartText(c)
	if !wantChartOk(c) || !impl.ChartOk(c) {
		t.Fatalf("ChartOk of %q = %v", text, impl.ChartOk(c))
	}
	if got := impl.ChartNew(c); !sameMarks(got, wantFirst(c)) {
		t.Errorf("ChartNew of %q = %v", text, got)
	}
	if got := impl.ChartText(c); got != text {
		t.Errorf("ChartText = %q, not %q", got, text)
	}
	if got, ok := impl.ChartRead(text); !ok || !sameChart(got, c) {
		t.Errorf("ChartRead(%q) = %v, %v", text, got, ok)
	}
	if !impl.ChartSame(c, copyChart(c)) || !impl.ChartSame(copyChart(c), c) {
		t.Errorf("ChartSame of %q = false", text)
	}
}

// What is ok is told, written, and read as it was written.
func TestChartReadAsWritten(t *testing.T) {
	for _, c := range chartsOk() {
		checkChart(t, c)
	}
}

func TestChartTexts(t *testing.T) {
	less := part(6, at(v0), num(-5))
	for text, c := range map[string]impl.Chart{
		"steps 1":                                                           charted(1),
		"steps 6":                                                           charted(6),
		"steps 1 ; 0 > 0 when 1":                                            charted(1, way("0", "0", num(1))),
		"steps 2 ; 0 > 1 when i0":                                           charted(2, way("0", "1", inAt(0))),
		"steps 2 ; 0,1 > 0,1 when less v0 -5":                               charted(2, way("01", "01", less)),
		"steps 6 ; 0,1,2,3,4,5 > 5 when not o5":                             charted(6, way("012345", "5", part(10, at(o5)))),
		"steps 6 ; 5 > 0,1,2,3,4,5 when 1000000":                            charted(6, way("5", "012345", num(1000000))),
		"steps 6 ; 0,2,5 > 1,4 when 0":                                      charted(6, way("025", "14", num(0))),
		"steps 3 ; 2 > 1 when v0 ; 1 > 0 when v1 ; 0 > 2 when v2":           charted(3, way("2", "1", at(v0)), way("1", "0", at(v1)), way("0", "2", at(v2))),
		"steps 3 ; 2 > 1 when add v0 v1 ; 2 > 1 when add v0 v1":             charted(3, way("2", "1", part(3, at(v0), at(v1))), way("2", "1", part(3, at(v0), at(v1)))),
		"steps 1 ; with 0 o0":                                               acted(charted(1), act(1, 0, 0)),
		"steps 1 ; set 0 o1":                                                acted(charted(1), act(2, 0, 1)),
		"steps 1 ; off 0 o2":                                                acted(charted(1), act(3, 0, 2)),
		"steps 1 ; begin 0 o3":                                              acted(charted(1), act(4, 0, 3)),
		"steps 6 ; begin 5 o5 ; off 4 o4 ; set 3 o5 ; with 2 o5":            acted(charted(6), act(4, 5, 5), act(3, 4, 4), act(2, 3, 5), act(1, 2, 5)),
		"steps 2 ; 0 > 1 when same i0 v1 ; with 1 o4 ; with 1 o4":           acted(charted(2, way("0", "1", part(7, inAt(0), at(v1)))), act(1, 1, 4), act(1, 1, 4)),
		"steps 2 ; 1 > 0 when 5 ; 0 > 1 when or 1 -1 ; off 0 o0 ; set 1 o0": acted(charted(2, way("1", "0", num(5)), way("0", "1", part(9, num(1), num(-1)))), act(3, 0, 0), act(2, 1, 0)),
	} {
		checkChart(t, c)
		if got := impl.ChartText(c); got != text {
			t.Errorf("ChartText = %q, not %q", got, text)
		}
		if got, ok := impl.ChartRead(text); !ok || !sameChart(got, c) {
			t.Errorf("ChartRead(%q) = %v, %v", text, got, ok)
		}
	}
}

// marksFor are marks for a chart that need not be ok, made as if it were.
func marksFor(c impl.Chart) []impl.Marks {
	on := make([]bool, min(max(c.Steps, 0), 300))
	first := slices.Clone(on)
	if len(first) > 0 {
		first[0] = true
	}
	return []impl.Marks{{On: first, Kept: make([]bool, 6)}, {On: on, Kept: make([]bool, 6)}, {}}
}

// checkChartNothing says that neither ways nor a step tell anything at all.
func checkChartNothing(t *testing.T, name string, c impl.Chart, k impl.Marks, m impl.Mem) {
	t.Helper()
	if got := impl.ChartFires(c, k, m); len(got) != 0 {
		t.Errorf("%s: ChartFires = %v", name, got)
	}
	if then, mem := impl.ChartStep(c, k, m); !isNoMarks(then) || !isNothing(mem) {
		t.Errorf("%s: ChartStep leaves %v, %v", name, then, mem)
	}
}

// checkChartBad asks all functions of a chart that is not ok.
func checkChartBad(t *testing.T, name string, c impl.Chart) {
	t.Helper()
	if wantChartOk(c) || impl.ChartOk(c) {
		t.Errorf("ChartOk = %v of a chart that is not ok: %s", impl.ChartOk(c), name)
	}
	if got := impl.ChartNew(c); !isNoMarks(got) {
		t.Errorf("ChartNew = %v of a chart that is not ok: %s", got, name)
	}
	if got := impl.ChartText(c); got != "" {
		t.Errorf("ChartText = %q of a chart that is not ok: %s", got, name)
	}
	for _, k := range marksFor(c) {
		checkChartNothing(t, name, c, k, memOf())
	}
}

// A chart that is not ok tells nothing, whatever it is that makes it so.
func TestChartBad(t *testing.T) {
	for name, c := range chartsBad() {
		checkChartBad(t, name, c)
	}
}

// checkAnyChart holds all functions of a chart, ok or not, against what is wanted.
func checkAnyChart(t *testing.T, name string, c impl.Chart) bool {
	t.Helper()
	if !wantChartOk(c) {
		checkChartBad(t, name, c)
		return false
	}
	checkChart(t, c)
	return true
}

// What is just ok, and what is one too much, written out.
func TestChartBounds(t *testing.T) {
	good, does := way("0", "1", always()), act(1, 1, 0)
	six, doing := slices.Repeat([]impl.Trans{good}, 6), slices.Repeat([]impl.Act{does}, 6)
	to := func(a impl.Addr) impl.Act { return impl.Act{Kind: 2, Step: 1, To: a} }
	for name, c := range map[string]struct {
		c  impl.Chart
		ok bool
	}{
		"no step":                     {charted(0), false},
		"a step":                      {charted(1), true},
		"six steps":                   {charted(6), true},
		"seven steps":                 {charted(7), false},
		"-1 steps":                    {charted(-1), false},
		"six ways":                    {charted(2, six...), true},
		"seven ways":                  {charted(2, append(slices.Clone(six), good)...), false},
		"six acts":                    {acted(charted(2), doing...), true},
		"seven acts":                  {acted(charted(2), append(slices.Clone(doing), does)...), false},
		"six of all":                  {acted(charted(6, six...), doing...), true},
		"From is none":                {charted(2, way("", "1", always())), false},
		"To is none":                  {charted(2, way("0", "", always())), false},
		"From has a step twice":       {charted(2, way("00", "1", always())), false},
		"To has a step twice":         {charted(2, way("0", "11", always())), false},
		"From goes down":              {charted(2, way("10", "1", always())), false},
		"To goes down":                {charted(2, way("0", "10", always())), false},
		"From goes up":                {charted(2, way("01", "1", always())), true},
		"To goes up":                  {charted(2, way("0", "01", always())), true},
		"From is the last":            {charted(2, way("1", "0", always())), true},
		"From is one behind":          {charted(2, way("2", "0", always())), false},
		"To is one behind":            {charted(2, way("0", "2", always())), false},
		"From goes behind":            {charted(2, way("12", "0", always())), false},
		"From is -1":                  {charted(2, impl.Trans{From: []int{-1}, To: []int{0}, When: always()}), false},
		"To is -1":                    {charted(2, impl.Trans{From: []int{0}, To: []int{-1}, When: always()}), false},
		"From begins at -1":           {charted(2, impl.Trans{From: []int{-1, 0}, To: []int{0}, When: always()}), false},
		"all of six":                  {charted(6, way("012345", "012345", always())), true},
		"all of six and one":          {charted(6, way("0123456", "012345", always())), false},
		"a When of 14 parts":          {charted(2, way("0", "1", part(10, tree(7)))), true},
		"a When of 15 parts":          {charted(2, way("0", "1", tree(8))), false},
		"a When with five around":     {charted(2, way("0", "1", nots(5, always()))), true},
		"a When with six around":      {charted(2, way("0", "1", nots(6, always()))), false},
		"a When of nothing":           {charted(2, way("0", "1", impl.Expr{})), false},
		"a When out of bounds":        {charted(2, way("0", "1", num(1000001))), false},
		"an act of kind 0":            {acted(charted(2), act(0, 1, 0)), false},
		"an act of kind 1":            {acted(charted(2), act(1, 1, 0)), true},
		"an act of kind 2":            {acted(charted(2), act(2, 1, 0)), true},
		"an act of kind 3":            {acted(charted(2), act(3, 1, 0)), true},
		"an act of kind 4":            {acted(charted(2), act(4, 1, 0)), true},
		"an act of kind 5":            {acted(charted(2), act(5, 1, 0)), false},
		"an act of kind -1":           {acted(charted(2), act(-1, 1, 0)), false},
		"an act of step -1":           {acted(charted(2), act(1, -1, 0)), false},
		"an act of step 0":            {acted(charted(2), act(1, 0, 0)), true},
		"an act of the last step":     {acted(charted(2), act(1, 1, 0)), true},
		"an act of a step behind":     {acted(charted(2), act(1, 2, 0)), false},
		"an act of step 5":            {acted(charted(6), act(1, 5, 0)), true},
		"an act of step 6":            {acted(charted(6), act(1, 6, 0)), false},
		"an act at -1":                {acted(charted(2), act(1, 1, -1)), false},
		"an act at 5":                 {acted(charted(2), act(1, 1, 5)), true},
		"an act at 6":                 {acted(charted(2), act(1, 1, 6)), false},
		"an act at what comes in":     {acted(charted(2), to(in0)), false},
		"an act at what is kept":      {acted(charted(2), to(v0)), false},
		"an act at nothing":           {acted(charted(2), to(impl.Addr{})), false},
		"an act at a kind behind":     {acted(charted(2), to(impl.Addr{Kind: 4})), false},
		"acts at one place":           {acted(charted(2), act(1, 0, 3), act(1, 0, 3), act(3, 0, 3)), true},
		"a way from a step to itself": {charted(1, way("0", "0", always())), true},
	} {
		if got := impl.ChartOk(c.c); got != c.ok {
			t.Errorf("%s: ChartOk = %v", name, got)
		}
		if checkAnyChart(t, name, c.c) != c.ok {
			t.Errorf("%s: wanted otherwise", name)
		}
	}
}

// checkChartStep is a chart that is ok behind one step, which is asked for twice, and held against what is wanted.
func checkChartStep(t *testing.T, c impl.Chart, k impl.Marks, m impl.Mem) (impl.Marks, impl.Mem) {
	t.Helper()
	fires := impl.ChartFires(c, k, m)
	if want := wantFires(c, k, m); !slices.Equal(fires, want) {
		t.Fatalf("ChartFires of %q, %v, %v = %v, not %v", wantChartText(c), k, m, fires, want)
	}
	got, then := impl.ChartStep(c, k, m)
	want, wantThen := wantChartStep(c, k, m)
	if !sameMarks(got, want) || !sameMem(then, wantThen) {
		t.Fatalf("ChartStep of %q, %v, %v = %v, %v, not %v, %v", wantChartText(c), k, m, got, then, want, wantThen)
	}
	if again, thenAgain := impl.ChartStep(c, k, m); !sameMarks(again, got) || !sameMem(thenAgain, then) {
		t.Fatalf("ChartStep of %q, %v, %v = %v, %v the second time", wantChartText(c), k, m, again, thenAgain)
	}
	return got, then
}

// checkLeft says that no step is left by two ways, and that each way leaves only what is on.
func checkLeft(t *testing.T, c impl.Chart, k impl.Marks, m impl.Mem) int {
	t.Helper()
	fires := impl.ChartFires(c, k, m)
	by := map[int]int{}
	for n, i := range fires {
		if n > 0 && i <= fires[n-1] || i < 0 || i >= len(c.Trans) {
			t.Fatalf("ChartFires of %q = %v", wantChartText(c), fires)
		}
		for _, s := range c.Trans[i].From {
			other, left := by[s]
			if left || !k.On[s] {
				t.Fatalf("ChartFires of %q, %v = %v: step %d is left by %d, and by %d", wantChartText(c), k, fires, s, i, other)
			}
			by[s] = i
		}
	}
	return len(fires)
}

// checkChartRow goes so many steps of a chart from these marks on, with another memory at each.
func checkChartRow(t *testing.T, c impl.Chart, k impl.Marks, many int, r *rand.Rand) int {
	t.Helper()
	m, led := someMem(r), 0
	for range many {
		m.In, m.Var = someMem(r).In, someMem(r).Var
		led += checkLeft(t, c, k, m)
		k, m = checkChartStep(t, c, k, m)
	}
	return led
}

// Promise 8, from the first step on.
func TestChartStepMany(t *testing.T) {
	r := rand.New(rand.NewPCG(1, 8))
	led := 0
	for _, c := range chartsOk() {
		led += checkChartRow(t, c, impl.ChartNew(c), 12, r)
	}
	if led < 10000 {
		t.Errorf("only %d ways led on", led)
	}
}

// Promise 8, from any marks on, of charts with as much as there may be.
func TestChartStepAnyMarks(t *testing.T) {
	r := rand.New(rand.NewPCG(2, 8))
	led := 0
	for i := range 6000 {
		c := someChart(r, 1+i%6, 6-r.IntN(2), 6-r.IntN(2))
		led += checkChartRow(t, c, someMarks(r, c), 6, r)
	}
	if led < 20000 {
		t.Errorf("only %d ways led on", led)
	}
}

// keeping is which places are kept, told of a whole row of steps: by when a place was put on, and off, for the last time.
func keeping(c impl.Chart, first impl.Marks, row []impl.Marks) []bool {
	last := func(kind int, place int) int {
		at := -1
		for i, k := range row {
			for _, a := range c.Acts {
				if a.Kind == kind && a.To.At == place && k.On[a.Step] {
					at = i
				}
			}
		}
		return at
	}
	var out []bool
	for place := range 6 {
		on, off := last(2, place), last(3, place)
		out = append(out, on > off || first.Kept[place] && off < 0)
	}
	return out
}

// Promise 8: what an ActSet kept is on, step after step, till an ActOff whose step is on.
func TestChartStaysOn(t *testing.T) {
	r := rand.New(rand.NewPCG(3, 8))
	stayed := 0
	for i := range 800 {
		c := someChart(r, 2+i%5, 6, 0)
		for range 6 {
			c.Acts = append(c.Acts, act([]int{2, 2, 3, 3, 1}[r.IntN(5)], r.IntN(c.Steps), r.IntN(3)))
		}
		first := impl.ChartNew(c)
		if i%2 == 0 {
			first = someMarks(r, c)
		}
		k, m := first, impl.MemOpen()
		var row []impl.Marks
		for range 25 {
			m.In, m.Var = someMem(r).In, someMem(r).Var
			k, m = impl.ChartStep(c, k, m)
			row = append(row, k)
			want := keeping(c, first, row)
			if !slices.Equal(k.Kept, want) {
				t.Fatalf("%q: %v is kept, not %v, behind %v", wantChartText(c), k.Kept, want, row)
			}
			for _, a := range c.Acts {
				on := slices.ContainsFunc(c.Acts, func(other impl.Act) bool { return other.Kind == 1 && other.To == a.To && k.On[other.Step] })
				if m.Out[a.To.At] != wantIs(want[a.To.At] || on) {
					t.Fatalf("%q leaves %v, with %v", wantChartText(c), m, k)
				}
				stayed += wantIs(a.Kind == 2 && want[a.To.At] && !k.On[a.Step])
			}
		}
	}
	if stayed < 1000 {
		t.Errorf("only %d times something stayed on", stayed)
	}
}

// everyMarks are all marks of so many steps, with nothing kept.
func everyMarks(many int) []impl.Marks {
	var out []impl.Marks
	for bits := range 1 << many {
		on := make([]bool, many)
		for s := range on {
			on[s] = bits>>s&1 == 1
		}
		out = append(out, impl.Marks{On: on, Kept: make([]bool, 6)})
	}
	return out
}

// everySo are memories in which each of so many that come in is so, or not.
func everySo(many int) []impl.Mem {
	var out []impl.Mem
	for bits := range 1 << many {
		m := impl.MemOpen()
		for i := range many {
			m.In[i] = bits >> i & 1
		}
		out = append(out, m)
	}
	return out
}

// Every pair of ways of three steps, with every mark, both so or not.
func TestChartEveryTwoWays(t *testing.T) {
	var ways []impl.Trans
	for _, from := range stepLists(3)[1:] {
		for _, to := range stepLists(3)[1:] {
			ways = append(ways, impl.Trans{From: from, To: to})
		}
	}
	all, mems := everyMarks(3), everySo(2)
	for _, a := range ways {
		for _, b := range ways {
			a.When, b.When = inAt(0), inAt(1)
			c := acted(charted(3, a, b), act(1, 0, 0), act(4, 0, 1), act(4, 1, 2), act(4, 2, 3))
			for _, k := range all {
				for _, m := range mems {
					checkChartStep(t, c, k, m)
				}
			}
		}
	}
}

// Every three ways out of four steps, by what they leave, with marks of all but one step, and of all, each so or not.
func TestChartEveryThreeWays(t *testing.T) {
	lists := stepLists(4)[1:]
	all := []impl.Marks{marks("1111", "000000"), marks("0111", "000000"), marks("1101", "000000")}
	mems := everySo(3)
	for _, first := range lists {
		for _, second := range lists {
			for _, third := range lists {
				c := charted(4, impl.Trans{From: first, To: []int{0}, When: inAt(0)}, impl.Trans{From: second, To: []int{1, 2}, When: inAt(1)}, impl.Trans{From: third, To: []int{3}, When: inAt(2)})
				for _, k := range all {
					for _, m := range mems {
						if got, want := impl.ChartFires(c, k, m), wantFires(c, k, m); !slices.Equal(got, want) {
							t.Fatalf("ChartFires of %q, %v, %v = %v, not %v", wantChartText(c), k, m, got, want)
						}
					}
				}
			}
		}
	}
}

// firesCase is which ways lead on, of these steps and of what comes in, a sign each; and which steps are on then.
type firesCase struct{ text, on, in, fires, then string }

func checkFiresCase(t *testing.T, f firesCase) {
	t.Helper()
	c, ok := impl.ChartRead(f.text)
	if !ok {
		t.Fatalf("ChartRead(%q)", f.text)
	}
	m := impl.MemOpen()
	for i, s := range steps(f.in) {
		m.In[i] = s
	}
	k := marks(f.on, "000000")
	then, _ := checkChartStep(t, c, k, m)
	if got := numText(impl.ChartFires(c, k, m)); got != f.fires || flagText(then.On) != f.then {
		t.Errorf("%q, on %s, in %s: %s lead on to %s, not %s to %s", f.text, f.on, f.in, got, flagText(then.On), f.fires, f.then)
	}
}

// Two ways out of one step.
func TestChartTwoWaysOut(t *testing.T) {
	const two = "steps 3 ; 0 > 1 when i0 ; 0 > 2 when i1"
	const also = "steps 4 ; 0 > 2 when i0 ; 0,1 > 3 when i1"
	const alsoFirst = "steps 4 ; 0,1 > 3 when i0 ; 0 > 2 when i1 ; 1 > 2 when i2"
	const row = "steps 6 ; 0,1 > 3 when i0 ; 1,2 > 4 when i1 ; 2 > 5 when i2"
	for _, f := range []firesCase{
		{two, "100", "11", "0", "010"}, {two, "100", "10", "0", "010"}, {two, "100", "01", "1", "001"}, {two, "100", "00", "", "100"},
		{two, "000", "11", "", "000"}, {two, "010", "11", "", "010"}, {two, "111", "11", "0", "011"}, {two, "101", "01", "1", "001"},
		{also, "1100", "11", "0", "0110"}, {also, "1100", "01", "1", "0001"}, {also, "0100", "11", "", "0100"}, {also, "1000", "11", "0", "0010"}, {also, "1000", "01", "", "1000"},
		{alsoFirst, "1100", "111", "0", "0001"}, {alsoFirst, "1000", "111", "1", "0010"}, {alsoFirst, "0100", "111", "2", "0010"}, {alsoFirst, "1100", "011", "1,2", "0010"}, {alsoFirst, "1100", "001", "2", "1010"},
		{row, "111000", "111", "0,2", "000101"}, {row, "111000", "011", "1", "100010"}, {row, "111000", "110", "0", "001100"}, {row, "111000", "101", "0,2", "000101"}, {row, "111000", "001", "2", "110001"},
		{row, "011000", "111", "1", "000010"}, {row, "101000", "111", "2", "100001"}, {row, "001000", "111", "2", "000001"}, {row, "110000", "111", "0", "000100"},
		{"steps 3 ; 0 > 1 when 0 ; 0 > 2 when 1", "100", "", "1", "001"},
		{"steps 3 ; 0 > 1 when 1 ; 0 > 1 when 1 ; 0 > 2 when 1", "100", "", "0", "010"},
		{"steps 3 ; 1 > 2 when 1 ; 0 > 1 when 1 ; 1 > 0 when 1", "110", "", "0,1", "011"},
		{"steps 3 ; 0 > 1 when 1 ; 1 > 2 when 1 ; 2 > 0 when 1", "100", "", "0", "010"},
		{"steps 3 ; 0 > 1 when 1 ; 1 > 2 when 1 ; 2 > 0 when 1", "111", "", "0,1,2", "111"},
		{"steps 3 ; 0 > 0 when 1 ; 0 > 1 when 1", "100", "", "0", "100"},
		{"steps 2 ; 0 > 1 when i0 ; 0 > 0 when i1 ; 0 > 0,1 when i2", "10", "011", "1", "10"},
		{"steps 2 ; 0 > 1 when -1 ; 1 > 0 when -1000000", "11", "", "0,1", "11"},
	} {
		checkFiresCase(t, f)
	}
}

// All six ways out of one step: the first that is so, and no other.
func TestChartSixWaysOut(t *testing.T) {
	c := impl.Chart{Steps: 6}
	for i := range 6 {
		c.Trans = append(c.Trans, impl.Trans{From: []int{0}, To: []int{5 - i}, When: inAt(i)})
	}
	for so, m := range everySo(6) {
		k, _ := checkChartStep(t, c, marks("100000", "000000"), m)
		first := slices.IndexFunc(m.In, impl.NumOn)
		want := marks("100000", "000000")
		if first >= 0 {
			want.On[0] = false
			want.On[5-first] = true
		}
		if got := impl.ChartFires(c, marks("100000", "000000"), m); !sameMarks(k, want) || len(got) != wantIs(so > 0) || so > 0 && got[0] != first {
			t.Errorf("of %v %v lead on to %v", m.In, got, k)
		}
	}
}

// comeCase is which steps are on behind one step of a memory of zeros, and which of them begin.
type comeCase struct{ text, on, then, begins string }

// Steps that are left and come to at once, that are come to by two ways, and that are on already.
func TestChartComeTo(t *testing.T) {
	for _, c := range []comeCase{
		{"steps 1 ; 0 > 0 when 1", "1", "1", "1"},
		{"steps 1 ; 0 > 0 when 0", "1", "1", "0"},
		{"steps 1 ; 0 > 0 when 1", "0", "0", "0"},
		{"steps 2 ; 0 > 0,1 when 1", "10", "11", "11"},
		{"steps 2 ; 0,1 > 1 when 1", "11", "01", "01"},
		{"steps 2 ; 0,1 > 0,1 when 1", "11", "11", "11"},
		{"steps 2 ; 0 > 1 when 1 ; 1 > 0 when 1", "11", "11", "11"},
		{"steps 2 ; 1 > 0 when 1 ; 0 > 1 when 1", "11", "11", "11"},
		{"steps 2 ; 0 > 1 when 1 ; 1 > 0 when 0", "11", "01", "01"},
		{"steps 2 ; 0 > 1 when 1", "11", "01", "01"},
		{"steps 2 ; 0 > 1 when 0", "11", "11", "00"},
		{"steps 3 ; 0 > 2 when 1 ; 1 > 2 when 1", "110", "001", "001"},
		{"steps 3 ; 0 > 2 when 1 ; 1 > 2 when 1", "111", "001", "001"},
		{"steps 3 ; 0 > 2 when 1 ; 1 > 2 when 0", "111", "011", "001"},
		{"steps 3 ; 0 > 1,2 when 1 ; 1 > 2 when 1", "110", "011", "011"},
		{"steps 3 ; 1 > 2 when 1 ; 0 > 1,2 when 1", "110", "011", "011"},
		{"steps 3 ; 0 > 1 when 1 ; 1 > 1,2 when 1", "110", "011", "011"},
		{"steps 3 ; 0 > 1 when 1 ; 2 > 1 when 1 ; 1 > 0 when 1", "111", "110", "110"},
		{"steps 3 ; 1 > 0 when 1 ; 0 > 1 when 1 ; 2 > 1 when 1", "111", "110", "110"},
		{"steps 4 ; 0,1,2 > 1,2,3 when 1", "1110", "0111", "0111"},
		{"steps 4 ; 0,1 > 1,2 when 1 ; 2 > 2,3 when 1", "1110", "0111", "0111"},
		{"steps 4 ; 0,3 > 0,3 when 1", "1101", "1101", "1001"},
		{"steps 6 ; 0,2,4 > 0,1,2,3,4,5 when 1 ; 1,3,5 > 0 when 1", "111111", "111111", "111111"},
		{"steps 6 ; 0,2,4 > 1,3 when 1 ; 1,3,5 > 0,2 when 1", "111111", "111100", "111100"},
		{"steps 3", "101", "101", "000"},
	} {
		read, ok := impl.ChartRead(c.text)
		for s := range read.Steps {
			read.Acts = append(read.Acts, act(4, s, s))
		}
		k, m := checkChartStep(t, read, marks(c.on, "000000"), impl.MemOpen())
		begins := strings.ReplaceAll(numText(m.Out), ",", "")
		if !ok || flagText(k.On) != c.then || begins != c.begins+strings.Repeat("0", 6-read.Steps) {
			t.Errorf("%q, on %s: %s, and %s begin, not %s, %s", c.text, c.on, flagText(k.On), begins, c.then, c.begins)
		}
	}
}

// Each kind of act, with its step off, on without beginning, coming on, and on already and beginning; kept ahead of it or
// not.
func TestChartActTable(t *testing.T) {
	for _, c := range []struct {
		kind int
		// For each of the four, what is kept, and what is put, with nothing kept ahead, and with the place kept.
		kept, out, keptOn, outOn string
	}{
		{1, "0000", "0111", "1111", "1111"},
		{2, "0111", "0111", "1111", "1111"},
		{3, "0000", "0000", "1000", "1000"},
		{4, "0000", "0011", "1111", "1111"},
	} {
		for state, on := range []string{"100", "010", "100", "110"} {
			ways := []impl.Trans{way("2", "1", always())}
			if state >= 2 {
				ways[0] = way("0", "1", always())
			}
			for place := range 6 {
				n := acted(charted(3, ways...), act(c.kind, 1, place))
				for _, ahead := range []int{0, 1, 7, -1000000} {
					k, m := marks(on, "000000"), memOf()
					m.Out[place] = ahead
					wantOut := copyMem(m)
					kept := flags("000000")
					then, mem := checkChartStep(t, n, k, m)
					kept[place], wantOut.Out[place] = c.kept[state] == '1', int(c.out[state]-'0')
					if !slices.Equal(then.Kept, kept) || !sameMem(mem, wantOut) {
						t.Errorf("%q, on %s: %v, %v", wantChartText(n), on, then, mem)
					}
					k.Kept[place] = true
					then, mem = checkChartStep(t, n, k, m)
					kept[place], wantOut.Out[place] = c.keptOn[state] == '1', int(c.outOn[state]-'0')
					if !slices.Equal(then.Kept, kept) || !sameMem(mem, wantOut) {
						t.Errorf("%q, on %s, kept: %v, %v", wantChartText(n), on, then, mem)
					}
				}
			}
		}
	}
}

// everyAct are acts of all kinds, of the first steps, and at the first places.
func everyAct(many int, places int) []impl.Act {
	var out []impl.Act
	for kind := 1; kind <= 4; kind++ {
		for s := range many {
			for place := range places {
				out = append(out, act(kind, s, place))
			}
		}
	}
	return out
}

// actCharts are charts of two steps without acts, by how they lead on.
func actCharts() []impl.Chart {
	return []impl.Chart{charted(2), charted(2, way("0", "1", always())), charted(2, way("1", "0", always())), charted(2, way("0", "0", always())), charted(2, way("0", "01", always())), charted(2, way("0", "1", always()), way("1", "0", always()))}
}

// Every two acts of two steps at two places, with all marks and all that is kept.
func TestChartEveryTwoActs(t *testing.T) {
	m := memOf()
	for _, a := range everyAct(2, 2) {
		for _, b := range everyAct(2, 2) {
			for _, c := range actCharts() {
				for _, k := range everyMarks(2) {
					for _, kept := range []string{"000000", "100000", "010000", "110001"} {
						k.Kept = flags(kept)
						checkChartStep(t, acted(c, a, b), k, m)
					}
				}
			}
		}
	}
}

// Every three acts at one place, of two steps; in whatever order they stand, what they do is the same.
func TestChartEveryThreeActs(t *testing.T) {
	m := memOf()
	acts := everyAct(2, 1)
	for i, a := range acts {
		for j, b := range acts[i:] {
			for _, third := range acts[i+j:] {
				for _, c := range actCharts() {
					for _, k := range everyMarks(2) {
						for _, kept := range []string{"000000", "100000"} {
							k.Kept = flags(kept)
							then, mem := checkChartStep(t, acted(c, a, b, third), k, m)
							for _, order := range [][]impl.Act{{a, third, b}, {b, a, third}, {b, third, a}, {third, a, b}, {third, b, a}} {
								if other, memOther := impl.ChartStep(acted(c, order...), k, m); !sameMarks(other, then) || !sameMem(memOther, mem) {
									t.Fatalf("%v leaves %v, %v, not %v, %v", order, other, memOther, then, mem)
								}
							}
						}
					}
				}
			}
		}
	}
}

// Acts of many kinds, steps and places, in another order: they do the same.
func TestChartActsTurned(t *testing.T) {
	r := rand.New(rand.NewPCG(4, 8))
	for i := range 1500 {
		c := someChart(r, 1+i%6, r.IntN(7), 6)
		other := copyChart(c)
		r.Shuffle(6, func(i int, j int) { other.Acts[i], other.Acts[j] = other.Acts[j], other.Acts[i] })
		k, m := someMarks(r, c), someMem(r)
		for range 6 {
			then, mem := checkChartStep(t, other, k, m)
			k, m = checkChartStep(t, c, k, m)
			if !sameMarks(then, k) || !sameMem(mem, m) {
				t.Fatalf("%q leaves %v, %v, %q %v, %v", wantChartText(c), k, m, wantChartText(other), then, mem)
			}
		}
	}
}

// chartRow is which steps are on behind each step, and what is at o0, o1 and o2 then, of a number a step that comes in
// at i0; from the first step on, and a memory of zeros.
type chartRow struct{ text, ins, want string }

func checkChartText(t *testing.T, row chartRow) {
	t.Helper()
	c, ok := impl.ChartRead(row.text)
	if !ok {
		t.Fatalf("ChartRead(%q)", row.text)
	}
	k, m := impl.ChartNew(c), impl.MemOpen()
	var got []string
	for _, in := range steps(row.ins) {
		m.In[0] = in
		k, m = checkChartStep(t, c, k, m)
		got = append(got, flagText(k.On)+":"+strings.ReplaceAll(numText(m.Out[:3]), ",", ""))
	}
	if text := strings.Join(got, " "); text != row.want {
		t.Errorf("%q of %s: %s, not %s", row.text, row.ins, text, row.want)
	}
}

// Rows of steps, written out.
func TestChartRows(t *testing.T) {
	for _, row := range []chartRow{
		{"steps 1 ; with 0 o0", "000", "1:100 1:100 1:100"},
		{"steps 1 ; begin 0 o0", "000", "1:000 1:000 1:000"},
		{"steps 1 ; 0 > 0 when i0 ; begin 0 o0 ; with 0 o1", "0110", "1:010 1:110 1:110 1:010"},
		{"steps 2 ; 0 > 1 when i0 ; 1 > 0 when i0 ; with 1 o0 ; begin 1 o1 ; set 1 o2", "0101010", "10:000 01:111 01:101 10:001 10:001 01:111 01:101"},
		{"steps 2 ; 0 > 1 when i0 ; 1 > 0 when i0 ; set 1 o0 ; off 0 o0", "0101", "10:000 01:100 01:100 10:000"},
		{"steps 3 ; 0 > 1 when i0 ; 1 > 2 when i0 ; 2 > 0 when i0 ; set 1 o0 ; off 0 o0", "110110", "010:100 001:100 001:100 100:000 010:100 010:100"},
		{"steps 3 ; 0 > 1 when 1 ; 1 > 2 when 1 ; set 1 o0 ; off 1 o0", "000", "010:000 001:000 001:000"},
		{"steps 3 ; 0 > 1 when 1 ; 1 > 2 when 1 ; off 1 o0 ; set 1 o0 ; with 1 o0", "000", "010:100 001:000 001:000"},
		{"steps 2 ; 0 > 0,1 when i0 ; set 0 o0 ; off 1 o0 ; set 1 o1", "0101", "10:100 11:010 11:010 11:010"},
		{"steps 2 ; 0 > 0,1 when i0 ; off 1 o0 ; set 0 o0 ; set 1 o1", "0101", "10:100 11:010 11:010 11:010"},
		{"steps 3 ; 0 > 1 when i0 ; 0 > 2 when 1 ; set 1 o1 ; set 2 o2", "10", "010:010 010:010"},
		{"steps 3 ; 0 > 1 when i0 ; 0 > 2 when 1 ; set 1 o1 ; set 2 o2", "01", "001:001 001:001"},
		{"steps 2 ; 0 > 1 when 1 ; 1 > 0 when 1 ; begin 0 o0 ; begin 1 o0", "000", "01:100 10:100 01:100"},
		{"steps 3 ; 0 > 1,2 when 1 ; 1,2 > 0 when i0 ; with 1 o1 ; with 2 o2 ; with 0 o0", "0010", "011:011 011:011 100:100 011:011"},
	} {
		checkChartText(t, row)
	}
}

// A when that reads a place that an act puts: the memory as it was given is read, in the whole step.
func TestChartWhenReadsOut(t *testing.T) {
	for _, row := range []chartRow{
		{"steps 2 ; 0 > 1 when o0 ; with 0 o0", "000", "10:100 01:000 01:000"},
		{"steps 2 ; 0 > 1 when not o0 ; 1 > 0 when o0 ; with 1 o0", "0000", "01:100 10:000 01:100 10:000"},
		{"steps 2 ; 0 > 1 when o0 ; 1 > 0 when o0 ; set 0 o0 ; begin 1 o1", "0000", "10:100 01:110 10:100 01:110"},
		{"steps 3 ; 0 > 1 when i0 ; 1 > 2 when o0 ; 2 > 0 when o0 ; begin 1 o0", "100000", "010:100 001:000 001:000 001:000 001:000 001:000"},
		{"steps 2 ; 0 > 0,1 when not o1 ; 1 > 1 when o1 ; with 1 o1 ; begin 1 o0", "000", "11:110 11:110 11:110"},
		{"steps 2 ; 0 > 1 when same o0 o1 ; 1 > 0 when less o1 o0 ; with 1 o0 ; with 0 o1", "0000", "01:100 10:010 10:010 10:010"},
	} {
		checkChartText(t, row)
	}
	for _, place := range placesOk() {
		for _, n := range edgeNums {
			m := memOf()
			(*listOf(&m, place.Kind))[place.At] = n
			k := marks("10", "000000")
			c := acted(charted(2, way("0", "1", at(place))), act(3, 0, 0), act(3, 1, 1), act(1, 0, 2), act(1, 1, 3), act(2, 0, 4), act(4, 0, 5))
			then, _ := checkChartStep(t, c, k, m)
			if then.On[1] != (n != 0) || then.On[0] == (n != 0) {
				t.Errorf("%q with %d leaves %v", wantChartText(c), n, then)
			}
		}
	}
}

// With no step on no way leads on; the acts put what is kept, and 0.
func TestChartNoStepOn(t *testing.T) {
	r := rand.New(rand.NewPCG(5, 8))
	for _, c := range chartsOk() {
		k := someMarks(r, c)
		k.On = make([]bool, c.Steps)
		m := memOf()
		then, mem := checkChartStep(t, c, k, m)
		if len(impl.ChartFires(c, k, m)) != 0 || !sameMarks(then, k) {
			t.Fatalf("%q with no step on leaves %v of %v", wantChartText(c), then, k)
		}
		want := copyMem(m)
		for _, a := range c.Acts {
			want.Out[a.To.At] = wantIs(k.Kept[a.To.At])
		}
		if !sameMem(mem, want) {
			t.Fatalf("%q with no step on leaves %v, not %v", wantChartText(c), mem, want)
		}
	}
}

// A place that is kept and that no act names stays kept, and what is there stays; so does all that comes in and is kept
// in the memory.
func TestChartOtherPlaces(t *testing.T) {
	r := rand.New(rand.NewPCG(6, 8))
	for i := range 600 {
		c := someChart(r, 1+i%6, r.IntN(7), r.IntN(7))
		k, m := someMarks(r, c), memOf()
		for range 5 {
			was, wasMem := copyMarks(k), copyMem(m)
			k, m = checkChartStep(t, c, k, m)
			for place := range 6 {
				named := slices.ContainsFunc(c.Acts, func(a impl.Act) bool { return a.To.At == place })
				if !named && (k.Kept[place] != was.Kept[place] || m.Out[place] != wasMem.Out[place]) {
					t.Fatalf("%q turns place %d: %v, %v", wantChartText(c), place, k, m)
				}
			}
			if !slices.Equal(m.In, wasMem.In) || !slices.Equal(m.Var, wasMem.Var) {
				t.Fatalf("%q turns %v into %v", wantChartText(c), wasMem, m)
			}
		}
	}
}

// marksBad are marks that are not of a chart of so many steps.
func marksBad(many int) map[string]impl.Marks {
	out := map[string]impl.Marks{"nothing": {}, "no On": {Kept: make([]bool, 6)}, "no Kept": {On: make([]bool, many)}, "empty": {On: []bool{}, Kept: []bool{}}}
	for _, on := range []int{0, many - 1, many + 1, 6, 7, 8, 9, 64, 300} {
		for _, set := range bothWays {
			if on != many {
				out[strconv.Itoa(on)+" On "+strconv.FormatBool(set)] = impl.Marks{On: slices.Repeat([]bool{set}, on), Kept: make([]bool, 6)}
			}
		}
	}
	for _, kept := range []int{0, 1, 5, 7, 8, 9, 12, 64, 300} {
		for _, set := range bothWays {
			out[strconv.Itoa(kept)+" Kept "+strconv.FormatBool(set)] = impl.Marks{On: flags("1" + strings.Repeat("0", many-1)), Kept: slices.Repeat([]bool{set}, kept)}
		}
	}
	out["both too few"] = impl.Marks{On: make([]bool, many-1), Kept: make([]bool, 5)}
	out["both too many"] = impl.Marks{On: make([]bool, many+1), Kept: make([]bool, 7)}
	out["On too few, with room"] = impl.Marks{On: make([]bool, many)[:many-1], Kept: make([]bool, 6)}
	out["Kept too few, with room"] = impl.Marks{On: make([]bool, many), Kept: make([]bool, 6)[:5]}
	return out
}

func TestChartStepBadMarks(t *testing.T) {
	for many := 1; many <= 6; many++ {
		for _, c := range []impl.Chart{charted(many), fullChart(many, 6, 6), charted(many, way("0", "0", always())), acted(charted(many), act(2, 0, 5))} {
			for name, k := range marksBad(many) {
				checkChartNothing(t, wantChartText(c)+", "+name, c, k, memOf())
			}
			if k, m := impl.ChartStep(c, wantFirst(c), memOf()); isNoMarks(k) || isNothing(m) {
				t.Errorf("ChartStep of %q leaves nothing", wantChartText(c))
			}
		}
	}
}

func TestChartStepBadMem(t *testing.T) {
	for _, c := range []impl.Chart{charted(1), fullChart(6, 6, 6), charted(2, way("0", "1", always())), acted(charted(2), act(2, 0, 5))} {
		for name, m := range memsBad() {
			checkChartNothing(t, wantChartText(c)+", "+name, c, wantFirst(c), m)
		}
	}
	checkChartNothing(t, "nothing", impl.Chart{}, impl.Marks{}, impl.Mem{})
	checkChartNothing(t, "nothing but memory", impl.Chart{}, impl.Marks{}, memOf())
	checkChartNothing(t, "nothing but a chart", charted(1), impl.Marks{}, impl.Mem{})
	checkChartNothing(t, "no chart", impl.Chart{}, marks("1", "000000"), memOf())
}

// checkChartRead holds what is read against what must be.
func checkChartRead(t *testing.T, text string) bool {
	t.Helper()
	got, ok := impl.ChartRead(text)
	want, wantOk := wantChartRead(text)
	if ok != wantOk || !sameChart(got, want) {
		t.Errorf("ChartRead(%q) = %v, %v, not %v, %v", text, got, ok, want, wantOk)
	}
	if again := impl.ChartText(got); ok && again != text {
		t.Errorf("ChartText of what is read from %q = %q", text, again)
	}
	return ok
}

func TestChartReadNone(t *testing.T) {
	for _, text := range []string{
		"", " ", "-", ";", " ; ", "\n", "\x00", "\xff", "steps", "steps ", "steps  1", " steps 1", "steps 1 ", "steps 1\n", "steps\t1", "steps\u00a01", "steps1", "step 1", "Steps 1", "STEPS 1", "stepss 1", "1", "1 steps", "steps 1 1", "steps steps 1",
		"steps 0", "steps 7", "steps 10", "steps -1", "steps +1", "steps 01", "steps 1.0", "steps 1e0", "steps 0x1", "steps １", "steps ١", "steps 99999999999999999999", "steps 18446744073709551617", "steps -", "steps a", "steps ,", "steps 1,2", "steps 4294967297",
		"; steps 1", "steps 1 ;", "steps 1 ; ", " ; steps 1", "steps 1 ; ; ", "steps 1;", "steps 1 ; -", "steps 1 ; steps 1", "steps 1 steps 1", "- ; steps 1",
		"0 > 0 when 1", "with 0 o0", "with 0 o0 ; steps 1", "0 > 1 when 1 ; steps 2", "steps 2 ; 0 > 1 when 1 ; steps 2",
		"steps 2 ; 0 > 1", "steps 2 ; 0 > 1 when", "steps 2 ; 0 > 1 when ", "steps 2 ; 0 >", "steps 2 ; 0", "steps 2 ; > 1 when 1", "steps 2 ;  > 1 when 1", "steps 2 ; 0 > when 1", "steps 2 ; 0 >  when 1", "steps 2 ; 0 1 when 1", "steps 2 ; 0 > 1 1", "steps 2 ; 0 > 1 if 1", "steps 2 ; 0 < 1 when 1", "steps 2 ; 0 -> 1 when 1", "steps 2 ; 0 => 1 when 1", "steps 2 ; 0>1 when 1", "steps 2 ; 0 >1 when 1", "steps 2 ; 0> 1 when 1", "steps 2 ; 0 > 1when 1", "steps 2 ; 0 > 1 when1", "steps 2 ; 0 > 1 When 1", "steps 2 ; 0 > 1 WHEN 1", "steps 2 ; when 1 0 > 1",
		"steps 2 ; 0  > 1 when 1", "steps 2 ; 0 >  1 when 1", "steps 2 ; 0 > 1  when 1", "steps 2 ; 0 > 1 when  1", "steps 2 ; 0 > 1 when 1 ", "steps 2 ;  0 > 1 when 1", "steps 2  ; 0 > 1 when 1", "steps 2; 0 > 1 when 1", "steps 2 ;0 > 1 when 1", "steps 2 0 > 1 when 1", "steps 2 ; ; 0 > 1 when 1", "steps 2 ; 0 > 1 when 1 ;", "steps 2 ; 0 > 1 when 1 ; ", "steps 2 ; 0 > 1 when 1 0 > 1 when 1", "steps 2 ; 0 > 1 when 1 ; ; with 0 o0",
		"steps 2 ; 0 > 2 when 1", "steps 2 ; 2 > 0 when 1", "steps 2 ; 0,2 > 0 when 1", "steps 2 ; 0 > 0,2 when 1", "steps 2 ; -1 > 0 when 1", "steps 2 ; 0 > -1 when 1", "steps 2 ; 1,0 > 0 when 1", "steps 2 ; 0 > 1,0 when 1", "steps 2 ; 0,0 > 1 when 1", "steps 2 ; 0 > 1,1 when 1", "steps 6 ; 0,1,2,3,4,5,6 > 0 when 1", "steps 6 ; 0 > 0,1,2,3,4,5,5 when 1",
		"steps 2 ; ,0 > 1 when 1", "steps 2 ; 0, > 1 when 1", "steps 2 ; 0,,1 > 1 when 1", "steps 2 ; 0 > ,1 when 1", "steps 2 ; 0 > 1, when 1", "steps 2 ; 0 > 0,,1 when 1", "steps 2 ; , > 1 when 1", "steps 2 ; 0 > , when 1", "steps 2 ; 0, 1 > 1 when 1", "steps 2 ; 0 ,1 > 1 when 1", "steps 2 ; 0 1 > 1 when 1", "steps 2 ; 0 , 1 > 1 when 1", "steps 2 ; 0;1 > 1 when 1", "steps 2 ; 0.1 > 1 when 1", "steps 2 ; 01 > 1 when 1", "steps 2 ; 0 > 01 when 1", "steps 2 ; 0,01 > 1 when 1", "steps 2 ; +0 > 1 when 1", "steps 2 ; -0 > 1 when 1", "steps 2 ; 0 > +1 when 1", "steps 2 ; 00 > 1 when 1", "steps 2 ; s0 > 1 when 1", "steps 2 ; [0] > 1 when 1", "steps 2 ; - > 1 when 1", "steps 2 ; 0 > - when 1", "steps 2 ; 0 > 99999999999999999999 when 1", "steps 2 ; 0 > 18446744073709551616 when 1",
		"steps 2 ; 0 > 1 when i6", "steps 2 ; 0 > 1 when add 1", "steps 2 ; 0 > 1 when 1 2", "steps 2 ; 0 > 1 when 01", "steps 2 ; 0 > 1 when +1", "steps 2 ; 0 > 1 when 1000001", "steps 2 ; 0 > 1 when fly", "steps 2 ; 0 > 1 when -", "steps 2 ; 0 > 1 when not not not not not not 1", "steps 2 ; 0 > 1 when or add 1 2 add add 1 2 add add 1 2 add 1 add 1 2", "steps 2 ; 0 > 1 when w0", "steps 2 ; 0 > 1 when !i0", "steps 2 ; 0 > 1 when when 1", "steps 2 ; 0 > 1 when 1 when 1", "steps 2 ; 0 > 1 > 0 when 1", "steps 2 ; 0 > 1 when with 0 o0",
		"steps 2 ; with 0", "steps 2 ; with o0", "steps 2 ; with", "steps 2 ; 0 o0", "steps 2 ; with 0 o0 ;", "steps 2 ; with 0 o0 ; ", "steps 2 ; with 0 o0 o0", "steps 2 ; with 0 0 o0", "steps 2 ; with 2 o0", "steps 2 ; with -1 o0", "steps 2 ; with 00 o0", "steps 2 ; with 01 o0", "steps 2 ; with +1 o0", "steps 2 ; with 0,1 o0", "steps 2 ; with 0, o0", "steps 2 ; with 0 o0,o1", "steps 2 ; with 0 o6", "steps 2 ; with 0 o00", "steps 2 ; with 0 o-1", "steps 2 ; with 0 i0", "steps 2 ; with 0 v0", "steps 2 ; with 0 w0", "steps 2 ; with 0 0", "steps 2 ; with 0 O0", "steps 2 ; with o0 0", "steps 2 ; 0 with o0",
		"steps 2 ; With 0 o0", "steps 2 ; SET 0 o0", "steps 2 ; on 0 o0", "steps 2 ; reset 0 o0", "steps 2 ; end 0 o0", "steps 2 ; begins 0 o0", "steps 2 ; to 0 o0", "steps 2 ; with  0 o0", "steps 2 ; with 0  o0", "steps 2 ; with 0 o0 ", "steps 2 ;  with 0 o0", "steps 2 ;with 0 o0", "steps 2; with 0 o0", "steps 2 ; with0 o0", "steps 2 ; with 0o0", "steps 2 ; with\t0 o0", "steps 2 ; with 0\no0", "steps 2 with 0 o0", "steps 2 ; with 0 o0 with 0 o0", "steps 2 ; with 0 o0; with 0 o0", "steps 2 ; with 99999999999999999999 o0",
		"steps 2 ; with 0 o0 ; 0 > 1 when 1", "steps 2 ; 0 > 1 when 1 ; with 0 o0 ; 0 > 1 when 1", "steps 2 ; set v0 1", "steps 2 ; set 0 v0", "steps 2 ; if 1 [ - ] [ - ]", "steps 2 ; rise i0",
		"steps 2" + strings.Repeat(" ; 0 > 1 when 1", 7), "steps 2" + strings.Repeat(" ; with 0 o0", 7), "steps 2" + strings.Repeat(" ; 0 > 1 when 1", 7) + strings.Repeat(" ; with 0 o0", 7),
		"set v0 1", "rise i0", "steps 1\x00", "steps 1 ; with 0 o0\x00", "steps 1 ; with 0 о0", "steps 1 ; with ０ o0", "steps 2 ; 0，1 > 1 when 1",
	} {
		if got, ok := impl.ChartRead(text); ok || !isNoChart(got) {
			t.Errorf("ChartRead(%q) = %v, %v", text, got, ok)
		}
		checkChartRead(t, text)
	}
}

// Every text of at most two bytes, and all that have at most two behind `steps`, or behind `steps` and a space: but for
// `steps 1` to `steps 6`, none is that of a chart.
func TestChartReadShort(t *testing.T) {
	read := 0
	for _, ahead := range []string{"", "steps", "steps "} {
		checkChartRead(t, ahead)
		for a := range 256 {
			one := ahead + string([]byte{byte(a)})
			read += wantIs(checkChartRead(t, one))
			for b := range 256 {
				read += wantIs(checkChartRead(t, one+string([]byte{byte(b)})))
			}
		}
	}
	// Each of the six is come to twice: a space and a digit behind `steps`, and a digit behind `steps` and a space.
	if read != 12 {
		t.Errorf("%d of them are read", read)
	}
}

// Texts that differ by one sign from one that is read.
func TestChartReadByteTurned(t *testing.T) {
	for _, text := range []string{
		"steps 1", "steps 6", "steps 3 ; 0,2 > 1 when i0", "steps 6 ; 5 > 0,1,2,3,4,5 when 10", "steps 2 ; 0 > 1 when less v0 -10 ; 1 > 0 when not o5",
		"steps 2 ; with 0 o0 ; set 1 o5", "steps 5 ; 0,1 > 2,3 when 1 ; off 4 o1 ; begin 0 o2",
		"steps 4 ; 0 > 1,2 when i0 ; 1,2 > 3 when i1 ; 0 > 3 when 1 ; with 1 o0 ; set 2 o1 ; off 3 o1 ; begin 3 o2",
	} {
		if !checkChartRead(t, text) {
			t.Errorf("%q is not read", text)
		}
		for other := range byteTurned(text) {
			checkChartRead(t, other)
		}
	}
}

// A word of a text more, fewer, or another one in its place.
func TestChartReadWordTurned(t *testing.T) {
	words := []string{"steps", "when", ">", ";", "", "-", "with", "set", "off", "begin", "0", "1", "0,1", "1,0", "1,1", "0,", "6", "7", "-1", "00", "o0", "o5", "o6", "i0", "v0", "not", "add", "1000000", "fly", "0 > 0 when 1", "; 0 > 0 when 1", "; with 0 o1", "; with"}
	r := rand.New(rand.NewPCG(7, 8))
	read := 0
	for i := range 40 {
		text := strings.Split(wantChartText(someChart(r, 1+i%6, r.IntN(4), r.IntN(4))), " ")
		for i := range len(text) + 1 {
			var others [][]string
			for _, word := range words {
				others = append(others, slices.Insert(slices.Clone(text), i, word))
				if i < len(text) {
					others = append(others, slices.Replace(slices.Clone(text), i, i+1, word))
				}
			}
			if i < len(text) {
				others = append(others, slices.Delete(slices.Clone(text), i, i+1))
			}
			for _, other := range others {
				read += wantIs(checkChartRead(t, strings.Join(other, " ")))
			}
		}
	}
	if read < 1000 {
		t.Errorf("only %d of them are read", read)
	}
}

// Pieces in any order that come near a text.
func TestChartReadSome(t *testing.T) {
	ways := []string{"0 > 1 when 1", "0,1 > 0 when i0", "2 > 2 when not v1", "1,2 > 0,1 when add 1 o3", "0,2 > 1 when -5", "0 > 1,0 when 1", "0 > 1 when", "3 > 0 when 1", "", "0 > 0 when 1 0 > 1 when 1"}
	acts := []string{"with 0 o0", "set 1 o5", "off 2 o1", "begin 0 o0", "with 1 o0", "with 3 o0", "set 0 v0", "", "off 0"}
	r := rand.New(rand.NewPCG(9, 8))
	read := 0
	for range 30000 {
		// The last pieces of each list are none that is ok.
		all := r.IntN(2) == 0
		pick := func(from []string, bad int) string {
			if all {
				return from[r.IntN(len(from)-bad)]
			}
			return from[r.IntN(len(from))]
		}
		text := []string{"steps " + strconv.Itoa(r.IntN(5))}
		for range r.IntN(8) {
			text = append(text, pick(ways, 5))
		}
		for range r.IntN(8) {
			text = append(text, pick(acts, 4))
		}
		if r.IntN(8) == 0 {
			rest := text[r.IntN(2):]
			r.Shuffle(len(rest), func(i int, j int) { rest[i], rest[j] = rest[j], rest[i] })
		}
		read += wantIs(checkChartRead(t, strings.Join(text, " ; ")))
	}
	if read < 2000 {
		t.Errorf("only %d of them are read", read)
	}
}

// Texts of 1500 bytes, of one more, and far longer ones: none is the text of a chart that is ok.
func TestChartReadLong(t *testing.T) {
	for _, size := range []int{1498, 1499, 1500, 1501, 1502, 3000, 1 << 20} {
		for _, piece := range []string{" ", "0", "-", ",", "0,", "1 ", ">", "\x00", "\xff", "; ", " ; ", "steps 1 ; ", "steps ", "0 > 0 when 1 ; ", "with 0 o0 ; ", "not ", "add ", "0 > 1 when "} {
			long := strings.Repeat(piece, size)[:size]
			for _, text := range []string{long, "steps 1" + long[7:], long[7:] + "steps 1", "steps 1 ; " + long[10:], "steps 1 ; 0 > 0 when " + long[21:], "steps 2 ; 0" + long[11:], "steps 2 ; with 0 o0" + long[19:], "steps " + long[6:]} {
				if got, ok := impl.ChartRead(text); ok || !isNoChart(got) || len(text) != size {
					t.Errorf("ChartRead of %d bytes of %q = %v, %v", len(text), piece, got, ok)
				}
			}
		}
	}
}

// longestExpr is one that is ok, with as long a text as can be: six of two kids, seven numbers, and one not.
func longestExpr() impl.Expr {
	far := num(-1000000)
	two := part(6, far, far)
	return part(10, part(7, part(6, two, two), part(7, two, far)))
}

// The longest text of a chart that is ok, and what is longer, of 1500 bytes and of one more.
func TestChartReadLongest(t *testing.T) {
	c := charted(6, slices.Repeat([]impl.Trans{way("012345", "012345", longestExpr())}, 6)...)
	c = acted(c, slices.Repeat([]impl.Act{act(4, 5, 5)}, 6)...)
	checkChart(t, c)
	text := wantChartText(c)
	if expr := len(wantText(longestExpr())); expr != 3+6*4+7*8+13 || len(text) != 7+6*(3+11+3+11+6+expr)+6*(3+10) {
		t.Errorf("%d bytes, %d of what is reckoned", len(text), expr)
	}
	for _, more := range []string{" ", "\n", " ; ", strings.Repeat(" ", 1500-len(text)), strings.Repeat(" ", 1501-len(text)), strings.Repeat("0", 1500-len(text))} {
		for _, other := range []string{text + more, more + text} {
			if checkChartRead(t, other) {
				t.Errorf("%q is read", other)
			}
		}
	}
}

// turnedCharts are all charts that differ from one in one part alone.
func turnedCharts(c impl.Chart) []impl.Chart {
	var out []impl.Chart
	turn := func(f func(c *impl.Chart)) {
		other := copyChart(c)
		f(&other)
		out = append(out, other)
	}
	base := copyChart(c)
	for i, leaf := range leavesOf(&base) {
		for _, to := range []int64{-1, 0, 1, 2, 3, 4, 5, 6, 7, 1000001, leaf.Int() + 256, leaf.Int() + 1<<32} {
			if to != leaf.Int() {
				turn(func(c *impl.Chart) { leavesOf(c)[i].SetInt(to) })
			}
		}
	}
	for i, t := range c.Trans {
		turn(func(c *impl.Chart) { c.Trans = slices.Delete(c.Trans, i, i+1) })
		turn(func(c *impl.Chart) { c.Trans = append(c.Trans, t) })
		for _, list := range []func(t *impl.Trans) *[]int{func(t *impl.Trans) *[]int { return &t.From }, func(t *impl.Trans) *[]int { return &t.To }} {
			for s := range c.Steps + 1 {
				turn(func(c *impl.Chart) { p := list(&c.Trans[i]); *p = append(*p, s) })
				turn(func(c *impl.Chart) { p := list(&c.Trans[i]); *p = append([]int{s}, *p...) })
			}
			if len(*list(&t)) > 0 {
				turn(func(c *impl.Chart) { p := list(&c.Trans[i]); *p = (*p)[1:] })
				turn(func(c *impl.Chart) { p := list(&c.Trans[i]); *p = nil })
			}
		}
		for k, e := range turnedParts(t.When) {
			if k%3 == i%3 {
				turn(func(c *impl.Chart) { c.Trans[i].When = e })
			}
		}
	}
	for i, a := range c.Acts {
		turn(func(c *impl.Chart) { c.Acts = slices.Delete(c.Acts, i, i+1) })
		turn(func(c *impl.Chart) { c.Acts = append(c.Acts, a) })
	}
	turn(func(c *impl.Chart) { c.Trans = append(c.Trans, impl.Trans{}) })
	turn(func(c *impl.Chart) { c.Acts = append(c.Acts, impl.Act{}) })
	return slices.DeleteFunc(out, func(other impl.Chart) bool { return sameChart(other, c) })
}

// Charts with one part turned: some are ok then, and most are not; none is the same.
func TestChartTurnedParts(t *testing.T) {
	r := rand.New(rand.NewPCG(10, 8))
	charts := []impl.Chart{charted(1), fullChart(6, 6, 6), fullChart(2, 6, 6), {}, {Steps: 9, Trans: make([]impl.Trans, 2), Acts: make([]impl.Act, 2)}}
	for i := range 60 {
		charts = append(charts, someChart(r, 1+i%6, r.IntN(6), r.IntN(6)))
	}
	ok := 0
	for _, c := range charts {
		if !impl.ChartSame(c, c) || !impl.ChartSame(c, copyChart(c)) {
			t.Errorf("%v is not the same as itself", c)
		}
		for _, other := range turnedCharts(c) {
			if impl.ChartSame(c, other) || impl.ChartSame(other, c) || !impl.ChartSame(other, copyChart(other)) {
				t.Errorf("ChartSame(%v, %v)", c, other)
			}
			ok += wantIs(checkAnyChart(t, "one that is turned", other))
		}
		for _, other := range charts {
			if got := impl.ChartSame(c, other); got != sameChart(c, other) {
				t.Errorf("ChartSame(%v, %v) = %v", c, other, got)
			}
		}
	}
	if ok < 3000 {
		t.Errorf("only %d of them are ok", ok)
	}
}

func TestChartSameTable(t *testing.T) {
	a, b := way("0", "1", always()), way("1", "0", never())
	x, y := act(1, 0, 0), act(2, 0, 0)
	empty := impl.Expr{Kind: 1, N: 1, Kids: []impl.Expr{}}
	for _, c := range []struct {
		a, b impl.Chart
		same bool
	}{
		{impl.Chart{}, impl.Chart{Trans: []impl.Trans{}, Acts: []impl.Act{}}, true},
		{charted(1), impl.Chart{Steps: 1, Trans: []impl.Trans{}, Acts: []impl.Act{}}, true},
		{charted(1), charted(2), false},
		{charted(-1), charted(-1), true},
		{charted(7), charted(8), false},
		{charted(2, a, b), charted(2, a, b), true},
		{charted(2, a, b), charted(2, b, a), false},
		{charted(2, a), charted(2, a, a), false},
		{charted(2, a), charted(2, b), false},
		{charted(2, a), charted(3, a), false},
		{charted(2, a), charted(2), false},
		{charted(2, impl.Trans{}), charted(2, impl.Trans{From: []int{}, To: []int{}, When: impl.Expr{Kids: []impl.Expr{}}}), true},
		{charted(2, impl.Trans{}), charted(2), false},
		{charted(2, impl.Trans{From: []int{0}}), charted(2, impl.Trans{To: []int{0}}), false},
		{charted(2, way("01", "1", always())), charted(2, way("10", "1", always())), false},
		{charted(2, way("0", "01", always())), charted(2, way("0", "10", always())), false},
		{charted(2, way("0", "1", empty)), charted(2, a), true},
		{charted(2, way("0", "1", num(1))), charted(2, way("0", "1", num(2))), false},
		{charted(2, way("0", "1", part(3, num(1), num(2)))), charted(2, way("0", "1", part(3, num(2), num(1)))), false},
		{acted(charted(2), x, y), acted(charted(2), x, y), true},
		{acted(charted(2), x, y), acted(charted(2), y, x), false},
		{acted(charted(2), x), acted(charted(2), x, x), false},
		{acted(charted(2), x), acted(charted(2, a), x), false},
		{acted(charted(2), x), charted(2), false},
		{acted(charted(2), act(1, 0, 0)), acted(charted(2), act(1, 1, 0)), false},
		{acted(charted(2), act(1, 0, 0)), acted(charted(2), act(1, 0, 1)), false},
		{acted(charted(2), impl.Act{}), acted(charted(2), impl.Act{To: impl.Addr{Kind: 1}}), false},
		{fullChart(300, 300, 300), fullChart(300, 300, 300), true},
		{fullChart(300, 300, 300), fullChart(300, 299, 300), false},
		{fullChart(300, 300, 300), fullChart(300, 300, 299), false},
	} {
		if impl.ChartSame(c.a, c.b) != c.same || impl.ChartSame(c.b, c.a) != c.same {
			t.Errorf("ChartSame(%v, %v) is not %v", c.a, c.b, c.same)
		}
	}
}

// Charts that are not ok, also such as hold, as a When, what holds itself.
func TestChartSameBad(t *testing.T) {
	bad := chartsBad()
	for name := range bad {
		if strings.Contains(name, "itself") || strings.Contains(name, "each other") {
			delete(bad, name)
		}
	}
	names := slices.Sorted(maps.Keys(bad))
	for i, x := range names {
		for _, y := range names[max(0, i-4):min(len(names), i+5)] {
			if got := impl.ChartSame(bad[x], bad[y]); got != sameChart(bad[x], bad[y]) {
				t.Errorf("ChartSame = %v: %s, %s", got, x, y)
			}
		}
	}
	twins := loops()
	for name, e := range loops() {
		c := charted(2, way("0", "1", e))
		if !impl.ChartSame(c, c) || !impl.ChartSame(c, charted(2, way("0", "1", twins[name]))) {
			t.Errorf("not the same as itself: %s", name)
		}
		if impl.ChartSame(c, charted(2, way("0", "1", nots(9, always())))) || impl.ChartSame(c, charted(2, way("1", "1", e))) || impl.ChartSame(charted(3, way("0", "1", e)), c) {
			t.Errorf("the same as another: %s", name)
		}
	}
}

// withRoom is the same list, with room behind it, and something in it.
func withRoom[T any](list []T, behind T) []T {
	out := append(slices.Clone(list), behind, behind, behind)
	return out[:len(list)]
}

// roomyChart is the same, with room behind each list, and something in it.
func roomyChart(c impl.Chart) impl.Chart {
	out := impl.Chart{Steps: c.Steps}
	for _, t := range c.Trans {
		out.Trans = append(out.Trans, impl.Trans{From: withRoom(t.From, 3), To: withRoom(t.To, 4), When: roomyExpr(t.When)})
	}
	out.Trans = withRoom(out.Trans, way("0", "0", always()))
	out.Acts = withRoom(c.Acts, act(2, 0, 4))
	return out
}

func roomyMarks(k impl.Marks) impl.Marks {
	return impl.Marks{On: withRoom(k.On, true), Kept: withRoom(k.Kept, true)}
}

// roomLeaves are all numbers and bools of what is pointed to, spare room of its lists included.
func roomLeaves(p any) []reflect.Value {
	var out []reflect.Value
	var walk func(v reflect.Value)
	walk = func(v reflect.Value) {
		switch v.Kind() {
		case reflect.Struct:
			for i := range v.NumField() {
				walk(v.Field(i))
			}
		case reflect.Slice:
			all := v.Slice(0, v.Cap())
			for i := range all.Len() {
				walk(all.Index(i))
			}
		default:
			out = append(out, v)
		}
	}
	walk(reflect.ValueOf(p).Elem())
	return out
}

// told is what these numbers and bools are.
func told(leaves []reflect.Value) []any {
	out := make([]any, len(leaves))
	for i, v := range leaves {
		out[i] = v.Interface()
	}
	return out
}

// spoil writes all over what is pointed to, spare room of its lists included.
func spoil(p any) {
	for _, v := range roomLeaves(p) {
		if v.Kind() == reflect.Bool {
			v.SetBool(!v.Bool())
		} else {
			v.SetInt(-9)
		}
	}
}

// span is where a list lies, with its spare room.
type span struct{ from, behind uintptr }

// spansOf are where all lists of what is pointed to lie.
func spansOf(p any) []span {
	var out []span
	var walk func(v reflect.Value)
	walk = func(v reflect.Value) {
		switch v.Kind() {
		case reflect.Struct:
			for i := range v.NumField() {
				walk(v.Field(i))
			}
		case reflect.Slice:
			if v.Cap() > 0 {
				out = append(out, span{from: v.Pointer(), behind: v.Pointer() + uintptr(v.Cap())*v.Type().Elem().Size()})
			}
			for i := range v.Len() {
				walk(v.Index(i))
			}
		}
	}
	walk(reflect.ValueOf(p).Elem())
	return out
}

// apart says whether no two lists of these share memory.
func apart(all ...any) bool {
	var spans []span
	for _, p := range all {
		spans = append(spans, spansOf(p)...)
	}
	slices.SortFunc(spans, func(a span, b span) int { return int(int64(a.from) - int64(b.from)) })
	for i := 1; i < len(spans); i++ {
		if spans[i].from < spans[i-1].behind {
			return false
		}
	}
	return true
}

// Nothing is written into an argument, nor behind its end, nor is what is behind it seen.
func TestChartArgumentsStay(t *testing.T) {
	charts := chartsOk()
	bad := chartsBad()
	for i, name := range slices.Sorted(maps.Keys(bad)) {
		if i%5 == 0 && !strings.Contains(name, "itself") && !strings.Contains(name, "each other") {
			charts = append(charts, bad[name])
		}
	}
	r := rand.New(rand.NewPCG(11, 8))
	for i, c := range charts {
		k := marksFor(c)[0]
		if wantChartOk(c) && i%2 == 0 {
			k = someMarks(r, c)
		}
		if i%7 == 0 {
			k.Kept = k.Kept[:5]
		}
		m, all := roomy()
		given, kept := roomyChart(c), roomyMarks(k)
		leaves := slices.Concat(roomLeaves(&given), roomLeaves(&kept))
		was := told(leaves)
		if impl.ChartOk(given) != impl.ChartOk(c) || impl.ChartText(given) != impl.ChartText(c) || !sameMarks(impl.ChartNew(given), impl.ChartNew(c)) || !impl.ChartSame(given, c) || !impl.ChartSame(c, given) {
			t.Errorf("what is behind the lists of %v counts", c)
		}
		if got, want := impl.ChartFires(given, kept, m), impl.ChartFires(c, k, m); !slices.Equal(got, want) {
			t.Errorf("what is behind the lists of %v, %v counts: %v", c, k, got)
		}
		then, mem := impl.ChartStep(given, kept, m)
		want, wantMem := impl.ChartStep(c, k, m)
		if !sameMarks(then, want) || !sameMem(mem, wantMem) {
			t.Errorf("what is behind the lists of %v, %v counts: %v, %v", c, k, then, mem)
		}
		if !slices.Equal(told(leaves), was) || !sameChart(given, c) || !sameMarks(kept, k) || turned(all) != nil {
			t.Errorf("%v, %v is %v, %v now", c, k, given, kept)
		}
	}
}

// Writing into an answer turns no argument and no other answer, and writing into the arguments turns no answer.
func TestChartAnswersAreNew(t *testing.T) {
	r := rand.New(rand.NewPCG(12, 8))
	for _, c := range chartsOk() {
		text := wantChartText(c)
		k := someMarks(r, c)
		given, kept := copyChart(c), copyMarks(k)
		m, all := roomy()
		fires := wantFires(c, k, m)
		want, wantMem := wantChartStep(c, k, m)
		for range 2 {
			read, _ := impl.ChartRead(text)
			leads, first := impl.ChartFires(given, kept, m), impl.ChartNew(given)
			then, mem := impl.ChartStep(given, kept, m)
			again, memAgain := impl.ChartStep(given, kept, m)
			if !sameChart(read, c) || !slices.Equal(leads, fires) || !sameMarks(first, wantFirst(c)) || !sameMarks(then, want) || !sameMem(mem, wantMem) {
				t.Fatalf("%q, behind answers that were written into: %v, %v, %v, %v, %v", text, read, leads, first, then, mem)
			}
			if !apart(&read, &leads, &first, &then, &mem, &again, &memAgain, &given, &kept, &all) {
				t.Fatalf("%q: lists of answers share memory, or share it with an argument", text)
			}
			for _, p := range []any{&read, &leads, &first, &then, &mem} {
				spoil(p)
			}
			if !sameChart(given, c) || !sameMarks(kept, k) || turned(all) != nil || !sameMarks(again, want) || !sameMem(memAgain, wantMem) {
				t.Fatalf("%q: writing into an answer turned an argument, or another answer", text)
			}
		}
		leads, first := impl.ChartFires(given, kept, m), impl.ChartNew(given)
		then, mem := impl.ChartStep(given, kept, m)
		for _, p := range []any{&given, &kept, &all} {
			spoil(p)
		}
		if !slices.Equal(leads, fires) || !sameMarks(first, wantFirst(c)) || !sameMarks(then, want) || !sameMem(mem, wantMem) {
			t.Fatalf("%q: writing into the arguments turned an answer: %v, %v, %v, %v", text, leads, first, then, mem)
		}
	}
}

// No two lists of what is left share any, not even of arguments whose lists are one.
func TestChartListsApart(t *testing.T) {
	for _, c := range []impl.Chart{charted(6), fullChart(6, 0, 1), fullChart(6, 6, 0), fullChart(6, 6, 6)} {
		one := []int{1, 2, 3, 4, 5, 6}
		both := flags("101010")
		m := impl.Mem{In: one, Out: one, Var: one}
		k := impl.Marks{On: both, Kept: both}
		want, wantMem := wantChartStep(c, k, m)
		then, mem := impl.ChartStep(c, k, m)
		if !sameMarks(then, want) || !sameMem(mem, wantMem) || !slices.Equal(one, []int{1, 2, 3, 4, 5, 6}) || flagText(both) != "101010" {
			t.Errorf("%q: %v, %v, not %v, %v", wantChartText(c), then, mem, want, wantMem)
		}
		first := impl.ChartNew(c)
		if !apart(&then, &mem, &first, &one, &both) {
			t.Errorf("%q: two lists share memory", wantChartText(c))
		}
	}
}
