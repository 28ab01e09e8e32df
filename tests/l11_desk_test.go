package tests

import (
	"bufio"
	"bytes"
	"fmt"
	"io"
	"math/rand/v2"
	"os"
	"os/exec"
	"path/filepath"
	"regexp"
	"slices"
	"strconv"
	"strings"
	"testing"

	"loop.example/stopgate/impl"
)

// deskHeld is what a script has made, told apart from the program. Its three are there even if there is no controller of
// them.
type deskHeld struct {
	plc  impl.Plc
	none bool
	most int // how much code a program may have
}

// deskAtFirst is what a script that has no line yet has made.
func deskAtFirst(most int) deskHeld {
	return deskHeld{plc: wantPlcNew(nil, impl.Net{}, charted(1)), most: most}
}

// made makes the controller anew, and tells whether there is one.
func (d deskHeld) made(prog []impl.Stmt, n impl.Net, c impl.Chart) (deskHeld, string) {
	d.plc, d.none = wantPlcNew(prog, n, c), len(wantCode(prog, 0)) > d.most
	if d.none {
		return d, "none"
	}
	return d, "fine"
}

// read is a line that reads one of the three.
func (d deskHeld) read(word string, text string) (deskHeld, string) {
	p := d.plc
	switch word {
	case "prog":
		if wantStmtsRead(text) {
			list, _ := impl.StmtsRead(text)
			return d.made(list, p.Net, p.Chart)
		}
	case "net":
		if n, ok := wantNetRead(text); ok {
			return d.made(p.Prog, n, p.Chart)
		}
	case "chart":
		if c, ok := wantChartRead(text); ok {
			return d.made(p.Prog, p.Net, c)
		}
	}
	return d, "what"
}

// scan is a line that scans.
func (d deskHeld) scan(words []string) (deskHeld, string) {
	var nums []int
	for _, word := range words {
		n, err := strconv.Atoi(word)
		if err != nil || !wordNum.MatchString(word) || cutTo(n) != n {
			return d, "what"
		}
		nums = append(nums, n)
	}
	if len(nums) < 1 || len(nums) > 7 || nums[0] < 0 || nums[0] > 1000 {
		return d, "what"
	}
	then, out := wantScan(ownLayers, d.plc, nums[1:], nums[0])
	d.plc = then
	if then.Fault {
		return d, "fault"
	}
	return d, spaced(out)
}

// alone is a line of one word, that needs a controller.
func (d deskHeld) alone(word string) (deskHeld, string) {
	p := d.plc
	switch word {
	case "fall":
		d.plc = wantFall(p)
		return d, "fine"
	case "vars":
		return d, spaced(p.Mem.Var)
	case "steps":
		return d, flagText(p.Marks.On)
	case "wires":
		return d, flagText(p.State.Last)
	case "order":
		return d, spaced(wantOrder(p.Net))
	case "code":
		return d, wantCodeText(wantCode(p.Prog, 0)) + "end"
	case "parts":
		return d, strings.ReplaceAll(plcText(p), " | ", "\n")
	case "twice":
		return d, "yes"
	}
	return d, "what"
}

// line is any line with words.
func (d deskHeld) line(words []string) (deskHeld, string) {
	word, text := words[0], strings.Join(words[1:], " ")
	switch {
	case word == "prog", word == "net", word == "chart":
		return d.read(word, text)
	case word == "slim":
		return d, wantSlimLine(text)
	case d.none:
		return d, "what"
	case word == "scan":
		return d.scan(words[1:])
	case len(words) == 1:
		return d.alone(word)
	}
	return d, "what"
}

// wantSlimLine is what is made shorter of a text. No text is both that of what is reckoned and that of what is done.
func wantSlimLine(text string) string {
	if wantExprRead(text) {
		e, _ := exprFrom(strings.Split(text, " "))
		return wantText(wantSlim(e))
	}
	if wantStmtsRead(text) {
		list, _ := impl.StmtsRead(text)
		return wantStmtsText(wantSlimStmts(list))
	}
	return "what"
}

// spaced is the text of numbers, with a space between.
func spaced(list []int) string { return strings.ReplaceAll(numText(list), ",", " ") }

// wantLines is what each line answers, limits aside; nothing, if it has no words.
func wantLines(most int, lines []string) []string {
	d := deskAtFirst(most)
	var out []string
	for _, line := range lines {
		words := strings.FieldsFunc(line, func(letter rune) bool { return letter == ' ' })
		said := ""
		if len(words) > 0 {
			d, said = d.line(words)
			said += "\n"
		}
		out = append(out, said)
	}
	return out
}

// wantDesk is what a script answers, if a program may have so much code.
func wantDesk(most int, text string) string {
	if len(text) > 20000 {
		return "long\n"
	}
	var out strings.Builder
	for ahead, said := range wantLines(most, strings.Split(text, "\n")) {
		if said != "" && (ahead >= 200 || out.Len() > 40000) {
			return out.String() + "full\n"
		}
		out.WriteString(said)
	}
	return out.String()
}

// checkDesk holds what a script answers against what it must; it is asked twice.
func checkDesk(t *testing.T, text string) string {
	t.Helper()
	want := wantDesk(400, text)
	for range 2 {
		if got := impl.DeskRun(text); got != want {
			t.Fatalf("DeskRun(%q) = %q, not %q", text, got, want)
		}
	}
	return want
}

// checkDeskText is checkDesk, in which the answer is written out, too; `|` stands for a newline in both.
func checkDeskText(t *testing.T, text string, want string) {
	t.Helper()
	text, want = strings.ReplaceAll(text, "|", "\n"), strings.ReplaceAll(want, "|", "\n")
	if got := checkDesk(t, text); got != want {
		t.Errorf("DeskRun(%q) = %q, not %q", text, got, want)
	}
}

// deskRow is a line, and what it answers; `|` stands for a newline in that.
type deskRow struct{ line, said string }

// checkDeskRows checks rows behind some lines, all of them one behind the other, and each by itself.
func checkDeskRows(t *testing.T, first []deskRow, rows []deskRow) {
	t.Helper()
	row := func(list []deskRow) {
		text, want := "", ""
		for _, one := range list {
			text, want = text+one.line+"|", want+one.said+"|"
		}
		checkDeskText(t, text, want)
		checkDeskText(t, strings.TrimSuffix(text, "|"), want)
	}
	row(slices.Concat(first, rows))
	for _, one := range rows {
		row(append(slices.Clone(first), one))
	}
}

func TestDeskNames(t *testing.T) {
	if impl.DeskMaxText != 20000 || impl.DeskMaxLines != 200 || impl.DeskMaxOut != 40000 {
		t.Error(impl.DeskMaxText, impl.DeskMaxLines, impl.DeskMaxOut)
	}
}

// The example of the chapter, whole, and cut behind each of its lines.
func TestDeskExample(t *testing.T) {
	const prog = "set v0 add v0 i0 ; if less 5 v0 [ set v1 1 ] [ - ] ; while less v0 9 [ set v0 add v0 1 ]"
	const net = "delay 2 i1 ; and w0 !l1 ; count 2 w1 i2 ; to o0 w1 ; to o1 w2"
	const chart = "steps 3 ; 0 > 1,2 when v1 ; 1 > 0 when i2 ; with 1 o2 ; set 2 o3 ; off 0 o3 ; begin 1 o4"
	const made = "load v0|load i0|add|store v0|push 5|load v0|less|skip 11|push 1|store v1|jump 11|load v0|push 9|less|skip 20|load v0|push 1|add|store v0|back 11|end"
	rows := []deskRow{
		{"prog " + prog, "fine"}, {"net " + net, "fine"}, {"chart " + chart, "fine"}, {"order", "0 1 2"}, {"scan 1 1 1", "0 0 0 0 0 0"}, {"scan 2 0 1", "1 0 1 1 1 0"}, {"vars", "9 1 0 0 0 0"}, {"steps", "011"},
		{"scan 2 0 1", "0 0 1 1 0 0"}, {"scan 2 0 1 1", "1 0 0 0 0 0"}, {"steps", "101"}, {"wires", "110"}, {"code", made}, {"twice", "yes"}, {"fall", "fine"}, {"steps", "100"},
		{"slim if less 1 2 [ set v0 add v0 0 ] [ - ]", "-"}, {"parts", prog + "|" + net + "|" + chart},
	}
	text, want := "", ""
	for _, row := range rows {
		checkDeskText(t, text+row.line, want+row.said+"|")
		text, want = text+row.line+"|", want+row.said+"|"
		checkDeskText(t, text, want)
	}
}

// deskFine are lines that leave a controller that is fine, behind a scan; v0 is 7, steps 1 and 2 are on, and wire 0.
var deskFine = []deskRow{
	{"prog set v0 add v0 i0 ; while i5 [ - ]", "fine"}, {"net hold 2 i1 ; xor w0 !l1 ; to o1 w0", "fine"}, {"chart steps 3 ; 0 > 1,2 when i2 ; 1 > 0 when i3 ; with 1 o0 ; set 2 o2 ; off 0 o2", "fine"}, {"scan 1 7 1 1", "1 1 1 0 0 0"},
}

// What `code` and `parts` answer behind these.
const (
	deskFineCode  = "load v0|load i0|add|store v0|load i5|skip 7|back 4|end"
	deskFineParts = "set v0 add v0 i0 ; while i5 [ - ]|hold 2 i1 ; xor w0 !l1 ; to o1 w0|steps 3 ; 0 > 1,2 when i2 ; 1 > 0 when i3 ; with 1 o0 ; set 2 o2 ; off 0 o2"
)

// Each line of the table by itself, of a controller that is fine.
func TestDeskTableFine(t *testing.T) {
	checkDeskRows(t, deskFine, []deskRow{
		{"vars", "7 0 0 0 0 0"}, {"steps", "011"}, {"wires", "10"}, {"order", "0 1"}, {"twice", "yes"},
		{"code", deskFineCode},
		{"parts", deskFineParts},
		{"slim add 1 2", "3"}, {"slim set v0 v0", "-"},
	})
	for _, row := range []deskRow{
		{"scan 1", "1 1 1 0 0 0|7 0 0 0 0 0|011|10"}, {"scan 2 5 0 0 1", "0 1 0 0 0 0|12 0 0 0 0 0|101|10"}, {"scan 0 -7", "1 1 1 0 0 0|0 0 0 0 0 0|011|10"}, {"scan 1 2 0 0 0 0 1", "fault|7 0 0 0 0 0|011|10"},
		{"fall", "fine|7 0 0 0 0 0|100|00"}, {"prog set v0 1", "fine|0 0 0 0 0 0|100|00"}, {"prog -", "fine|0 0 0 0 0 0|100|00"}, {"net rise i0", "fine|0 0 0 0 0 0|100|0"}, {"net -", "fine|0 0 0 0 0 0|100|"},
		{"chart steps 2", "fine|0 0 0 0 0 0|10|00"}, {"chart steps 1", "fine|0 0 0 0 0 0|1|00"}, {"fly", "what|7 0 0 0 0 0|011|10"}, {"twice", "yes|7 0 0 0 0 0|011|10"}, {"slim v0", "v0|7 0 0 0 0 0|011|10"},
	} {
		checkDeskRows(t, deskFine, []deskRow{{row.line + "|vars|steps|wires", row.said}})
	}
}

// Each line of the table by itself, behind a fault: what is kept is as it was ahead of that scan.
func TestDeskTableFault(t *testing.T) {
	for _, faults := range []int{1, 2, 5} {
		first := slices.Concat(deskFine, []deskRow{{"scan 1 100 1 0 1 0 1", "fault"}}, slices.Repeat([]deskRow{{"scan 1", "fault"}}, faults-1))
		checkDeskRows(t, first, []deskRow{
			{"vars", "7 0 0 0 0 0"}, {"steps", "011"}, {"wires", "10"}, {"order", "0 1"}, {"twice", "yes"}, {"scan 1", "fault"}, {"scan 0 1 2 3 4 5 6", "fault"}, {"scan 1000", "fault"},
			{"scan 1001", "what"}, {"scan", "what"}, {"scan 1 1 2 3 4 5 6 7", "what"}, {"scan -1", "what"},
			{"code", deskFineCode},
			{"parts", deskFineParts},
			{"slim add 1 2", "3"}, {"slim set v0 v0", "-"}, {"slim", "what"}, {"fly", "what"}, {"prog", "what"}, {"prog set i0 1", "what"}, {"net fly", "what"}, {"chart steps 7", "what"}, {"fall 1", "what"},
		})
		for _, row := range []deskRow{
			{"fall|vars|steps|wires|twice|scan 1 1", "fine|7 0 0 0 0 0|100|00|yes|0 0 0 0 0 0"}, {"fall|scan 1 1 1 1|vars|steps|wires", "fine|1 1 1 0 0 0|8 0 0 0 0 0|011|10"},
			{"fall|fall|vars|scan 1 0 0 0 0 0 1|scan 1", "fine|fine|7 0 0 0 0 0|fault|fault"}, {"prog set v1 1|vars|steps|wires|scan 1|vars", "fine|0 0 0 0 0 0|100|00|0 0 0 0 0 0|0 1 0 0 0 0"},
			{"net -|vars|steps|wires|scan 1 3|vars", "fine|0 0 0 0 0 0|100||0 0 0 0 0 0|3 0 0 0 0 0"}, {"chart steps 1|vars|steps|wires|scan 1 3|vars", "fine|0 0 0 0 0 0|1|00|0 0 0 0 0 0|3 0 0 0 0 0"},
		} {
			checkDeskRows(t, first, []deskRow{row})
		}
	}
}

// Each line of the table by itself, of a controller that fell, and is up again.
func TestDeskTableFall(t *testing.T) {
	for _, more := range [][]deskRow{{{"fall", "fine"}}, {{"scan 1 0 0 0 0 0 1", "fault"}, {"fall", "fine"}}, {{"scan 1 0 0 0 0 0 1", "fault"}, {"scan 2", "fault"}, {"fall", "fine"}, {"fall", "fine"}}} {
		first := slices.Concat(deskFine, more)
		checkDeskRows(t, first, []deskRow{
			{"vars", "7 0 0 0 0 0"}, {"steps", "100"}, {"wires", "00"}, {"order", "0 1"}, {"twice", "yes"}, {"fall", "fine"}, {"slim 1", "1"}, {"fly", "what"},
			{"code", deskFineCode},
			{"parts", deskFineParts},
		})
		for _, row := range []deskRow{
			{"scan 1 3 0 0|vars|steps|wires", "0 0 0 0 0 0|10 0 0 0 0 0|100|01"}, {"scan 1 0 1 1|vars|steps|wires", "1 1 1 0 0 0|7 0 0 0 0 0|011|10"}, {"scan 1 0 1 0 0 0 1|vars|steps|wires|fall|scan 1 1|vars", "fault|7 0 0 0 0 0|100|00|fine|0 0 0 0 0 0|8 0 0 0 0 0"},
			{"prog -|vars|steps|wires", "fine|0 0 0 0 0 0|100|00"}, {"net -|vars|steps|wires", "fine|0 0 0 0 0 0|100|"}, {"chart steps 2|vars|steps|wires", "fine|0 0 0 0 0 0|10|00"},
		} {
			checkDeskRows(t, first, []deskRow{row})
		}
	}
}

// What is there ahead of all lines: nothing, nothing, and a chart of one step.
func TestDeskAtFirst(t *testing.T) {
	checkDeskRows(t, nil, []deskRow{
		{"vars", "0 0 0 0 0 0"}, {"steps", "1"}, {"wires", ""}, {"order", ""}, {"code", "end"}, {"parts", "-|-|steps 1"}, {"twice", "yes"}, {"scan 0", "0 0 0 0 0 0"}, {"scan 1000 1 2 3 4 5 6", "0 0 0 0 0 0"}, {"fall", "fine"},
	})
	checkDeskRows(t, []deskRow{{"scan 1 1 2 3", "0 0 0 0 0 0"}}, []deskRow{{"vars", "0 0 0 0 0 0"}, {"steps", "1"}, {"wires", ""}, {"order", ""}, {"code", "end"}, {"parts", "-|-|steps 1"}, {"twice", "yes"}})
	for _, row := range []deskRow{
		{"prog set o1 i0|parts|scan 1 5|steps", "fine|set o1 i0|-|steps 1|0 5 0 0 0 0|1"}, {"net xor i0 i1 ; to o2 w0|parts|scan 1 5|wires", "fine|-|xor i0 i1 ; to o2 w0|steps 1|0 0 1 0 0 0|1"},
		{"chart steps 2 ; 0 > 1 when i0 ; with 1 o3|parts|scan 1 5|steps", "fine|-|-|steps 2 ; 0 > 1 when i0 ; with 1 o3|0 0 0 1 0 0|01"},
	} {
		checkDeskRows(t, nil, []deskRow{row})
	}
}

// spacedOut is a line with more spaces here and there, if there may be any.
func spacedOut(r *rand.Rand, line string) string {
	if r.IntN(3) > 0 {
		return line
	}
	words := strings.Split(line, " ")
	for i := range words {
		words[i] += strings.Repeat(" ", r.IntN(3))
	}
	return strings.Repeat(" ", r.IntN(3)) + strings.Join(words, " ") + strings.Repeat(" ", r.IntN(3))
}

// deskOdd are lines that are none of the table, or that cannot be done; whatever the controller.
var deskOdd = []string{
	"fly", "what", "fine", "none", "long", "full", "fault", "end", "yes", "-", "0", "1 2", ";", "prog", "net", "chart", "scan", "slim", "scan x", "scan -1", "scan 1001", "scan 01", "scan +1", "scan -0", "scan 1 -", "scan 1 1 2 3 4 5 6 7",
	"prog fly", "prog set i0 1", "prog set v0", "prog - -", "prog set v0 1 ;", "net and w0 l1 ; fly", "net and w0 w0", "net rise", "net - -", "net to o0 w0", "chart -", "chart steps 0", "chart steps 7", "chart steps", "chart 1", "slim add 1", "slim 1 2", "slim set", "slim - -", "slim steps 1", "slim rise i0",
	"fall 1", "vars 0", "vars v0", "steps 1", "steps 2 ; 0 > 1 when 1", "wires -", "order 0", "code -", "parts 1", "twice twice", "fall fall", "vars vars", "set v0 1", "rise i0",
	"Prog -", "NET -", "cHart steps 1", "SCAN 1", "Fall", "VARS", "Steps", "wireS", "ORDER", "Code", "partS", "Twice", "Slim 1", "pro -", "progs -", "nets -", "charts steps 1", "scan1", "scans 1", "falls", "var", "varss", "step", "stepss", "wire", "wiress", "orders", "odder", "codes", "cod", "part", "partss", "twic", "twices", "slims 1", "sli 1",
	"\tvars", "vars\t", "vars\r", "\rvars", "vars\x00", "\x00vars", "vars\v", "vars\f", "vars\u00a0", "\u00a0vars", "vars\u2003", "\u0085vars", "\ufeffvars", "vars\xff", "\xc3vars", "vars\xe2\x80", "v\u00e4rs", "\uff56ars", "scan\t1", "scan 1\t2", "scan 1\t", "prog\t-", "prog -\r", "net -\x00", "chart steps\t1", "chart steps 1\r", "slim\t1", "slim 1\r", "slim \uff11", "\U0001f600", "\xff\xfe", "\x00", "\t", "\r", "\u00a0",
}

// worn is a text of which something is gone, or that has something more.
func worn(r *rand.Rand, text string) string {
	words := strings.Split(text, " ")
	i := r.IntN(len(words))
	switch r.IntN(6) {
	case 0:
		words = slices.Delete(words, i, i+1)
	case 1:
		words[i] = words[r.IntN(len(words))]
	case 2:
		words = append(words, ";")
	case 3:
		words[i] += "\t"
	case 4:
		words[i] = strings.ToUpper(words[i])
	default:
		words = slices.Concat(words, []string{";"}, words)
	}
	return strings.Join(words, " ")
}

// somePart is a line that makes one of the three anew.
func somePart(r *rand.Rand, which int) string {
	text := "chart " + wantChartText(someChart(r, 1+r.IntN(6), r.IntN(7), r.IntN(7)))
	switch which {
	case 0:
		text = "prog " + wantStmtsText(someProg(r))
	case 1:
		text = "net " + wantNetText(someNet(r, r.IntN(9)))
	}
	return text
}

// someScanLine is a line that scans, most often with numbers that may come in.
func someScanLine(r *rand.Rand) string {
	line := "scan " + strconv.Itoa(someTime(r))
	for _, n := range someIn(r) {
		if r.IntN(9) > 0 {
			n = cutTo(n)
		}
		line += " " + strconv.Itoa(n)
	}
	return line
}

// deskAsks are the lines that ask, and turn nothing.
var deskAsks = []string{"vars", "steps", "wires", "order", "code", "parts", "twice"}

// someLine is any line.
func someLine(r *rand.Rand) string {
	switch k := r.IntN(40); {
	case k < 14:
		return spacedOut(r, someScanLine(r))
	case k < 24:
		return spacedOut(r, deskAsks[r.IntN(len(deskAsks))])
	case k < 28:
		return spacedOut(r, somePart(r, r.IntN(3)))
	case k < 30:
		return spacedOut(r, worn(r, somePart(r, r.IntN(3))))
	case k < 32:
		return spacedOut(r, "slim "+wantStmtsText(someSlimStmts(r, 6, 2)))
	case k < 33:
		return spacedOut(r, "slim "+wantText(someSlim(r, 9, 3)))
	case k < 36:
		return spacedOut(r, "fall")
	case k < 38:
		return strings.Repeat(" ", r.IntN(3))
	}
	return deskOdd[r.IntN(len(deskOdd))]
}

// someLines are the lines of a script, most often of one that makes all three first.
func someLines(r *rand.Rand, many int) []string {
	var lines []string
	if r.IntN(5) > 0 {
		for _, which := range r.Perm(3) {
			lines = append(lines, somePart(r, which))
		}
	}
	for range many {
		lines = append(lines, someLine(r))
	}
	return lines
}

// deskSaid is what lines answer, which must be within all limits, each by itself, and held against the program whole.
func deskSaid(t *testing.T, lines []string) []string {
	t.Helper()
	text, said := strings.Join(lines, "\n"), wantLines(400, lines)
	want := strings.Join(said, "")
	if len(text) > 20000 || len(lines) > 200 || len(want) > 40000 {
		t.Fatalf("%q is not within its limits", text)
	}
	if got := impl.DeskRun(text); got != want {
		t.Fatalf("DeskRun(%q) = %q, not %q", text, got, want)
	}
	return said
}

// checkCut cuts a script behind each of its lines: the first lines answer what they answer in the whole one.
func checkCut(t *testing.T, lines []string) {
	t.Helper()
	said := deskSaid(t, lines)
	whole := impl.DeskRun(strings.Join(lines, "\n"))
	for many := range len(lines) + 1 {
		text := strings.Join(lines[:many], "\n")
		first := impl.DeskRun(text)
		if rest, ok := strings.CutPrefix(whole, first); !ok || rest != strings.Join(said[many:], "") {
			t.Fatalf("of %q the first %d lines answer %q, and the whole %q", lines, many, first, whole)
		}
		if again := impl.DeskRun(text + "\n"); again != first {
			t.Fatalf("DeskRun(%q) = %q, and %q without the last newline", text+"\n", again, first)
		}
	}
}

// scriptsOf are scripts that are written out.
func scriptsOf() [][]string {
	var out [][]string
	for _, text := range []string{
		"prog set v0 add v0 i0|scan 1 1|scan 1 2|vars|fall|vars|scan 1 3|vars|prog set v0 add v0 i1|vars|scan 1 1 9|vars",
		"prog while i0 [ - ]|scan 1|scan 1 1|scan 1|vars|fall|scan 1|scan 1 1|prog while i1 [ - ]|scan 1 1|scan 1 1 1|twice|net -|scan 1 0 1|chart steps 1|scan 1",
		"net delay 5 i0 ; to o0 w0|scan 3 1|scan 3 1|scan 3 1|wires|net delay 5 i0 ; to o0 w0|wires|scan 3 1|scan 3 1|fly|net fly|scan 3 1|fall|scan 3 1",
		"chart steps 2 ; 0 > 1 when 1 ; 1 > 0 when 1 ; with 1 o0|scan 0|steps|scan 0|steps|scan 0|chart steps 2 ; 0 > 1 when 1|steps|scan 0|scan 0|steps|chart steps 0|steps|fall|steps",
		"twice|scan 1|twice|prog while 1 [ - ]|twice|scan 1|twice|fall|twice|vars|code|parts|order|wires|steps|slim while 1 [ - ]|slim 1",
		"|| ||prog set o0 v1 ; set v1 i0||scan 1 4|  |scan 1|| |scan 1||", "fly|fly|fly", "", "|", "||", " ", "  |   ", "code", "full|long|what|none",
	} {
		out = append(out, strings.Split(text, "|"))
	}
	return out
}

// Promise 11: cut behind any of its lines, a script answers what its first lines do, and then what the others do there.
func TestDeskCut(t *testing.T) {
	for _, lines := range scriptsOf() {
		checkCut(t, lines)
	}
	r := rand.New(rand.NewPCG(1, 11))
	heads := map[string]int{}
	for range 100 {
		lines := someLines(r, 24)
		checkCut(t, lines)
		for i, said := range wantLines(400, lines) {
			if words := strings.Fields(lines[i]); len(words) > 0 {
				first, _, _ := strings.Cut(said, "\n")
				heads[words[0]+" "+strings.Trim(first, "0123456789- ")]++
			}
		}
	}
	for _, head := range []string{"scan ", "scan fault", "scan what", "fall fine", "prog fine", "net fine", "chart fine", "prog what", "net what", "chart what", "twice yes", "vars ", "steps ", "wires ", "order ", "slim "} {
		if heads[head] < 30 {
			t.Errorf("only %d of %q", heads[head], head)
		}
	}
}

// Many more scripts, whole.
func TestDeskMany(t *testing.T) {
	r := rand.New(rand.NewPCG(2, 11))
	for range 900 {
		checkDesk(t, strings.Join(someLines(r, r.IntN(40)), "\n")+strings.Repeat("\n", r.IntN(3)))
	}
	for range 12 {
		checkDesk(t, strings.Join(someLines(r, 190+r.IntN(30)), "\n"))
	}
}

// checkPut puts lines into a script at each place: they answer this there, and turn no other answer.
func checkPut(t *testing.T, lines []string, put []string, want func(i int) string) {
	t.Helper()
	said := deskSaid(t, lines)
	for i := range len(lines) + 1 {
		text := strings.Join(slices.Insert(slices.Clone(lines), i, put...), "\n")
		all := strings.Join(said[:i], "") + want(i) + strings.Join(said[i:], "")
		if got := impl.DeskRun(text); got != all {
			t.Fatalf("%q at %d of %q: %q, not %q", put, i, lines, got, all)
		}
	}
}

// Promise 11: `twice` is answered with `yes` at each place, ahead of scans and behind them, behind a fault and a fall.
func TestDeskTwice(t *testing.T) {
	yes := func(int) string { return "yes\n" }
	for _, lines := range scriptsOf() {
		checkPut(t, lines, []string{"twice"}, yes)
	}
	r := rand.New(rand.NewPCG(3, 11))
	behind := map[string]int{}
	for range 250 {
		lines := someLines(r, 16)
		checkPut(t, lines, []string{"twice"}, yes)
		for i, said := range wantLines(400, lines) {
			if words := strings.Fields(lines[i]); len(words) > 0 {
				behind[words[0]+strconv.FormatBool(said == "fault\n")]++
			}
		}
	}
	if behind["scanfalse"] < 500 || behind["scantrue"] < 100 || behind["fallfalse"] < 100 {
		t.Error(behind)
	}
}

// A `twice` is of what came in once more: 1, with a DT of 1. It is done to a copy, so that nothing is turned.
func TestDeskTwiceTurnsNothing(t *testing.T) {
	checkDeskText(t, "prog set v0 add v0 i0|net delay 2 1|net delay 2 i0 ; to o0 w0|chart steps 2 ; 0 > 1 when i0|twice|twice|vars|steps|wires|scan 1|vars|twice|twice|twice|scan 1 1|scan 1 1|scan 1 1",
		"fine|what|fine|fine|yes|yes|0 0 0 0 0 0|10|0|0 0 0 0 0 0|0 0 0 0 0 0|yes|yes|yes|0 0 0 0 0 0|0 0 0 0 0 0|1 0 0 0 0 0|")
	checkDeskText(t, "prog while i0 [ - ]|twice|scan 1|twice|vars|scan 1 1|twice|fall|twice|scan 1", "fine|yes|0 0 0 0 0 0|yes|0 0 0 0 0 0|fault|yes|fine|yes|0 0 0 0 0 0|")
}

// Lines that ask, that can't be done, and that have no words turn no other answer.
func TestDeskAskingTurnsNothing(t *testing.T) {
	r := rand.New(rand.NewPCG(4, 11))
	what := func(int) string { return "what\n" }
	for _, odd := range deskOdd {
		checkPut(t, someLines(r, 3), []string{odd}, what)
	}
	for range 24 {
		lines := someLines(r, 12)
		checkPut(t, lines, []string{"", "  ", ""}, func(int) string { return "" })
		checkPut(t, lines, []string{"slim less 1 2", "slim while v0 [ set v0 mul v0 1 ]", "slim fly"}, func(int) string { return "1\nwhile v0 [ - ]\nwhat\n" })
		for _, ask := range deskAsks {
			checkPut(t, lines, []string{ask}, func(i int) string {
				said := wantLines(400, append(slices.Clone(lines[:i]), ask))
				return said[i]
			})
		}
	}
}

// A program, a net or a chart behind scans: the controller is a new one of the three, with nothing kept.
func TestDeskAnew(t *testing.T) {
	behind := []deskRow{{"vars|steps|wires", "0 0 0 0 0 0|100|00"}, {"scan 1|vars|wires|steps", "0 0 0 0 0 0|0 0 0 0 0 0|01|100"}, {"scan 1 4 0 1|steps", "1 0 1 0 0 0|011"}}
	for _, same := range []string{"prog set v0 add v0 i0 ; while i5 [ - ]", "net hold 2 i1 ; xor w0 !l1 ; to o1 w0", "chart steps 3 ; 0 > 1,2 when i2 ; 1 > 0 when i3 ; with 1 o0 ; set 2 o2 ; off 0 o2"} {
		for _, scans := range [][]deskRow{nil, {{"scan 1", "1 1 1 0 0 0"}}, {{"scan 1 0 0 0 0 0 1", "fault"}}, {{"scan 1 0 0 0 0 0 1", "fault"}, {"fall", "fine"}}} {
			first := slices.Concat(deskFine, scans, []deskRow{{same, "fine"}})
			for _, row := range behind {
				checkDeskRows(t, first, []deskRow{row})
			}
		}
	}
	checkDeskText(t, "chart steps 2 ; 0 > 1 when i0 ; set 1 o0 ; 1 > 0 when i1|chart steps 2 ; 0 > 1 when i0 ; 1 > 0 when i1 ; set 1 o0|scan 1 1|scan 1 0 1|net -|scan 1|scan 1 1|scan 1 0 1|prog -|scan 1 0 1|steps",
		"what|fine|1 0 0 0 0 0|1 0 0 0 0 0|fine|0 0 0 0 0 0|1 0 0 0 0 0|1 0 0 0 0 0|fine|0 0 0 0 0 0|10|")
	checkDeskText(t, "prog set v0 5|scan 1|prog set o0 v0|scan 1|net and !i0 !i0 ; to o1 w0|scan 1|prog -|scan 1 1|scan 1", "fine|0 0 0 0 0 0|fine|0 0 0 0 0 0|fine|0 1 0 0 0 0|fine|0 0 0 0 0 0|0 1 0 0 0 0|")
}

// Whatever was ahead of a line that makes one of the three anew: behind it all is as if the three had been made at once.
func TestDeskAnewMany(t *testing.T) {
	r := rand.New(rand.NewPCG(5, 11))
	for range 600 {
		lines, rest := someLines(r, 12), someLines(r, 10)[3:]
		parts := []string{"prog -", "net -", "chart steps 1"}
		for i, said := range wantLines(400, lines) {
			for which, word := range []string{"prog", "net", "chart"} {
				if words := strings.Fields(lines[i]); said == "fine\n" && words[0] == word {
					parts[which] = lines[i]
				}
			}
		}
		which := r.IntN(3)
		parts[which] = []string{somePart(r, which), parts[which]}[r.IntN(2)]
		anew := append(slices.Clone(parts), rest...)
		whole := slices.Concat(lines, parts[which:which+1], rest)
		want, ok := strings.CutPrefix(impl.DeskRun(strings.Join(anew, "\n")), "fine\nfine\nfine\n")
		got, starts := strings.CutPrefix(impl.DeskRun(strings.Join(whole, "\n")), strings.Join(deskSaid(t, lines), "")+"fine\n")
		if !ok || !starts || got != want {
			t.Fatalf("%q answers %q, and %q %q", whole, got, anew, want)
		}
	}
}

// A line whose TEXT can't be read turns nothing, whatever is there, and whichever of the three it is.
func TestDeskUnread(t *testing.T) {
	r := rand.New(rand.NewPCG(6, 11))
	what := func(int) string { return "what\n" }
	for _, text := range []string{
		"", "prog", "1", "- -", "-;", "[ - ]", "set", "set v0", "set i0 1", "set v0 1 ; ", "while 1 - ", "if 1 [ - ]", "rise", "rise i0 ; rise", "and w0 w0", "to o0 w0", "steps", "steps 0", "steps 7", "steps 01", "steps 2 ; with 1 v0", "steps 2 ; 0 > 2 when 1", "fine", "\t-", "-\r", "- \x00", "\xff",
		strings.Repeat("set v0 1 ; ", 16) + "set v0 1", "while 1 [ while 1 [ while 1 [ while 1 [ while 1 [ - ] ] ] ] ]", strings.Repeat("rise i0 ; ", 8) + "rise i0", strings.Repeat("-", 5000),
	} {
		for _, word := range []string{"prog ", "net ", "chart "} {
			checkPut(t, someLines(r, 5), []string{word + text}, what)
		}
	}
	for range 60 {
		lines := someLines(r, 10)
		for which, word := range []string{"prog ", "net ", "chart "} {
			_, text, _ := strings.Cut(somePart(r, (which+1)%3), " ")
			if text != "-" {
				checkPut(t, lines, []string{word + text}, what)
			}
			_, text, _ = strings.Cut(somePart(r, which), " ")
			checkPut(t, lines, []string{word + text + " ;", strings.ToUpper(word) + text, word[:2] + " " + text}, func(int) string { return "what\nwhat\nwhat\n" })
		}
	}
}

// A scan behind a fault is one, whatever comes in, till a fall; then it scans again.
func TestDeskFault(t *testing.T) {
	r := rand.New(rand.NewPCG(7, 11))
	for _, prog := range []string{"set v0 9 ; while i0 [ set o1 1 ]", "set v1 add v1 1 ; set o0 1 ; while i0 [ set v2 add v2 1 ]", "while i0 [ set v3 0 ] ; set v0 add v0 1"} {
		head := []string{"prog " + prog, "net rise !i1 ; to o4 w0 ; to v5 w0", "chart steps 2 ; 0 > 1 when not i2 ; with 1 o5"}
		for range 8 {
			scans := make([]string, r.IntN(4))
			for i := range scans {
				scans[i] = "scan " + strconv.Itoa(someTime(r)) + " 0 " + strconv.Itoa(r.IntN(2)) + " " + strconv.Itoa(r.IntN(2))
			}
			ahead := append(slices.Clone(head), scans...)
			kept := wantLines(400, append(slices.Clone(ahead), "vars", "steps", "wires"))[len(ahead):]
			lines, want := append(slices.Clone(ahead), "scan 1 1"), append(wantLines(400, ahead), "fault\n")
			for range 1 + r.IntN(5) {
				lines = append(lines, "vars", "steps", "wires", "twice", "scan 1000 "+spaced(cutAll(someIn(r))))
				want = append(want, kept[0], kept[1], kept[2], "yes\n", "fault\n")
			}
			lines, want = append(lines, "fall", "vars", "steps", "wires"), append(want, "fine\n", kept[0], "10\n", "0\n")
			if got := checkDesk(t, strings.Join(lines, "\n")); got != strings.Join(want, "") {
				t.Errorf("%q answers %q, not %q", lines, got, want)
			}
			got := checkDesk(t, strings.Join(append(lines, "scan 1 0", "scan 1 0 0 1"), "\n"))
			if behind := strings.TrimPrefix(got, strings.Join(want, "")); strings.Count(behind, " ") != 10 {
				t.Errorf("two scans behind the fall of %q answer %q", lines, behind)
			}
		}
	}
}

func cutAll(list []int) []int {
	out := make([]int, len(list))
	for i, n := range list {
		out[i] = cutTo(n)
	}
	return out
}

// The numbers of a scan.
func TestDeskScanNumbers(t *testing.T) {
	head := []deskRow{{"prog set v0 i0 ; set v1 i1 ; set v2 i2 ; set v3 i3 ; set v4 i4 ; set v5 i5 ; set o0 add i0 1", "fine"}}
	for _, row := range []struct{ nums, out, vars string }{
		{"0", "1", "0 0 0 0 0 0"}, {"1000", "1", "0 0 0 0 0 0"}, {"999 0", "1", "0 0 0 0 0 0"}, {"1 7", "8", "7 0 0 0 0 0"}, {"1 1 2 3 4 5 6", "2", "1 2 3 4 5 6"}, {"1 1 2 3 4 5", "2", "1 2 3 4 5 0"}, {"1 -1 -2 -3 -4 -5 -6", "0", "-1 -2 -3 -4 -5 -6"},
		{"1 1000000", "1000000", "1000000 0 0 0 0 0"}, {"1 -1000000", "-999999", "-1000000 0 0 0 0 0"}, {"0 0 0 0 0 0 1000000", "1", "0 0 0 0 0 1000000"}, {"1000 999999 -999999 10 -10 100 -100", "1000000", "999999 -999999 10 -10 100 -100"},
	} {
		checkDeskRows(t, head, []deskRow{{"scan " + row.nums + "|vars", row.out + " 0 0 0 0 0|" + row.vars}})
	}
	for _, nums := range []string{
		"", "-1", "1001", "1002", "10000", "1000000", "1000001", "-1000", "-1000000", "99999999999999999999", "18446744073709551617", "4294967297", "65537", "1 1 2 3 4 5 6 7", "1 0 0 0 0 0 0 0", "1 1 2 3 4 5 6 7 8", "-1 1 2 3 4 5 6", "1001 1 2 3 4 5 6",
		"1 1000001", "1 -1000001", "1 0 0 0 0 0 1000001", "1 0 0 0 0 0 -1000001", "1 10000000", "1 99999999999999999999", "1 -99999999999999999999", "1 18446744073709551617", "1 4294967297", "1 2147483648",
		"01", "00", "000", "-0", "-00", "+1", "+0", "-", "+", "--1", "-+1", "1-", "1 01", "1 00", "1 -0", "1 -01", "1 +1", "1 +0", "1 -", "1 +", "1 --1", "1 1-", "1 1 -0", "1 0 0 0 0 0 -0", "1 0 0 0 0 0 00", "1 0x1", "1 1e3", "1 1.0", "1 1,2", "1,2", "1 1_000", "0b1", "1 .", "1 '1'", "1 \u0661", "1 \uff11", "1 \xff",
		"x", "x 1", "1 x", "1 1x", "1 x1", "1x", "x1", "1 v0", "v0", "1 i0", "1 - 1", "1 not 1", "1 add 1 2", "not 1", "add 1 2", "1 1 ;", "DT", "1 1 2 3 4 5 x",
	} {
		checkDeskRows(t, append(slices.Clone(head), deskRow{"scan 1 8 0 0 0 0 9", "9 0 0 0 0 0"}), []deskRow{{"scan " + nums + "|vars|scan 1", "what|8 0 0 0 0 9|1 0 0 0 0 0"}})
	}
	for n := range 1200 {
		want := "0 0 0 0 0 0"
		if n > 1000 {
			want = "what"
		}
		checkDeskText(t, "scan "+strconv.Itoa(n)+"|scan -"+strconv.Itoa(n+1), want+"|what|")
	}
}

// DT is how much time goes by.
func TestDeskScanTime(t *testing.T) {
	for _, dt := range []int{0, 1, 499, 500, 501, 999, 1000} {
		line := "|scan " + strconv.Itoa(dt) + " 1"
		want := "0 0 0 0 0 0"
		if dt >= 500 {
			want = "1 0 0 0 0 0"
		}
		checkDeskText(t, "net delay 500 i0 ; to o0 w0|scan 1000 1"+line, "fine|0 0 0 0 0 0|"+want+"|")
	}
	checkDeskText(t, "net delay 3 i0 ; to o0 w0|scan 1 1|scan 1 1|scan 1001 1|scan 2 1 0 0 0 0 0 0|scan 1 1|wires|scan 1 1|wires", "fine|0 0 0 0 0 0|0 0 0 0 0 0|what|what|0 0 0 0 0 0|0|1 0 0 0 0 0|1|")
}

// Promise 9, through the desk: the program, then the net, then the chart, of what came in at once.
func TestDeskOrderOfThree(t *testing.T) {
	checkDeskText(t, "prog set v0 add i0 v1 ; set o5 o0|net rise v0 ; to o0 w0 ; to v1 w0|chart steps 2 ; 0 > 1 when o0 ; 1 > 0 when not v0 ; with 1 o1|scan 1|scan 1 1|vars|steps|scan 1|scan 1|scan 1",
		"fine|fine|fine|0 0 0 0 0 0|1 1 0 0 0 0|1 1 0 0 0 0|01|0 1 0 0 0 1|0 0 0 0 0 0|0 0 0 0 0 0|")
}

// Lines that are none of the table, and those that have more words than it has for them.
func TestDeskWhat(t *testing.T) {
	words := []string{"prog", "net", "chart", "scan", "fall", "vars", "steps", "wires", "order", "code", "parts", "twice", "slim"}
	for _, line := range deskOdd {
		checkDeskRows(t, deskFine, []deskRow{{line, "what"}})
	}
	for _, word := range words {
		for _, other := range []string{strings.ToUpper(word), strings.ToUpper(word[:1]) + word[1:], word[1:], word[:len(word)-1], word + "s", "s" + word, word + "1", word + "-", "-" + word, word + ";", word + "\t", word + "\r", word + "\x00", word + word, word + "," + word} {
			for _, rest := range []string{"", " 1", " -", " steps 1", " set v0 1", " rise i0"} {
				checkDeskRows(t, deskFine, []deskRow{{other + rest + "|vars|steps|wires", "what|7 0 0 0 0 0|011|10"}})
			}
		}
	}
	for _, word := range append([]string{"fall"}, deskAsks...) {
		for _, rest := range []string{"0", "1", "-", "v0", word, "1 1", "fall", "steps 1", ";", "\t", "\x00", "\xff"} {
			checkDeskRows(t, deskFine, []deskRow{{word + " " + rest + "|vars|steps|wires", "what|7 0 0 0 0 0|011|10"}})
		}
	}
}

// Spaces ahead, behind, and several between turn nothing; other white space is not one.
func TestDeskSpaces(t *testing.T) {
	lines := []string{"prog set v0 add v0 i0 ; while i5 [ - ]", "net hold 2 i1 ; xor w0 !l1 ; to o1 w0", "chart steps 3 ; 0 > 1,2 when i2 ; 1 > 0 when i3 ; with 1 o0", "scan 1 7 1 1", "vars", "steps", "wires", "order", "code", "parts", "twice", "slim add v0 0", "slim set v0 v0", "fall", "scan 1 5", "fly"}
	want := strings.Join(deskSaid(t, lines), "")
	for _, way := range []struct{ ahead, between, behind string }{{"", " ", " "}, {" ", " ", ""}, {"   ", " ", "    "}, {"", "  ", ""}, {" ", "     ", "  "}, {"", " ", strings.Repeat(" ", 300)}, {strings.Repeat(" ", 300), " ", ""}} {
		spacing := make([]string, len(lines))
		for i, line := range lines {
			spacing[i] = way.ahead + strings.ReplaceAll(line, " ", way.between) + way.behind
		}
		if got := checkDesk(t, strings.Join(spacing, "\n")); got != want {
			t.Errorf("%q answers %q, not %q", spacing, got, want)
		}
	}
	for _, other := range []string{"\t", "\r", "\v", "\f", "\x00", "\u00a0", "\u0085", "\u2003", "\u3000", "\u200b", "\xff", "\xc2", "_", "\u00e9", "\U0001f600"} {
		for _, line := range lines {
			checkDesk(t, other+line+"\n"+line+other+"\n"+strings.ReplaceAll(line, " ", other)+"\n"+strings.ReplaceAll(line, " ", " "+other)+"\n"+strings.Replace(line, " ", other+" ", 1)+"\n"+other+" "+line+"\n"+line+" "+other)
		}
		if got, want := checkDesk(t, other), "what\n"; got != want {
			t.Errorf("%q answers %q", other, got)
		}
	}
}

// TEXT of no words: none of the four can be read from that.
func TestDeskNoText(t *testing.T) {
	for _, word := range []string{"prog", "net", "chart", "slim", "scan"} {
		for _, behind := range []string{"", " ", "      "} {
			checkDeskRows(t, deskFine, []deskRow{{word + behind + "|vars|steps|wires", "what|7 0 0 0 0 0|011|10"}})
		}
	}
	checkDeskRows(t, deskFine, []deskRow{{"prog   -", "fine"}, {"net  - ", "fine"}, {"  chart   steps   1  ", "fine"}, {"slim  - ", "-"}})
	checkDeskText(t, "prog rise|prog   - |net  -|chart   steps  1|parts", "what|fine|fine|fine|-|-|steps 1|")
}

// Lines without words answer nothing; the last line is one without a newline at its end, too.
func TestDeskLines(t *testing.T) {
	for _, c := range []struct{ text, want string }{
		{"", ""}, {"\n", ""}, {"\n\n\n", ""}, {" ", ""}, {"     ", ""}, {" \n  \n   ", ""}, {" \n", ""}, {"\n ", ""}, {"steps", "1\n"}, {"steps\n", "1\n"}, {"steps\n\n", "1\n"}, {"\nsteps", "1\n"}, {"\n\n  \nsteps \n\n \n", "1\n"},
		{"steps\nsteps", "1\n1\n"}, {"steps\n\nsteps\n", "1\n1\n"}, {"steps \n steps\n\n\n", "1\n1\n"}, {"steps\r\nsteps\r\n", "what\nwhat\n"}, {"steps\rsteps", "what\n"}, {"steps\vsteps\fsteps", "what\n"}, {"steps\u2028steps\u0085steps", "what\n"}, {"prog\n-", "what\nwhat\n"}, {"steps\\nsteps", "what\n"}, {"\t\n\t", "what\nwhat\n"}, {"\x00\n\x00steps", "what\nwhat\n"},
		{strings.Repeat("\n", 20000), ""}, {strings.Repeat(" ", 20000), ""}, {strings.Repeat(" \n", 10000), ""}, {strings.Repeat("x", 20000), "what\n"}, {strings.Repeat("\xff", 20000), "what\n"}, {strings.Repeat("\u00e9", 10000), "what\n"},
	} {
		if got := checkDesk(t, c.text); got != c.want {
			t.Errorf("DeskRun(%.50q) = %q, not %q", c.text, got, c.want)
		}
	}
}

// DeskMaxText is met, and passed by one; bytes count, not letters, nor words or lines.
func TestDeskLong(t *testing.T) {
	for _, fill := range []string{" ", "\n", "x", "\x00", "\xff", "\u00e9", "steps\n", "steps ", "-", "scan 1\n"} {
		for _, first := range []string{"", "steps\n", "prog set v0 1\nscan 1\n", "\n", " "} {
			for _, more := range []int{-1, 0, 1, 2, 5000} {
				text := first + strings.Repeat(fill, 30000)
				text = text[:20000+more]
				if got := checkDesk(t, text); (got == "long\n") != (more > 0) {
					t.Errorf("%d bytes of %q: %q", len(text), text[:40], got)
				}
			}
		}
	}
	if got := impl.DeskRun(strings.Repeat("steps\n", 1<<20)); got != "long\n" {
		t.Errorf("%.50q", got)
	}
}

// DeskMaxLines lines of any kind are ahead of a line with words, or one fewer; behind `full` there is nothing.
func TestDeskFullLines(t *testing.T) {
	for _, kind := range []string{"", " ", "fly", "steps", "scan 1", "prog -"} {
		said := wantDesk(400, kind)
		for _, ahead := range []int{0, 1, 198, 199, 200, 201, 300} {
			lines := slices.Repeat([]string{kind}, ahead)
			want := strings.Repeat(said, ahead) + "1\n"
			if ahead >= 200 {
				want = strings.Repeat(said, 200) + "full\n"
			}
			text := strings.Join(append(lines, "steps"), "\n")
			if got := checkDesk(t, text); got != want {
				t.Errorf("behind %d of %q: %q, not %q", ahead, kind, got, want)
			}
			for _, behind := range []string{"\n", "\n\n\n", "\n  \n "} {
				if got := checkDesk(t, text+behind); got != want {
					t.Errorf("behind %d of %q, and %q: %q, not %q", ahead, kind, behind, got, want)
				}
			}
			for _, behind := range []string{"\nsteps", "\n\nfly\n", "\nprog -\nsteps\nsteps\n", "\nfull\nfull"} {
				if got := checkDesk(t, text+behind); ahead >= 200 && got != want || strings.Count(got, "full") > 1 {
					t.Errorf("behind %d of %q, and %q: %q, not %q", ahead, kind, behind, got, want)
				}
			}
		}
		lines := slices.Repeat([]string{kind}, 200)
		if got, want := checkDesk(t, strings.Join(lines, "\n")), strings.Repeat(said, 200); got != want {
			t.Errorf("200 of %q: %q", kind, got)
		}
		if got, want := checkDesk(t, strings.Join(lines, "\n")+strings.Repeat("\n \n", 400)), strings.Repeat(said, 200); got != want {
			t.Errorf("200 of %q, and many without words: %q", kind, got)
		}
	}
	r := rand.New(rand.NewPCG(8, 11))
	for range 40 {
		lines := make([]string, 205)
		for i := range lines {
			lines[i] = []string{"", "  ", "steps", "fly", "order"}[r.IntN(5)]
		}
		checkDesk(t, strings.Join(lines, "\n"))
	}
}

// answering are lines that answer just so many bytes, behind a program that is the greatest.
func answering(t *testing.T, many int) []string {
	t.Helper()
	lines := []string{"prog " + wantStmtsText(greatestProg())}
	many -= len("fine\n")
	for _, line := range []string{"code", "parts", "vars", "fly", "order"} {
		said := wantLines(400, append(slices.Clone(lines[:1]), line))[1]
		for ; many >= len(said); many -= len(said) {
			lines = append(lines, line)
		}
	}
	if len(lines) > 190 {
		t.Fatalf("%d lines", len(lines))
	}
	return lines
}

// DeskMaxOut bytes have been answered ahead of a line with words, or one more; behind `full` there is nothing.
func TestDeskFullOut(t *testing.T) {
	for _, many := range []int{30000, 39990, 39998, 39999, 40000} {
		lines := answering(t, many)
		ahead := strings.Join(lines, "\n")
		said := checkDesk(t, ahead)
		if len(said) != many {
			t.Fatalf("%d bytes, not %d", len(said), many)
		}
		for _, behind := range []string{"", "\n", "\n\n \n", strings.Repeat("\n", 300)} {
			if got := checkDesk(t, ahead+behind); got != said {
				t.Errorf("behind %d bytes, and %.9q: %q", many, behind, strings.TrimPrefix(got, said))
			}
		}
		for _, last := range []deskRow{{"order", "\n"}, {"fly", "what\n"}, {"slim add i0 1", "add i0 1\n"}, {"code", wantLines(400, []string{lines[0], "code"})[1]}} {
			want := said + last.said
			for _, behind := range []string{"", "\n", "\n  \n\n"} {
				if got := checkDesk(t, ahead+"\n"+last.line+behind); got != want {
					t.Errorf("behind %d bytes %q answers %.50q", many, last.line, strings.TrimPrefix(got, said))
				}
			}
			if len(want) <= 40000 {
				continue
			}
			for _, behind := range []string{"steps", "fly\n", "prog -\nsteps", "\n  \nfly", "full\nfull\nfull", "full\n\n"} {
				if got := checkDesk(t, ahead+"\n"+last.line+"\n"+behind); got != want+"full\n" {
					t.Errorf("behind %d bytes, %q and %q answer %.50q", many, last.line, behind, strings.TrimPrefix(got, said))
				}
			}
		}
	}
}

// What `parts` answers is read again as the same three.
func TestDeskPartsRead(t *testing.T) {
	words := []string{"prog ", "net ", "chart "}
	again := func(lines []string) {
		said := deskSaid(t, append(slices.Clone(lines), "parts"))
		parts := said[len(lines)]
		var anew []string
		for i, text := range strings.Split(strings.TrimSuffix(parts, "\n"), "\n") {
			anew = append(anew, words[i]+text)
		}
		for _, which := range [][3]int{{0, 1, 2}, {2, 1, 0}, {1, 2, 0}} {
			text := anew[which[0]] + "\n" + anew[which[1]] + "\n" + anew[which[2]] + "\nparts\n"
			if got := checkDesk(t, text); len(anew) != 3 || got != "fine\nfine\nfine\n"+parts {
				t.Fatalf("%q answers %q, not %q", text, got, parts)
			}
		}
	}
	again(nil)
	again([]string{"prog -", "net -", "chart steps 1"})
	for i, p := range plcsOk() {
		if i%3 == 0 {
			again([]string{"prog " + wantStmtsText(p.Prog), "net " + wantNetText(p.Net), "chart " + wantChartText(p.Chart), "scan 1 1"})
		}
	}
	r := rand.New(rand.NewPCG(9, 11))
	for range 200 {
		again(someLines(r, 12))
	}
}

// What is asked of nothing, and of the greatest there is.
func TestDeskAsks(t *testing.T) {
	for _, row := range []struct{ text, want string }{
		{"code", "end"}, {"order", ""}, {"wires", ""}, {"steps", "1"}, {"prog -|code", "fine|end"}, {"net -|order|wires", "fine||"}, {"prog set v0 1|code", "fine|push 1|store v0|end"}, {"prog while 0 [ - ]|code|prog -|code", "fine|push 0|skip 3|back 0|end|fine|end"},
		{"net rise i0|order|wires", "fine|0|0"}, {"net and w1 w2 ; or w2 !i0 ; rise i1 ; to o0 w0|order|wires|scan 1|wires|scan 1 0 1|wires", "fine|2 1 0|000|0 0 0 0 0 0|010|1 0 0 0 0 0|111"},
		{"net rise l0 ; rise l0 ; rise l0 ; rise l0 ; rise l0 ; rise l0 ; rise l0 ; rise l0|order|wires", "fine|0 1 2 3 4 5 6 7|00000000"},
		{"chart steps 6|steps", "fine|100000"}, {"chart steps 6 ; 0 > 0,1,2,3,4,5 when 1|scan 0|steps", "fine|0 0 0 0 0 0|111111"}, {"chart steps 2 ; 0 > 1 when 1|scan 0|scan 0|steps", "fine|0 0 0 0 0 0|0 0 0 0 0 0|01"},
		{"prog set v0 -1000000 ; set v1 1000000 ; set v5 -1|scan 0|vars", "fine|0 0 0 0 0 0|-1000000 1000000 0 0 0 -1"}, {"prog set o0 -1000000 ; set o1 1000000 ; set o5 -1|scan 0", "fine|-1000000 1000000 0 0 0 -1"},
	} {
		checkDeskText(t, row.text, row.want+"|")
	}
	for _, p := range plcsOk() {
		lines := []string{"prog " + wantStmtsText(p.Prog), "net " + wantNetText(p.Net), "chart " + wantChartText(p.Chart)}
		checkDesk(t, strings.Join(append(lines, deskAsks...), "\n"))
	}
}

// What is made shorter: of what is reckoned, of what is done, and of what is neither.
func TestDeskSlim(t *testing.T) {
	rows := []deskRow{
		{"slim 1", "1"}, {"slim -1000000", "-1000000"}, {"slim v0", "v0"}, {"slim i5", "i5"}, {"slim add 1 2", "3"}, {"slim  add   1  2 ", "3"}, {"slim add v0 0", "v0"}, {"slim mul 0 v0", "0"}, {"slim not not v0", "not not v0"}, {"slim sub 1 1000000", "-999999"}, {"slim or 0 v0", "or 0 v0"},
		{"slim -", "-"}, {"slim set v0 v0", "-"}, {"slim set v0 add 1 1", "set v0 2"}, {"slim while 0 [ - ]", "-"}, {"slim while 1 [ - ]", "while 1 [ - ]"}, {"slim if 1 [ set v0 1 ] [ - ]", "set v0 1"}, {"slim set v0 v0 ; set v1 add v1 0 ; set v2 3", "set v2 3"}, {"slim if v0 [ - ] [ - ]", "-"},
		{"slim", "what"}, {"slim slim", "what"}, {"slim - -", "what"}, {"slim 1 2", "what"}, {"slim 1 ; 2", "what"}, {"slim 1000001", "what"}, {"slim 01", "what"}, {"slim set v0", "what"}, {"slim set i0 1", "what"}, {"slim add 1", "what"}, {"slim rise i0", "what"}, {"slim steps 1", "what"}, {"slim load v0", "what"}, {"slim set v0 1 ;", "what"}, {"slim add 1 2 ; set v0 1", "what"}, {"slim [ - ]", "what"}, {"slim -1 -", "what"}, {"slim end", "what"}, {"slim \t1", "what"},
		{"slim " + strings.Repeat("not ", 5) + "v0", strings.Repeat("not ", 5) + "v0"}, {"slim " + strings.Repeat("not ", 6) + "v0", "what"}, {"slim " + strings.Repeat("set v0 v0 ; ", 15) + "set v0 v0", "-"}, {"slim " + strings.Repeat("set v0 v0 ; ", 16) + "set v0 v0", "what"},
	}
	checkDeskRows(t, nil, rows)
	checkDeskRows(t, deskFine, rows)
	checkDeskRows(t, append(slices.Clone(deskFine), deskRow{"scan 1 0 0 0 0 0 1", "fault"}), rows)
	r := rand.New(rand.NewPCG(10, 11))
	for range 400 {
		e, list := someSlim(r, 14, 5), someSlimStmts(r, 16, 3)
		text := wantText(wantSlim(e)) + "|" + wantStmtsText(wantSlimStmts(list)) + "|what|"
		checkDeskText(t, "slim "+wantText(e)+"|slim "+wantStmtsText(list)+"|slim "+wantText(e)+" "+wantStmtsText(list), text)
	}
}

// A script answers the same again, whatever scripts were between.
func TestDeskNothingKept(t *testing.T) {
	r := rand.New(rand.NewPCG(11, 11))
	var texts, said []string
	for range 60 {
		texts = append(texts, strings.Join(someLines(r, 20), "\n"))
	}
	texts = append(texts, "", "vars", "parts\nsteps\nwires\nvars\norder\ncode", strings.Repeat("x", 20001), strings.Repeat("prog while 1 [ - ]\nscan 1\n", 120))
	for _, text := range texts {
		said = append(said, checkDesk(t, text))
	}
	for range 6 {
		for _, i := range r.Perm(len(texts)) {
			if got := impl.DeskRun(texts[i]); got != said[i] {
				t.Fatalf("DeskRun(%q) = %q, and %q ahead of the others", texts[i], got, said[i])
			}
		}
	}
}

// A byte more, one fewer, or another one in its place.
func TestDeskByteTurned(t *testing.T) {
	for _, text := range []string{"prog set v0 i0\nscan 1 2 -3\nvars", "chart steps 2 ; 0 > 1 when 1\nscan 0\nsteps\nfall\n", " net  rise i0 ; to o0 w0\n\nscan 1 1\nwires\ntwice", "prog while i0 [ - ]\nscan 9 1\nscan 9\ncode\nparts", "slim add 1 v0\norder\nslim - \nslim"} {
		checkDesk(t, text)
		for other := range byteTurned(text) {
			checkDesk(t, other)
		}
	}
}

// Words and bytes in any order.
func TestDeskAnyText(t *testing.T) {
	r := rand.New(rand.NewPCG(12, 11))
	words := []string{"prog", "net", "chart", "scan", "fall", "vars", "steps", "wires", "order", "code", "parts", "twice", "slim", "set", "v0", "i0", "o1", "1", "2", "-1", "0", "-", ";", "[", "]", "while", "if", "rise", "w0", "to", "with", ">", "when", "add", "not", "\t", "x", "\xff", "\u00e9"}
	for range 6000 {
		text := ""
		for range r.IntN(60) {
			text += words[r.IntN(len(words))] + []string{" ", " ", " ", "\n", "\n", "", "  ", "\n\n", " \n "}[r.IntN(9)]
		}
		checkDesk(t, text)
	}
	letters := "\n\n\n   scanfallvarsteps01-\t\x00\xff\xc3\xa9"
	for range 6000 {
		text := make([]byte, r.IntN(80))
		for i := range text {
			text[i] = letters[r.IntN(len(letters))]
			if r.IntN(9) == 0 {
				text[i] = byte(r.IntN(256))
			}
		}
		checkDesk(t, string(text))
	}
}

// No program that is read has more code than there may be, so that no script answers `none`.
func TestDeskFineWhateverProg(t *testing.T) {
	for _, list := range append(stmtsOk(), greatestProg(), slices.Repeat(stmts(when(part(10, tree(7)), nil, nil)), 16)) {
		if got := impl.DeskRun("prog " + wantStmtsText(list) + "\ntwice"); got != "fine\nyes\n" {
			t.Errorf("%q: %q", wantStmtsText(list), got)
		}
	}
}

// codeMax is where the program says how much code there may be.
var codeMax = regexp.MustCompile(`\bCodeMax(\s*)=(\s*)400\b`)

// lowMain answers scripts, a quoted line each, by such lines.
const lowMain = `package main

import (
	"bufio"
	"fmt"
	"os"
	"strconv"

	"loop.example/stopgate/impl"
)

func main() {
	lines := bufio.NewScanner(os.Stdin)
	lines.Buffer(nil, 1<<20)
	for lines.Scan() {
		text, err := strconv.Unquote(lines.Text())
		if err != nil {
			panic(err)
		}
		fmt.Println(strconv.Quote(impl.DeskRun(text)))
	}
}
`

// lowDesk builds a copy of the program in which there may be only so much code, and says what scripts answer there. In
// the program as it is no controller is ever none.
func lowDesk(t *testing.T, most int) func(texts []string) []string {
	t.Helper()
	dir := t.TempDir()
	files, err := filepath.Glob("../impl/*.go")
	if err != nil || len(files) == 0 {
		t.Fatalf("no program: %v", err)
	}
	lowered := 0
	put := func(name string, text []byte) {
		if err := os.MkdirAll(filepath.Dir(filepath.Join(dir, name)), 0o777); err != nil {
			t.Fatal(err)
		}
		if err := os.WriteFile(filepath.Join(dir, name), text, 0o666); err != nil {
			t.Fatal(err)
		}
	}
	for _, file := range append(files, "../go.mod") {
		text, err := os.ReadFile(file)
		if err != nil {
			t.Fatal(err)
		}
		lowered += len(codeMax.FindAll(text, -1))
		put(strings.TrimPrefix(file, "../"), codeMax.ReplaceAll(text, []byte("CodeMax${1}=${2}"+strconv.Itoa(most))))
	}
	put("main.go", []byte(lowMain))
	if lowered != 1 {
		t.Fatalf("the program says %d times how much code there may be", lowered)
	}
	program := filepath.Join(dir, "low")
	build := exec.Command("go", "build", "-o", program, ".")
	build.Dir = dir
	if said, err := build.CombinedOutput(); err != nil {
		t.Fatalf("%v: %s", err, said)
	}
	return func(texts []string) []string {
		t.Helper()
		return lowRun(t, program, texts)
	}
}

func lowRun(t *testing.T, program string, texts []string) []string {
	t.Helper()
	var in bytes.Buffer
	for _, text := range texts {
		fmt.Fprintln(&in, strconv.Quote(text))
	}
	run := exec.Command(program)
	run.Stdin, run.Stderr = &in, os.Stderr
	out, err := run.Output()
	if err != nil {
		t.Fatal(err)
	}
	var said []string
	answers := bufio.NewReader(bytes.NewReader(out))
	for range texts {
		line, err := answers.ReadString('\n')
		one, bad := strconv.Unquote(strings.TrimSuffix(line, "\n"))
		if err != nil || bad != nil {
			t.Fatal(err, bad)
		}
		said = append(said, one)
	}
	if rest, _ := io.ReadAll(answers); len(rest) > 0 {
		t.Fatalf("more is answered than is asked: %q", rest)
	}
	return said
}

// A controller that is none, where there may be 5 instructions only: to all but what makes one again, and `slim`, the
// answer is `what`.
func TestDeskNone(t *testing.T) {
	const none = "prog set v0 add add v0 i0 1"
	var texts, want []string
	row := func(text string, said string) {
		texts, want = append(texts, strings.ReplaceAll(text, "|", "\n")), append(want, strings.ReplaceAll(said, "|", "\n")+"\n")
	}
	row("prog set v0 add add v0 i0 0|prog set v0 add v0 not i0|prog set v0 add v0 i0|prog set v0 v0 ; set v1 0 ; set v2 1", "none|fine|fine|none")
	for _, ahead := range [][2]string{{"", ""}, {"scan 1 2|", "0 0 0 0 0 0|"}, {"prog set v0 5|scan 1|", "fine|0 0 0 0 0 0|"}, {"prog while 1 [ - ]|scan 1|", "fine|fault|"}, {none + "|", "none|"}, {"net rise i0|chart steps 2|", "fine|fine|"}} {
		for _, line := range append([]string{"scan 1", "scan 1 2", "scan 0 1 2 3 4 5 6", "scan", "fall", "fall 1", "fly"}, append(deskOdd, deskAsks...)...) {
			row(ahead[0]+none+"|"+line+"|vars", ahead[1]+"none|what|what")
		}
		row(ahead[0]+none+"|slim add 1 2|slim set v0 v0|slim add v0 add v0 add v0 add v0 add v0 v0|slim 1 2|scan 1", ahead[1]+"none|3|-|add v0 add v0 add v0 add v0 add v0 v0|what|what")
		row(ahead[0]+none+"|net rise i0 ; to o0 w0|scan 1|chart steps 2 ; 0 > 1 when 1|steps|prog|prog fly|vars", ahead[1]+"none|none|what|none|what|what|what|what")
		row(ahead[0]+none+"|net rise i0 ; to o0 w0|chart steps 2 ; 0 > 1 when 1|prog -|parts|vars|steps|wires|scan 1 1|steps", ahead[1]+"none|none|none|fine|-|rise i0 ; to o0 w0|steps 2 ; 0 > 1 when 1|0 0 0 0 0 0|10|0|1 0 0 0 0 0|01")
		row(ahead[0]+none+"|fly|net fly|chart steps 9|chart steps 2|scan 1|prog set v1 i0|scan 1 4|vars|steps|twice", ahead[1]+"none|what|what|what|none|what|fine|0 0 0 0 0 0|0 4 0 0 0 0|10|yes")
	}
	row("prog set v0 add v0 i0|scan 1 3|"+none+"|prog set v0 add v0 i0|vars|scan 1 1|vars", "fine|0 0 0 0 0 0|none|fine|0 0 0 0 0 0|0 0 0 0 0 0|1 0 0 0 0 0")
	r := rand.New(rand.NewPCG(13, 11))
	low := lowDesk(t, 5)
	nones := 0
	for range 600 {
		text := strings.Join(someLines(r, 24), "\n")
		texts, want = append(texts, text), append(want, wantDesk(5, text))
		nones += strings.Count(wantDesk(5, text), "none\n")
	}
	for i, got := range low(texts) {
		if got != want[i] || got != wantDesk(5, texts[i]) {
			t.Errorf("DeskRun(%q) = %q, not %q", texts[i], got, want[i])
		}
	}
	if nones < 300 {
		t.Errorf("only %d are none", nones)
	}
}
