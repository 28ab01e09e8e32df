package tests

import (
	"math"
	"reflect"
	"strconv"
	"testing"

	"loop.example/stopgate/impl"
)

// placeTexts are the texts of all places, by kind from 1 on and by place from 0 on.
var placeTexts = [3][6]string{
	{"i0", "i1", "i2", "i3", "i4", "i5"},
	{"o0", "o1", "o2", "o3", "o4", "o5"},
	{"v0", "v1", "v2", "v3", "v4", "v5"},
}

// placesOk are all places that are ok.
func placesOk() []impl.Addr {
	var out []impl.Addr
	for kind := 1; kind <= 3; kind++ {
		for at := 0; at <= 5; at++ {
			out = append(out, impl.Addr{Kind: kind, At: at})
		}
	}
	return out
}

// placesBad are places that are not ok: by their kind, by their place, or by both.
func placesBad() []impl.Addr {
	out := []impl.Addr{{}}
	for _, kind := range []int{math.MinInt, -3, -2, -1, 0, 4, 5, 257, math.MaxInt} {
		for _, at := range []int{math.MinInt, -1, 0, 1, 5, 6, math.MaxInt} {
			out = append(out, impl.Addr{Kind: kind, At: at})
		}
	}
	for kind := 1; kind <= 3; kind++ {
		for _, at := range []int{math.MinInt, -6, -2, -1, 6, 7, 10, 256, math.MaxInt} {
			out = append(out, impl.Addr{Kind: kind, At: at})
		}
	}
	return out
}

// memOf is a memory that is ok, with another number at each place.
func memOf() impl.Mem {
	return impl.Mem{
		In:  []int{11, -12, 0, 1000000, 15, 16},
		Out: []int{21, 22, -1000000, 24, 0, 26},
		Var: []int{31, 0, 33, 34, 999999, -36},
	}
}

// listOf is the list of a memory in which the places of a kind are.
func listOf(m *impl.Mem, kind int) *[]int {
	return []*[]int{&m.In, &m.Out, &m.Var}[kind-1]
}

// copyMem is the same memory, told apart from the program.
func copyMem(m impl.Mem) impl.Mem {
	return impl.Mem{
		In:  append([]int(nil), m.In...),
		Out: append([]int(nil), m.Out...),
		Var: append([]int(nil), m.Var...),
	}
}

// sameMem says whether two memories have the same numbers, told apart from the program.
func sameMem(a impl.Mem, b impl.Mem) bool { return reflect.DeepEqual(copyMem(a), copyMem(b)) }

func isNothing(m impl.Mem) bool { return len(m.In)+len(m.Out)+len(m.Var) == 0 }

// memsBad are memories that are not ok, each by one thing alone where that can be.
func memsBad() map[string]impl.Mem {
	out := map[string]impl.Mem{"nothing": {}, "empty": {In: []int{}, Out: []int{}, Var: []int{}}}
	for kind, name := range map[int]string{1: "In", 2: "Out", 3: "Var"} {
		turn := func(what string, f func(list []int) []int) {
			m := memOf()
			list := listOf(&m, kind)
			*list = f(*list)
			out[name+" "+what] = m
		}
		turn("nil", func([]int) []int { return nil })
		turn("empty", func([]int) []int { return []int{} })
		turn("one", func(list []int) []int { return list[:1] })
		turn("too short by one", func(list []int) []int { return list[:5:5] })
		turn("too short by one, with room", func(list []int) []int { return list[:5] })
		turn("too long by one", func(list []int) []int { return append(list, 0) })
		turn("twice as long", func(list []int) []int { return append(list, list...) })
		for _, n := range []int{-1000001, 1000001, math.MinInt, math.MaxInt} {
			for at := range 6 {
				turn("with "+strconv.Itoa(n)+" at "+strconv.Itoa(at), func(list []int) []int { list[at] = n; return list })
			}
		}
	}
	shift := memOf()
	shift.In, shift.Out = append(shift.In, shift.Out[0]), shift.Out[1:]
	out["with a number moved from Out to In"] = shift
	return out
}

func TestMemNames(t *testing.T) {
	if impl.AddrIn != 1 || impl.AddrOut != 2 || impl.AddrVar != 3 || impl.MemWide != 6 {
		t.Error(impl.AddrIn, impl.AddrOut, impl.AddrVar, impl.MemWide)
	}
}

func TestAddrOk(t *testing.T) {
	for _, a := range placesOk() {
		if !impl.AddrOk(a) {
			t.Errorf("AddrOk(%v) = false", a)
		}
	}
	for _, a := range placesBad() {
		if impl.AddrOk(a) {
			t.Errorf("AddrOk(%v) = true", a)
		}
	}
}

func TestAddrText(t *testing.T) {
	for _, a := range placesOk() {
		if got, want := impl.AddrText(a), placeTexts[a.Kind-1][a.At]; got != want {
			t.Errorf("AddrText(%v) = %q, not %q", a, got, want)
		}
	}
	for _, a := range placesBad() {
		if got := impl.AddrText(a); got != "" {
			t.Errorf("AddrText(%v) = %q", a, got)
		}
	}
}

// wantRead is what must be read from a text, by the table of all texts.
func wantRead(text string) (impl.Addr, bool) {
	for i, row := range placeTexts {
		for at, s := range row {
			if s == text {
				return impl.Addr{Kind: i + 1, At: at}, true
			}
		}
	}
	return impl.Addr{}, false
}

func checkRead(t *testing.T, text string) {
	t.Helper()
	got, ok := impl.AddrRead(text)
	want, wantOk := wantRead(text)
	if got != want || ok != wantOk {
		t.Errorf("AddrRead(%q) = %v, %v, not %v, %v", text, got, ok, want, wantOk)
	}
}

// Every text of at most two bytes.
func TestAddrReadShort(t *testing.T) {
	checkRead(t, "")
	read := 0
	for a := range 256 {
		checkRead(t, string([]byte{byte(a)}))
		for b := range 256 {
			text := string([]byte{byte(a), byte(b)})
			checkRead(t, text)
			if _, ok := impl.AddrRead(text); ok {
				read++
			}
		}
	}
	if read != 18 {
		t.Errorf("%d texts are read, not 18", read)
	}
}

// The text of a place with any byte more, at any place of it, is the text of none.
func TestAddrReadByteMore(t *testing.T) {
	for _, row := range placeTexts {
		for _, text := range row {
			for b := range 256 {
				more := string([]byte{byte(b)})
				checkRead(t, more+text)
				checkRead(t, text[:1]+more+text[1:])
				checkRead(t, text+more)
			}
		}
	}
}

func TestAddrReadNone(t *testing.T) {
	for _, text := range []string{
		"", "i", "o", "v", "0", "5", "00", "i6", "o6", "v6", "i9", "i10", "v12", "o55",
		"i00", "i01", "v05", "o000", "i+1", "i-0", "i-1", "-i1", "+v0", "I0", "O1", "V5", "x0", "w0", "l0",
		" i0", "i0 ", "i 0", "i0\n", "\ni0", "\x00i0", "i0\x00", "i0i0", "i0,i1", "!i0", "ii0", "i0.0", "i1e0", "i0x1",
		"i\xb2", "i٣", "i０", "і0", "\xff", "\xff\xff", "i\xff", "add", "in0", "18446744073709551616", "i18446744073709551616",
	} {
		if got, ok := impl.AddrRead(text); ok || got != (impl.Addr{}) {
			t.Errorf("AddrRead(%q) = %v, %v", text, got, ok)
		}
	}
}

func TestAddrReadAsWritten(t *testing.T) {
	for _, a := range placesOk() {
		if got, ok := impl.AddrRead(impl.AddrText(a)); !ok || got != a {
			t.Errorf("AddrRead(AddrText(%v)) = %v, %v", a, got, ok)
		}
	}
}

func TestMemOpen(t *testing.T) {
	zeros := impl.Mem{In: make([]int, 6), Out: make([]int, 6), Var: make([]int, 6)}
	if m := impl.MemOpen(); !sameMem(m, zeros) || !impl.MemOk(m) {
		t.Errorf("MemOpen() = %v", m)
	}
	m := impl.MemOpen()
	fill(m, 7)
	if again := impl.MemOpen(); !sameMem(again, zeros) {
		t.Errorf("MemOpen() = %v, behind one that was written into", again)
	}
}

func TestMemOk(t *testing.T) {
	for _, m := range []impl.Mem{memOf(), impl.MemOpen()} {
		if !impl.MemOk(m) {
			t.Errorf("MemOk(%v) = false", m)
		}
	}
	for _, a := range placesOk() {
		for _, n := range []int{-1000000, -999999, -1, 0, 1, 999999, 1000000} {
			m := memOf()
			(*listOf(&m, a.Kind))[a.At] = n
			if !impl.MemOk(m) {
				t.Errorf("MemOk(%v) = false", m)
			}
		}
	}
	for name, m := range memsBad() {
		if impl.MemOk(m) {
			t.Errorf("MemOk = true of a memory that is not ok: %s", name)
		}
	}
}

func TestMemSame(t *testing.T) {
	if !impl.MemSame(memOf(), memOf()) {
		t.Error("a memory is not the same as itself")
	}
	for _, a := range placesOk() {
		for _, more := range []int{1, -1, 256, 1 << 20} {
			m := memOf()
			(*listOf(&m, a.Kind))[a.At] += more
			if impl.MemSame(m, memOf()) || impl.MemSame(memOf(), m) {
				t.Errorf("the same with %d more at %v", more, a)
			}
		}
	}
	m := memOf()
	for name, other := range map[string]impl.Mem{
		"In and Out":  {In: m.Out, Out: m.In, Var: m.Var},
		"In and Var":  {In: m.Var, Out: m.Out, Var: m.In},
		"Out and Var": {In: m.In, Out: m.Var, Var: m.Out},
	} {
		if impl.MemSame(m, other) || impl.MemSame(other, m) {
			t.Errorf("the same, with %s changed", name)
		}
	}
}

// Memories that are not ok are the same if they have the same numbers, and no other ones.
func TestMemSameBad(t *testing.T) {
	mems := memsBad()
	mems["ok"] = memOf()
	mems["zeros"] = impl.MemOpen()
	for x, a := range mems {
		for y, b := range mems {
			if got, want := impl.MemSame(a, b), sameMem(a, b); got != want {
				t.Errorf("MemSame = %v, not %v: %s, %s", got, want, x, y)
			}
			if got, want := impl.MemSame(a, copyMem(b)), sameMem(a, b); got != want {
				t.Errorf("MemSame = %v, not %v, of a copy: %s, %s", got, want, x, y)
			}
		}
	}
	if !impl.MemSame(impl.Mem{}, impl.Mem{In: []int{}, Out: []int{}, Var: []int{}}) {
		t.Error("the empty list is not the same as the nil list")
	}
	long := func(last int) impl.Mem { m := memOf(); m.Var = append(m.Var, 1, last); return m }
	if impl.MemSame(long(2), long(3)) || !impl.MemSame(long(2), long(2)) {
		t.Error("numbers behind the sixth do not count")
	}
	for kind := 1; kind <= 3; kind++ {
		short, other := impl.Mem{}, impl.Mem{}
		*listOf(&short, kind), *listOf(&other, kind) = []int{1, 2}, []int{1, 3}
		if impl.MemSame(short, other) || impl.MemSame(short, impl.Mem{}) || impl.MemSame(impl.Mem{}, short) {
			t.Errorf("short lists of kind %d that are not the same are", kind)
		}
	}
}

func TestMemGet(t *testing.T) {
	m := memOf()
	for _, a := range placesOk() {
		if got, want := impl.MemGet(m, a), (*listOf(&m, a.Kind))[a.At]; got != want {
			t.Errorf("MemGet at %v = %d, not %d", a, got, want)
		}
	}
	full := impl.MemOpen()
	fill(full, 7)
	for _, a := range placesBad() {
		if got := impl.MemGet(full, a); got != 0 {
			t.Errorf("MemGet at %v = %d", a, got)
		}
	}
	for name, bad := range memsBad() {
		for _, a := range append(placesOk(), placesBad()...) {
			if got := impl.MemGet(bad, a); got != 0 {
				t.Errorf("MemGet at %v = %d of a memory that is not ok: %s", a, got, name)
			}
		}
	}
}

// cutCases are numbers, and what is there once they are put.
var cutCases = []struct{ n, want int }{
	{0, 0}, {1, 1}, {-1, -1}, {5, 5}, {123456, 123456},
	{999999, 999999}, {1000000, 1000000}, {1000001, 1000000}, {5000000, 1000000}, {math.MaxInt, 1000000},
	{-999999, -999999}, {-1000000, -1000000}, {-1000001, -1000000}, {-5000000, -1000000}, {math.MinInt, -1000000},
}

// Promise 2: what is put at a place is there, and nothing else is turned.
func TestMemPut(t *testing.T) {
	for _, a := range placesOk() {
		if a.Kind == 1 {
			continue
		}
		for _, c := range cutCases {
			m, want := memOf(), memOf()
			(*listOf(&want, a.Kind))[a.At] = c.want
			got := impl.MemPut(m, a, c.n)
			if !sameMem(got, want) || !impl.MemOk(got) || impl.MemGet(got, a) != c.want {
				t.Errorf("MemPut of %d at %v = %v, not %v", c.n, a, got, want)
			}
			if !sameMem(m, memOf()) {
				t.Errorf("MemPut of %d at %v turned what it was given: %v", c.n, a, m)
			}
		}
	}
}

// Promise 2: nothing can be put where something comes in, nor where there is no place.
func TestMemPutNowhere(t *testing.T) {
	places := placesBad()
	for at := range 6 {
		places = append(places, impl.Addr{Kind: 1, At: at})
	}
	for _, a := range places {
		for _, c := range cutCases {
			m := memOf()
			if got := impl.MemPut(m, a, c.n); !sameMem(got, memOf()) || !sameMem(m, memOf()) {
				t.Errorf("MemPut of %d at %v = %v, of %v", c.n, a, got, m)
			}
		}
	}
}

func TestMemPutBad(t *testing.T) {
	for name, bad := range memsBad() {
		was := copyMem(bad)
		for _, a := range append(placesOk(), placesBad()...) {
			if got := impl.MemPut(bad, a, 3); !isNothing(got) {
				t.Errorf("MemPut at %v = %v of a memory that is not ok: %s", a, got, name)
			}
		}
		if !sameMem(bad, was) {
			t.Errorf("MemPut turned a memory that is not ok: %s", name)
		}
	}
}

// What was put ahead stays, whatever is put at other places.
func TestMemPutAll(t *testing.T) {
	m := impl.MemOpen()
	for _, a := range placesOk() {
		m = impl.MemPut(m, a, 10*a.Kind+a.At)
	}
	want := impl.Mem{In: make([]int, 6), Out: []int{20, 21, 22, 23, 24, 25}, Var: []int{30, 31, 32, 33, 34, 35}}
	if !sameMem(m, want) {
		t.Errorf("%v, not %v", m, want)
	}
}

// fill writes a number all over a memory, spare room included.
func fill(m impl.Mem, n int) {
	for _, list := range [][]int{m.In, m.Out, m.Var} {
		list = list[:cap(list)]
		for i := range list {
			list[i] = n
		}
	}
}

// roomy is a memory that is ok, whose lists lie behind one another in one array, with room behind each; and that array.
func roomy() (impl.Mem, []int) {
	all := make([]int, 30)
	for i := range all {
		all[i] = 100 + i
	}
	return impl.Mem{In: all[0:6], Out: all[10:16], Var: all[20:26]}, all
}

// turned says which numbers of roomy's array are no longer as they were.
func turned(all []int) []int {
	var out []int
	for i, n := range all {
		if n != 100+i {
			out = append(out, i)
		}
	}
	return out
}

// answersOf are all memories that can be answered of one: put at Out, at Var, where something comes in, and at no place.
func answersOf(m impl.Mem) map[string]impl.Mem {
	return map[string]impl.Mem{
		"o0":       impl.MemPut(m, impl.Addr{Kind: 2, At: 0}, 1),
		"o5":       impl.MemPut(m, impl.Addr{Kind: 2, At: 5}, 2),
		"v0":       impl.MemPut(m, impl.Addr{Kind: 3, At: 0}, 3),
		"v5":       impl.MemPut(m, impl.Addr{Kind: 3, At: 5}, 4),
		"i0":       impl.MemPut(m, impl.Addr{Kind: 1, At: 0}, 5),
		"i5":       impl.MemPut(m, impl.Addr{Kind: 1, At: 5}, 6),
		"no place": impl.MemPut(m, impl.Addr{Kind: 2, At: 6}, 7),
		"no kind":  impl.MemPut(m, impl.Addr{Kind: 4, At: 0}, 8),
	}
}

// Nothing is written into an argument, nor behind its end, by any function of a memory.
func TestMemArgumentsStay(t *testing.T) {
	m, all := roomy()
	answersOf(m)
	for _, a := range append(placesOk(), placesBad()...) {
		impl.MemGet(m, a)
		impl.MemPut(m, a, 9)
	}
	impl.MemOk(m)
	impl.MemSame(m, m)
	impl.MemSame(m, memOf())
	short := m
	short.Out = m.Out[:5]
	impl.MemPut(short, impl.Addr{Kind: 2, At: 5}, 9)
	impl.MemSame(short, m)
	if at := turned(all); at != nil {
		t.Errorf("turned at %v: %v", at, all)
	}
}

// Writing into an answer turns no argument, and no other answer, and the other way round; spare room included.
func TestMemAnswersAreNew(t *testing.T) {
	m, all := roomy()
	answers := answersOf(m)
	want := map[string]impl.Mem{}
	for name, got := range answers {
		want[name] = copyMem(got)
	}
	for name, got := range answers {
		fill(got, -1)
		if at := turned(all); at != nil {
			t.Fatalf("writing into the answer at %s turned the argument at %v", name, at)
		}
		for other, kept := range answers {
			if other != name && !sameMem(kept, want[other]) {
				t.Fatalf("writing into the answer at %s turned that at %s", name, other)
			}
		}
		copy(got.In, want[name].In)
		copy(got.Out, want[name].Out)
		copy(got.Var, want[name].Var)
	}
	for i := range all {
		all[i] = -2
	}
	for name, got := range answers {
		if !sameMem(got, want[name]) {
			t.Errorf("writing into the argument turned the answer at %s: %v", name, got)
		}
	}
}

// No two lists of one answer share memory, spare room included, not even of an argument whose lists are one.
func TestMemListsApart(t *testing.T) {
	one := []int{1, 2, 3, 4, 5, 6}
	answers := answersOf(impl.Mem{In: one, Out: one, Var: one})
	answers["MemOpen"] = impl.MemOpen()
	for name, m := range answers {
		for kind := 1; kind <= 3; kind++ {
			want := copyMem(m)
			list := (*listOf(&m, kind))
			list = list[:cap(list)]
			for i := range list {
				list[i] = 50 + kind
			}
			copy(*listOf(&want, kind), list)
			if !sameMem(m, want) {
				t.Errorf("%s: writing into list %d turned another one: %v, not %v", name, kind, m, want)
			}
		}
	}
	got := impl.MemPut(impl.Mem{In: one, Out: one, Var: one}, impl.Addr{Kind: 2, At: 1}, 9)
	want := impl.Mem{In: []int{1, 2, 3, 4, 5, 6}, Out: []int{1, 9, 3, 4, 5, 6}, Var: []int{1, 2, 3, 4, 5, 6}}
	if !sameMem(got, want) {
		t.Errorf("%v, not %v", got, want)
	}
}
