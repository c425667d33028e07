package tests

import (
	"math"
	"strings"
	"testing"

	"loop.example/latimer/impl"
)

// The signatures that the document gives; another one would not compile here.
var (
	_ func(impl.InsIns) bool           = impl.InsOk
	_ func(impl.InsIns) int            = impl.InsPut
	_ func(int) (impl.InsIns, bool)    = impl.InsTake
	_ func(int) bool                   = impl.InsEnds
	_ func(impl.InsIns) string         = impl.InsText
	_ func(string) (impl.InsIns, bool) = impl.InsRead
)

// insRow is a line of the document's table: how many values D, A and K may have (1, if the Op does not have it).
type insRow struct {
	name      string
	d, a, k   int
	kRegister bool
}

var insRows = []insRow{
	{"", 1, 1, 4, false},
	{"set", 4, 1, 256, false},
	{"move", 4, 4, 1, false},
	{"add", 4, 4, 4, true},
	{"sub", 4, 4, 4, true},
	{"mul", 4, 4, 4, true},
	{"and", 4, 4, 4, true},
	{"xor", 4, 4, 4, true},
	{"shift", 4, 4, 16, false},
	{"load", 4, 4, 256, false},
	{"store", 4, 4, 256, false},
	{"same", 4, 4, 256, false},
	{"less", 4, 4, 256, false},
	{"go", 1, 4, 1, false},
	{"out", 4, 1, 1, false},
	{"in", 4, 1, 1, false},
}

var extremes = []int{math.MinInt, math.MinInt + 1, math.MinInt + 3, -1 << 32, -65536, -256, -4, -1, 256, 1024, 4096, 65536, 1 << 32, 1<<32 + 1, math.MaxInt - 1, math.MaxInt}

// wantedOk is what the document asks of InsOk, by its table.
func wantedOk(i impl.InsIns) bool {
	if i.Op < 0 || i.Op >= len(insRows) {
		return false
	}
	row := insRows[i.Op]
	return 0 <= i.D && i.D < row.d && 0 <= i.A && i.A < row.a && 0 <= i.K && i.K < row.k
}

// wantedText is the text of an instruction that is ok.
func wantedText(i impl.InsIns) string {
	if i.Op == impl.InsStop {
		return []string{"stop", "return", "let", "keep"}[i.K]
	}
	row, letters := insRows[i.Op], []string{" a", " b", " c", " d"}
	out := row.name
	if row.d > 1 {
		out += letters[i.D]
	}
	if row.a > 1 {
		out += letters[i.A]
	}
	if row.kRegister {
		return out + letters[i.K]
	}
	if row.k > 1 {
		out += " " + decimals(i.K)
	}
	return out
}

// allInstructions are all that are ok, in the order of their words.
func allInstructions() []impl.InsIns {
	var out []impl.InsIns
	for op, row := range insRows {
		for d := range row.d {
			for a := range row.a {
				for k := range row.k {
					out = append(out, impl.InsIns{Op: op, D: d, A: a, K: k})
				}
			}
		}
	}
	return out
}

// linesOfAll tells for each text of an instruction which one it is.
func linesOfAll() map[string]impl.InsIns {
	out := map[string]impl.InsIns{}
	for _, i := range allInstructions() {
		out[wantedText(i)] = i
	}
	return out
}

// holdNotOk fails unless an instruction is answered as one that is not ok.
func holdNotOk(t *testing.T, i impl.InsIns) {
	t.Helper()
	if impl.InsOk(i) || impl.InsPut(i) != 0 || impl.InsText(i) != "" {
		t.Fatalf("%+v is not ok, but: %v %d %q", i, impl.InsOk(i), impl.InsPut(i), impl.InsText(i))
	}
}

// holdOk fails unless an instruction is answered as one that is ok.
func holdOk(t *testing.T, i impl.InsIns) {
	t.Helper()
	w := i.Op*4096 + i.D*1024 + i.A*256 + i.K
	if !impl.InsOk(i) || impl.InsPut(i) != w || impl.InsText(i) != wantedText(i) {
		t.Fatalf("%+v is ok, but: %v %d %q", i, impl.InsOk(i), impl.InsPut(i), impl.InsText(i))
	}
	if got, ok := impl.InsTake(w); !ok || got != i {
		t.Fatalf("InsTake(%d) is %+v, %v, not %+v", w, got, ok, i)
	}
}

// holdNoLine fails unless a line is refused.
func holdNoLine(t *testing.T, s string) {
	t.Helper()
	if got, ok := impl.InsRead(s); ok || got != (impl.InsIns{}) {
		t.Fatalf("InsRead of %.40q, of %d bytes, is %+v, %v", s, len(s), got, ok)
	}
}

func TestInstructionNumbers(t *testing.T) {
	got := []int{
		impl.InsStop, impl.InsSet, impl.InsMove, impl.InsAdd, impl.InsSub, impl.InsMul, impl.InsAnd, impl.InsXor,
		impl.InsShift, impl.InsLoad, impl.InsStore, impl.InsSame, impl.InsLess, impl.InsGo, impl.InsOut, impl.InsIn,
		impl.InsRegs, impl.StopAll, impl.StopReturn, impl.StopLet, impl.StopKeep,
	}
	want := []int{0, 1, 2, 3, 4, 5, 6, 7, 8, 9, 10, 11, 12, 13, 14, 15, 4, 0, 1, 2, 3}
	for i := range want {
		if got[i] != want[i] {
			t.Errorf("constant %d of chapter 2 is %d, not %d", i, got[i], want[i])
		}
	}
}

func TestWhatEndsCode(t *testing.T) {
	for op := -20; op <= 40; op++ {
		if want := op == 11 || op == 12 || op == 13; impl.InsEnds(op) != want {
			t.Errorf("InsEnds(%d) is %v", op, !want)
		}
	}
	for _, op := range append([]int{1<<32 + impl.InsGo, 65536 + impl.InsSame, -impl.InsLess}, extremes...) {
		if impl.InsEnds(op) {
			t.Errorf("InsEnds(%d) is true", op)
		}
	}
}

func TestP13OrdinaryInstructions(t *testing.T) {
	for _, c := range []struct {
		i    impl.InsIns
		word int
		line string
	}{
		{impl.InsIns{}, 0, "stop"},
		{impl.InsIns{Op: impl.InsStop, K: impl.StopReturn}, 1, "return"},
		{impl.InsIns{Op: impl.InsStop, K: impl.StopLet}, 2, "let"},
		{impl.InsIns{Op: impl.InsStop, K: impl.StopKeep}, 3, "keep"},
		{impl.InsIns{Op: impl.InsSet, D: 1, K: 17}, 5137, "set b 17"},
		{impl.InsIns{Op: impl.InsMove, D: 3, A: 2}, 11776, "move d c"},
		{impl.InsIns{Op: impl.InsAdd, D: 2, A: 1, K: 3}, 14595, "add c b d"},
		{impl.InsIns{Op: impl.InsSub, D: 0, A: 0, K: 1}, 16385, "sub a a b"},
		{impl.InsIns{Op: impl.InsMul, D: 1, A: 2, K: 0}, 22016, "mul b c a"},
		{impl.InsIns{Op: impl.InsAnd, D: 3, A: 3, K: 3}, 28419, "and d d d"},
		{impl.InsIns{Op: impl.InsXor, D: 0, A: 3, K: 2}, 29442, "xor a d c"},
		{impl.InsIns{Op: impl.InsShift, D: 2, A: 0, K: 15}, 34831, "shift c a 15"},
		{impl.InsIns{Op: impl.InsLoad, D: 3, A: 2, K: 8}, 40456, "load d c 8"},
		{impl.InsIns{Op: impl.InsStore, D: 3, A: 1, K: 1}, 44289, "store d b 1"},
		{impl.InsIns{Op: impl.InsSame, D: 1, A: 1, K: 255}, 46591, "same b b 255"},
		{impl.InsIns{Op: impl.InsLess, D: 2, A: 0, K: 2}, 51202, "less c a 2"},
		{impl.InsIns{Op: impl.InsGo, A: 3}, 54016, "go d"},
		{impl.InsIns{Op: impl.InsOut, D: 1}, 58368, "out b"},
		{impl.InsIns{Op: impl.InsIn, D: 3}, 64512, "in d"},
	} {
		if !impl.InsOk(c.i) || impl.InsPut(c.i) != c.word || impl.InsText(c.i) != c.line {
			t.Errorf("%+v: %v %d %q, not %d %q", c.i, impl.InsOk(c.i), impl.InsPut(c.i), impl.InsText(c.i), c.word, c.line)
		}
		if got, ok := impl.InsTake(c.word); !ok || got != c.i {
			t.Errorf("InsTake(%d) is %+v, %v", c.word, got, ok)
		}
		if got, ok := impl.InsRead(c.line); !ok || got != c.i {
			t.Errorf("InsRead(%q) is %+v, %v", c.line, got, ok)
		}
	}
}

// Every word: by the table it says one instruction, or none.
func TestP13EveryWord(t *testing.T) {
	says := 0
	for w := range impl.WrdMany {
		want := impl.InsIns{Op: w / 4096, D: w / 1024 % 4, A: w / 256 % 4, K: w % 256}
		got, ok := impl.InsTake(w)
		if !wantedOk(want) {
			holdNotOk(t, want)
			if ok || got != (impl.InsIns{}) {
				t.Fatalf("InsTake(%d) is %+v, %v", w, got, ok)
			}
			continue
		}
		says++
		holdOk(t, want)
		if !ok || got != want || impl.InsPut(got) != w {
			t.Fatalf("InsTake(%d) is %+v, %v, not %+v", w, got, ok, want)
		}
		if back, ok := impl.InsRead(impl.InsText(got)); !ok || back != got {
			t.Fatalf("InsRead(%q) is %+v, %v", impl.InsText(got), back, ok)
		}
	}
	if want := len(allInstructions()); says != want {
		t.Fatalf("%d words say an instruction, not %d", says, want)
	}
}

func TestP13AllInstructions(t *testing.T) {
	last := -1
	for _, i := range allInstructions() {
		holdOk(t, i)
		if w := impl.InsPut(i); w <= last {
			t.Fatalf("%+v has the word %d, and the one ahead of it %d", i, w, last)
		}
		last = impl.InsPut(i)
	}
}

// All fields about their ends at once: just what the table has is ok.
func TestP13FieldsAboutTheirEnds(t *testing.T) {
	numbers := []int{-1, 0, 1, 2, 3, 4, 5, 14, 15, 16, 17, 254, 255, 256, 257}
	for op := -3; op <= 19; op++ {
		for d := -1; d <= 5; d++ {
			for a := -1; a <= 5; a++ {
				for _, k := range numbers {
					if i := (impl.InsIns{Op: op, D: d, A: a, K: k}); wantedOk(i) {
						holdOk(t, i)
					} else {
						holdNotOk(t, i)
					}
				}
			}
		}
	}
}

func TestP13ExtremesInEachField(t *testing.T) {
	for _, i := range []impl.InsIns{{Op: impl.InsStop, K: 1}, {Op: impl.InsSet, D: 1, K: 1}, {Op: impl.InsMove, D: 1, A: 1}, {Op: impl.InsAdd, D: 1, A: 1, K: 1}, {Op: impl.InsSub, D: 3, A: 2, K: 1}, {Op: impl.InsMul, K: 3}, {Op: impl.InsAnd}, {Op: impl.InsXor, D: 2}, {Op: impl.InsShift, D: 1, A: 1, K: 1}, {Op: impl.InsLoad, D: 1, A: 1, K: 1}, {Op: impl.InsStore, D: 1, A: 1, K: 1}, {Op: impl.InsSame, D: 1, A: 1, K: 1}, {Op: impl.InsLess, D: 1, A: 1, K: 1}, {Op: impl.InsGo, A: 1}, {Op: impl.InsOut, D: 1}, {Op: impl.InsIn, D: 1}} {
		holdOk(t, i)
		for _, n := range extremes {
			wrong := []impl.InsIns{i, i, i, i, {Op: n, D: n, A: n, K: n}, {Op: i.Op, D: n, A: n, K: n}}
			wrong[0].Op, wrong[1].D, wrong[2].A, wrong[3].K = n, n, n, n
			for _, x := range wrong {
				holdNotOk(t, x)
			}
		}
	}
}

func TestP13OpsPastTheirEnds(t *testing.T) {
	for _, op := range append([]int{-1, -2, 16, 17, 31, 65536, 65551, 1<<32 + impl.InsIn}, extremes...) {
		for _, i := range []impl.InsIns{{Op: op}, {Op: op, K: 1}, {Op: op, D: 1, A: 1, K: 1}, {Op: op, D: 3}, {Op: op, A: 3}} {
			holdNotOk(t, i)
		}
	}
}

func TestP13WhatAnInstructionDoesNotHave(t *testing.T) {
	for op, row := range insRows {
		for _, n := range append([]int{1, 2, 3, 4, 255}, extremes...) {
			if row.d == 1 {
				holdNotOk(t, impl.InsIns{Op: op, D: n})
			}
			if row.a == 1 {
				holdNotOk(t, impl.InsIns{Op: op, A: n})
			}
			if row.k == 1 {
				holdNotOk(t, impl.InsIns{Op: op, K: n})
			}
		}
	}
}

func TestP13EdgesOfTheNumber(t *testing.T) {
	for op, row := range insRows {
		holdOk(t, impl.InsIns{Op: op, D: row.d - 1, A: row.a - 1, K: row.k - 1})
		holdNotOk(t, impl.InsIns{Op: op, D: row.d - 1, A: row.a - 1, K: row.k})
		holdNotOk(t, impl.InsIns{Op: op, D: row.d, A: row.a - 1, K: row.k - 1})
		holdNotOk(t, impl.InsIns{Op: op, D: row.d - 1, A: row.a, K: row.k - 1})
		for _, i := range []impl.InsIns{{Op: op, K: -1}, {Op: op, D: -1}, {Op: op, A: -1}} {
			holdNotOk(t, i)
		}
	}
}

func TestP13OfNoWordThereIsNothing(t *testing.T) {
	for _, n := range noWords {
		if i, ok := impl.InsTake(n); ok || i != (impl.InsIns{}) {
			t.Errorf("InsTake(%d), no word, is %+v, %v", n, i, ok)
		}
	}
	for _, w := range mixedWords(2000) {
		for _, n := range []int{w + 65536, w - 65536, w + 1<<32, -w - 1} {
			if i, ok := impl.InsTake(n); ok || i != (impl.InsIns{}) {
				t.Fatalf("InsTake(%d), no word, is %+v, %v", n, i, ok)
			}
		}
	}
}

func TestP14TextIsReadAsTheInstruction(t *testing.T) {
	lines := linesOfAll()
	if len(lines) != len(allInstructions()) {
		t.Fatalf("%d lines of %d instructions", len(lines), len(allInstructions()))
	}
	for line, i := range lines {
		if got := impl.InsText(i); got != line {
			t.Fatalf("InsText(%+v) is %q, not %q", i, got, line)
		}
		if got, ok := impl.InsRead(line); !ok || got != i {
			t.Fatalf("InsRead(%q) is %+v, %v, not %+v", line, got, ok, i)
		}
	}
}

func TestP14LinesThatAreNoInstruction(t *testing.T) {
	for _, s := range []string{
		"", " ", "  ", "   ", "\t", "\n", "a", "d", "1", "255",
		"st", "sto", "stopp", "stop ", " stop", "stop 0", "stop a", "stop all", "return 1", "let a", "keep 3", "stop\n", "stop\x00", "\x00stop",
		"set", "set ", "set a", "set a ", "set 1", "set a a", "set a b", "set 1 1", "set 0 0", "set a 1 ", " set a 1", "set  a 1", "set a  1", "set a 1 1", "set a a 1", "seta 1", "set a1", "set\ta 1", "set a\t1", "set a,1",
		"set a 256", "set a 257", "set a 999", "set a 1000", "set a 65535", "set a 65536", "set a 00", "set a 01", "set a 001", "set a 007", "set a 0255", "set a +1", "set a -1", "set a +0", "set a -0", "set a 1.", "set a 0x1", "set a 1e1", "set a 1_0",
		"set e 1", "set z 1", "set A 1", "set ` 1", "set \x00 1", "set aa 1", "set ab 1", "set 3 1", "set  1", "set bc 1",
		"Set a 1", "SET a 1", "sEt a 1", "STOP", "Stop", "Return", "LET", "Go a", "go A", "OUT a", "in D",
		"move", "move a", "move a 1", "move 0 0", "move a a a", "move a e", "move e a", "move a  b", "move a b ", "move ab", "move a b 0",
		"add a a", "add a a 0", "add a a 3", "add a a e", "add a a a a", "add 0 0 0", "add a", "add", "sub a a 1", "mul a b 2", "and a b 0", "xor a b 1", "xor a b cd", "add a a aa", "add a aa", "mul a b C",
		"shift a a 16", "shift a a 17", "shift a a 255", "shift a a 015", "shift a a -1", "shift a a b", "shift a 1", "shift a a", "shift a a 1 1",
		"load a a 256", "load a a", "load a 1", "load a a a", "load 1 1 1", "load a a 1 1", "store a a 256", "store a a 00", "store a a b", "store", "store a 1 a", "store a a -0",
		"same a a 256", "same a a", "same a b c", "less a a 999", "less a a", "less 0 0 0", "less a b 1 ", "same a a 1 0",
		"go", "go ", "go 0", "go e", "go a a", "go a 0", "go  a", "goa", "goto a",
		"out", "out 0", "out e", "out a a", "out a 0", "in", "in 1", "in a a", "in e", "ina", "outa",
		"word 7", "nop", "jump a", "div a a a", "or a a a", "stop\nstop", "stop;", "# stop",
		"\xff", "set \xff 1", "set a \xff", "\xffset a 1", "set a 1\xff", "set a \u0661", "set a \u00b2", "set\u00a0a 1", "\uff53\uff45\uff54 a 1", "s\u00e9t a 1", "\xc3\x28",
		"store d d 255       ", "       store d d 255", "store d d        255", "store d d 255        ", "store d d 00000000255",
	} {
		holdNoLine(t, s)
	}
}

func TestP14LongLines(t *testing.T) {
	for _, size := range []int{20, 21, 22, 1000, 1 << 20} {
		for _, s := range []string{
			strings.Repeat(" ", size), strings.Repeat("a", size), strings.Repeat("0", size), strings.Repeat("a ", size)[:size], strings.Repeat("\xff", size), strings.Repeat("\x00", size),
			"stop" + strings.Repeat(" ", size-4), strings.Repeat(" ", size-4) + "stop", strings.Repeat("stop ", size)[:size],
			"set a " + strings.Repeat("0", size-6), "set a " + strings.Repeat("0", size-7) + "1", "set a 1" + strings.Repeat(" ", size-7), "go " + strings.Repeat("a", size-3), "set" + strings.Repeat(" ", size-7) + " a 1",
		} {
			if len(s) != size {
				t.Fatalf("a line of %d bytes, not %d", len(s), size)
			}
			holdNoLine(t, s)
		}
	}
}

// spoilt are a line's neighbours: a byte less, more, or another one, and the line with a blank at either end.
func spoilt(line string) []string {
	out := []string{line + " ", " " + line, line + "\n", line + "\t", line + " 0", line + " a", line + line, strings.ToUpper(line), strings.ReplaceAll(line, " ", "  "), strings.ReplaceAll(line, " ", "\t"), strings.ReplaceAll(line, " ", "")}
	for at := range len(line) {
		out = append(out, line[:at], line[at:], line[:at]+line[at+1:])
		for _, x := range []string{"0", "1", "6", "a", "d", "e", " ", "-", "\xff"} {
			out = append(out, line[:at]+x+line[at:], line[:at]+x+line[at+1:])
		}
	}
	return out
}

// Every neighbour of a line is read just if it is a line itself.
func TestP14WhatIsReadHasTheLineAsItsText(t *testing.T) {
	lines := linesOfAll()
	for number, i := range allInstructions() {
		// Of those with a great number every few will do: their lines differ by digits alone.
		if i.K > 20 && number%7 != 0 {
			continue
		}
		for _, s := range spoilt(wantedText(i)) {
			want, is := lines[s]
			got, ok := impl.InsRead(s)
			if ok != is || got != want {
				t.Fatalf("InsRead(%q) is %+v, %v, not %+v, %v", s, got, ok, want, is)
			}
			if ok && impl.InsText(got) != s {
				t.Fatalf("InsRead(%q) is %+v, whose text is %q", s, got, impl.InsText(got))
			}
		}
	}
}

// Every name with every few fields behind it.
func TestP14EveryNameWithAnyFields(t *testing.T) {
	lines := linesOfAll()
	names := []string{"", "stop", "return", "let", "keep", "set", "move", "add", "sub", "mul", "and", "xor", "shift", "load", "store", "same", "less", "go", "out", "in", "word", "Set", "a", "0"}
	fields := []string{"", "a", "b", "d", "e", "A", "ab", "0", "1", "3", "4", "15", "16", "00", "255", "256", "-1", "+1"}
	behind := []string{""}
	for from, many := 0, 1; many <= 3; many++ {
		upTo := len(behind)
		for _, s := range behind[from:upTo] {
			for _, f := range fields {
				behind = append(behind, s+" "+f)
			}
		}
		from = upTo
	}
	for _, name := range names {
		for _, s := range behind {
			want, is := lines[name+s]
			if got, ok := impl.InsRead(name + s); ok != is || got != want {
				t.Fatalf("InsRead(%q) is %+v, %v, not %+v, %v", name+s, got, ok, want, is)
			}
		}
	}
}

func TestP14OfNoInstructionTheTextIsEmpty(t *testing.T) {
	for _, i := range []impl.InsIns{{Op: -1}, {Op: 16}, {K: 4}, {D: 1}, {A: 1}, {Op: impl.InsSet, A: 1}, {Op: impl.InsSet, K: 256}, {Op: impl.InsMove, K: 1}, {Op: impl.InsAdd, K: 4}, {Op: impl.InsShift, K: 16}, {Op: impl.InsGo, D: 1}, {Op: impl.InsGo, K: 1}, {Op: impl.InsOut, A: 1}, {Op: impl.InsIn, K: 1}} {
		holdNotOk(t, i)
	}
	holdNoLine(t, "")
}
