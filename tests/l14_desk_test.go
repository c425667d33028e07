package tests

import (
	"math"
	"slices"
	"strings"
	"sync"
	"testing"

	"loop.example/latimer/impl"
)

// The signatures that the document gives; another one would not compile here.
var (
	_ func([]string) ([]int, int)                = impl.DskLoad
	_ func([]int) []string                       = impl.DskPrint
	_ func(impl.EngEng) []string                 = impl.DskBoard
	_ func([]string, []int, []int, int) []string = impl.DskRun
)

// linesByWord are the lines of all words, in order, as the document's table tells them.
var linesByWord = sync.OnceValue(func() []string {
	out := make([]string, 65536)
	for w := range out {
		out[w] = "word " + decimals(w)
	}
	for _, i := range allInstructions() {
		out[i.Op*4096+i.D*1024+i.A*256+i.K] = wantedText(i)
	}
	return out
})

// wordsByLine tells for each line of a word which one it is.
var wordsByLine = sync.OnceValue(func() map[string]int {
	out := map[string]int{}
	for w, line := range linesByWord() {
		out[line] = w
	}
	return out
})

// isWord says whether a number is a word.
func isWord(n int) bool { return 0 <= n && n < 65536 }

// wantedLoad is what the document asks of DskLoad.
func wantedLoad(lines []string) ([]int, int) {
	if len(lines) > 64 {
		return nil, 65
	}
	var out []int
	for at, line := range lines {
		w, is := wordsByLine()[line]
		if !is {
			return nil, at + 1
		}
		out = append(out, w)
	}
	return out, 0
}

// wantedLines is what the document asks of DskPrint.
func wantedLines(words []int) []string {
	if len(words) > 64 {
		return nil
	}
	var out []string
	for _, w := range words {
		if !isWord(w) {
			return nil
		}
		out = append(out, linesByWord()[w])
	}
	return out
}

// wantedBoard is what the document asks of DskBoard.
func wantedBoard(e impl.EngEng) []string {
	if !wantedEngine(e) {
		return nil
	}
	m := e.Mach
	registers := "a " + decimals(m.Regs[0]) + " b " + decimals(m.Regs[1]) + " c " + decimals(m.Regs[2]) + " d " + decimals(m.Regs[3])
	stands := map[int]string{0: "goes", 1: "stopped", 2: "no word", 3: "no address", 4: "no place"}[m.Halt]
	out := []string{registers, "place " + decimals(m.Pc) + " done " + decimals(m.Count) + " " + stands}
	for at, w := range m.Outs {
		if at < 100 {
			out = append(out, "out "+decimals(w))
		}
	}
	for _, kept := range e.Cache {
		out = append(out, "code "+decimals(kept.Block.Pc)+" size "+decimals(kept.Block.Len)+" operations "+decimals(len(kept.Block.Ops)))
	}
	return out
}

// wantedDesk is what the document asks of DskRun.
func wantedDesk(lines []string, ins []int, irqs []int, n int) []string {
	words, wrong := wantedLoad(lines)
	if wrong > 0 {
		return []string{"line " + decimals(wrong)}
	}
	for _, w := range ins {
		if !isWord(w) {
			return []string{"words"}
		}
	}
	if n > 400 {
		return []string{"long"}
	}
	mem := make([]int, 64)
	copy(mem, words)
	e, _, _ := wantedTurns(impl.EngEng{Mach: impl.MchMach{Regs: make([]int, 4), Mem: mem, Ins: ins}}, irqs, n, nil)
	return wantedBoard(e)
}

// holdLoad fails unless DskLoad is as it is told by hand, and as the document asks.
func holdLoad(t *testing.T, what string, lines []string, want []int, wrong int) {
	t.Helper()
	if second, is := wantedLoad(lines); is != wrong || !slices.Equal(second, want) {
		t.Fatalf("%s: by hand %v %d, by the second telling %v %d, of %q", what, want, wrong, second, is, lines)
	}
	if got, is := impl.DskLoad(lines); is != wrong || !slices.Equal(got, want) {
		t.Fatalf("%s: %v %d, not %v %d, of %q", what, got, is, want, wrong, lines)
	}
	if wrong == 0 {
		holdLines(t, what+": and back", impl.DskPrint(want), lines)
	}
}

// holdWrong fails unless a line is told as the wrong one.
func holdWrong(t *testing.T, what string, lines []string, wrong int) {
	t.Helper()
	holdLoad(t, what, lines, nil, wrong)
}

// holdLines fails unless lines are the wanted ones.
func holdLines(t *testing.T, what string, got, want []string) {
	t.Helper()
	if !slices.Equal(got, want) {
		t.Fatalf("%s:\n got %q\nwant %q", what, got, want)
	}
}

// holdPrint fails unless DskPrint is as it is told by hand, and as the document asks; and DskLoad of it is the words.
func holdPrint(t *testing.T, what string, words []int, want []string) {
	t.Helper()
	holdLines(t, what+": by the second telling", wantedLines(words), want)
	holdLines(t, what, impl.DskPrint(words), want)
	if len(want) > 0 {
		holdLoad(t, what+": and back", want, words, 0)
	}
}

// holdBoard fails unless DskBoard is as it is told by hand, and as the document asks, and of as many lines as it says.
func holdBoard(t *testing.T, what string, e impl.EngEng, want ...string) {
	t.Helper()
	holdLines(t, what+": by the second telling", wantedBoard(e), want)
	got := impl.DskBoard(e)
	holdLines(t, what, got, want)
	if len(got) != 2+min(len(e.Mach.Outs), 100)+len(e.Cache) {
		t.Fatalf("%s: %d lines of %d words that went out and %d pieces of code", what, len(got), len(e.Mach.Outs), len(e.Cache))
	}
}

// holdDesk fails unless DskRun is as the document asks, and DskBoard of EngRun by our own hand.
func holdDesk(t *testing.T, what string, lines []string, ins []int, irqs []int, n int) []string {
	t.Helper()
	got := impl.DskRun(lines, ins, irqs, n)
	holdLines(t, what, got, wantedDesk(lines, ins, irqs, n))
	words, wrong := impl.DskLoad(lines)
	if e := impl.EngNew(impl.MchNew(words, ins)); wrong == 0 && impl.EngOk(e) && n <= impl.MchMany {
		holdLines(t, what+": nobody is asked", got, impl.DskBoard(impl.EngRun(e, irqs, n, nil)))
		holdLines(t, what+": our own hand", got, impl.DskBoard(impl.EngRun(e, irqs, n, slices.Repeat(asksOf(ownHand), 400))))
	}
	return got
}

// holdDeskIs fails unless DskRun is as it is told by hand, too.
func holdDeskIs(t *testing.T, what string, lines []string, ins []int, irqs []int, n int, want ...string) {
	t.Helper()
	holdLines(t, what, holdDesk(t, what, lines, ins, irqs, n), want)
}

// formLines are lines of each form of instruction, with the words that they say, by hand.
func formLines() ([]string, []int) {
	return []string{
		"stop", "return", "let", "keep",
		"set a 0", "set b 7", "set d 255",
		"move a a", "move c d", "move d c",
		"add a b c", "sub b c d", "mul c d a", "and d a b", "xor d d d",
		"shift a b 0", "shift d d 15",
		"load a b 9", "load d d 255", "store b a 0", "store d c 255",
		"same a b 10", "less c d 0", "less d d 255",
		"go a", "go d", "out a", "out d", "in b", "in d",
	}, []int{
		0, 1, 2, 3,
		4096, 5127, 7423,
		8192, 10*1024 + 3*256, 11*1024 + 2*256,
		12546, 4*4096 + 1024 + 512 + 3, 5*4096 + 2*1024 + 3*256, 6*4096 + 3*1024 + 1, 7*4096 + 3*1024 + 3*256 + 3,
		8*4096 + 256, 8*4096 + 3*1024 + 3*256 + 15,
		9*4096 + 256 + 9, 9*4096 + 3*1024 + 3*256 + 255, 10*4096 + 1024, 10*4096 + 3*1024 + 2*256 + 255,
		11*4096 + 256 + 10, 12*4096 + 2*1024 + 3*256, 13*4096 - 1,
		13 * 4096, 13*4096 + 768, 14 * 4096, 14*4096 + 3*1024, 15*4096 + 1024, 15*4096 + 3*1024,
	}
}

// plainWords are words that say no instruction, one or more of each Op that has such.
func plainWords() []int {
	return []int{4, 5, 255, 256, 1024, 1027, 4095, 4352, 5119, 8193, 8447, 12292, 12543, 16388, 20484, 24580, 28676, 32767, 32784, 32800, 33023, 53249, 54272, 57343, 57345, 57600, 61441, 61696, 65535}
}

// wrongLines are lines that say no word.
func wrongLines() []string {
	return []string{
		"", " ", "  ", "\n", "\x00", "\xff",
		"stop ", " stop", "stop\n", "stop\r", "\tstop", "Stop", "STOP", "stop 0", "stop a", "stopp", "sto", "stop stop",
		"return 1", "let let", "keep ",
		"set", "set ", "set a", "set a ", "set a  7", "set  a 7", " set a 7", "set a 7 ", "set a 07", "set a +7", "set a -1", "set a 256", "set a 65543", "set e 1", "set A 1", "set 0 1", "set a b", "set a 1 2", "set\ta 1", "set a\t1", "set,a,1",
		"move a", "move a 1", "move a b c", "add a b", "add a b 1", "add a b c d", "shift a b 16", "shift a b", "load a b", "load a b 256", "store a b c", "same a b", "less a 1 b", "go", "go 7", "go e", "out", "out 3", "in", "in a b",
		"nop", "halt", "words 4", "wordy 4", "wor 4", "or a b c",
		"word", "word ", "word  ", "word  4", " word 4", "word 4 ", "word 4  ", "word\t4", "word 4\n", "word\n4", "Word 4", "WORD 4", "word4", "word 4 4", "word word 4", "4", "04",
		"word 04", "word 004", "word 00", "word +4", "word -4", "word +0", "word -0", "word -1", "word 0x4", "word 4.0", "word 4e0", "word 4_0", "word a", "word four", "word ٤", "word \xff", "word 4\x00",
		"word 65536", "word 65540", "word 65537", "word 99999", "word 100000", "word 131076", "word 4294967300", "word 9223372036854775807", "word -9223372036854775808", "word 18446744073709551620", "word 340282366920938463463374607431768211460",
		"word 0", "word 1", "word 3", "word 4096", "word 5127", "word 7423", "word 8192", "word 12290", "word 33024", "word 37129", "word 45322", "word 53248", "word 57344", "word 58368", "word 61440", "word 64512",
		"word set a 7", "set a word 4", "line 4", "place 4", "long", "words",
		strings.Repeat("0", 100000), "word " + strings.Repeat("0", 100000), "word " + strings.Repeat("0", 100000) + "4", strings.Repeat("word ", 100000) + "4", "set a " + strings.Repeat(" ", 100000) + "7", strings.Repeat(" ", 100000),
	}
}

func TestDeskNumber(t *testing.T) {
	if impl.DskMaxLines != 100 {
		t.Fatalf("DskMaxLines is %d", impl.DskMaxLines)
	}
}

func TestP57EachForm(t *testing.T) {
	lines, words := formLines()
	holdLoad(t, "all of them", lines, words, 0)
	holdPrint(t, "all of them", words, lines)
	for at := range lines {
		holdLoad(t, "one", lines[at:at+1], words[at:at+1], 0)
		holdLoad(t, "one, and again", slices.Repeat(lines[at:at+1], 64), slices.Repeat(words[at:at+1], 64), 0)
		holdPrint(t, "one", words[at:at+1], lines[at:at+1])
	}
}

func TestP57WordsThatSayNoInstruction(t *testing.T) {
	for _, w := range plainWords() {
		if _, says := impl.InsTake(w); says {
			t.Fatalf("%d says one", w)
		}
		line := "word " + decimals(w)
		holdLoad(t, "one", []string{line}, []int{w}, 0)
		holdPrint(t, "one", []int{w}, []string{line})
		holdLoad(t, "between others", []string{"set a 7", line, "stop", line}, []int{4103, w, 0, w}, 0)
	}
}

// A word that says an instruction has that as its line, and no other one.
func TestP57WordsThatSayAnInstruction(t *testing.T) {
	for _, i := range allInstructions() {
		w := i.Op*4096 + i.D*1024 + i.A*256 + i.K
		if got, wrong := impl.DskLoad([]string{"word " + decimals(w)}); len(got) > 0 || wrong != 1 {
			t.Fatalf("%d says %+v, but its line as a word: %v, %d", w, i, got, wrong)
		}
	}
	lines, words := formLines()
	for at := range lines {
		holdWrong(t, "behind its own line", []string{lines[at], "word " + decimals(words[at])}, 2)
		holdWrong(t, "ahead of its own line", []string{"word " + decimals(words[at]), lines[at]}, 1)
	}
}

func TestP57EveryWord(t *testing.T) {
	all := linesByWord()
	for first := 0; first < 65536; first += 64 {
		var words []int
		for w := first; w < first+64; w++ {
			words = append(words, w)
		}
		holdPrint(t, "64 of them", words, all[first:first+64])
	}
	for w, line := range all {
		got, wrong := impl.DskLoad([]string{line})
		if wrong != 0 || len(got) != 1 || got[0] != w || !slices.Equal(impl.DskPrint(got), []string{line}) {
			t.Fatalf("%q: %v %d %q", line, got, wrong, impl.DskPrint(got))
		}
	}
}

func TestP57HowMany(t *testing.T) {
	for _, lines := range [][]string{nil, {}} {
		if words, wrong := impl.DskLoad(lines); len(words) != 0 || wrong != 0 {
			t.Fatalf("no lines: %v %d", words, wrong)
		}
	}
	for _, words := range [][]int{nil, {}} {
		holdPrint(t, "no words", words, nil)
	}
	mixed := mixedWords(200)
	for many := range 65 {
		lines := wantedLines(mixed[:many])
		holdLoad(t, "so many", lines, mixed[:many], 0)
		holdPrint(t, "so many", mixed[:many], lines)
	}
	for _, many := range []int{65, 66, 127, 128, 129, 130, 1000, 65536, 100001} {
		holdWrong(t, "too many", slices.Repeat([]string{"stop"}, many), 65)
		holdWrong(t, "too many, each wrong", make([]string, many), 65)
		holdPrint(t, "too many", make([]int, many), nil)
		holdPrint(t, "too many, each no word", slices.Repeat([]int{-1}, many), nil)
		holdDeskIs(t, "too many", slices.Repeat([]string{"stop"}, many), nil, nil, 9, "line 65")
	}
}

// Of too many the first that is too many is told, wherever another one is wrong.
func TestP57TooManyOfWhichSomeAreWrong(t *testing.T) {
	for _, many := range []int{65, 66, 200} {
		for _, wrong := range []int{0, 1, 30, 62, 63, 64, many - 1} {
			for _, line := range []string{"", "word 0", "word 65536", "set a 256"} {
				lines := put(slices.Repeat([]string{"word 4"}, many), wrong, line)
				holdWrong(t, "one is wrong", lines, 65)
				holdWrong(t, "two are wrong", put(lines, many/2, "nop"), 65)
				holdDeskIs(t, "one is wrong", lines, nil, nil, 9, "line 65")
			}
		}
	}
}

func TestP57WrongLines(t *testing.T) {
	good, _ := formLines()
	for _, line := range wrongLines() {
		holdWrong(t, "alone", []string{line}, 1)
		holdWrong(t, "the first", append([]string{line}, good...), 1)
		holdWrong(t, "in the midst", put(good, 14, line), 15)
		holdWrong(t, "the last", put(good, len(good)-1, line), len(good))
		holdWrong(t, "each", slices.Repeat([]string{line}, 64), 1)
		full := slices.Repeat([]string{"word 65535"}, 64)
		for _, place := range []int{0, 1, 31, 62, 63} {
			holdWrong(t, "one of 64", put(full, place, line), place+1)
		}
	}
}

func TestP57TheFirstThatIsWrong(t *testing.T) {
	full := slices.Repeat([]string{"out a", "word 4"}, 32)
	bad := wrongLines()
	for first := range 64 {
		holdWrong(t, "one", put(full, first, bad[first]), first+1)
		for second := first + 1; second < 64; second++ {
			lines := put(put(full, first, bad[first]), second, bad[second+20])
			holdWrong(t, "two", lines, first+1)
			if (first+second)%9 == 0 {
				holdDeskIs(t, "two", lines, nil, nil, 9, "line "+decimals(first+1))
			}
		}
	}
	for first := range 64 {
		holdWrong(t, "all behind one", append(slices.Clone(full[:first]), slices.Repeat([]string{"word 0"}, 64-first)...), first+1)
	}
}

// Every neighbour of a line is read just if it is a line itself.
func TestP57NeighboursOfLines(t *testing.T) {
	lines, _ := formLines()
	for _, w := range plainWords() {
		lines = append(lines, "word "+decimals(w))
	}
	read := 0
	for _, line := range lines {
		for _, s := range spoilt(line) {
			want, wrong := wantedLoad([]string{s})
			got, is := impl.DskLoad([]string{s})
			if is != wrong || !slices.Equal(got, want) {
				t.Fatalf("%q: %v %d, not %v %d", s, got, is, want, wrong)
			}
			if is == 0 {
				read++
				holdLines(t, "and back", impl.DskPrint(got), []string{s})
			}
		}
	}
	if read < 300 {
		t.Fatalf("only %d are read", read)
	}
}

func TestP57WhatIsNoWord(t *testing.T) {
	for _, n := range noWords {
		holdPrint(t, "alone", []int{n}, nil)
		holdPrint(t, "thrice", []int{n, n, n}, nil)
		for _, place := range []int{0, 1, 31, 63} {
			holdPrint(t, "among others", put(mixedWords(64), place, n), nil)
		}
		holdPrint(t, "too many, too", append(mixedWords(64), n), nil)
	}
}

func TestP57AnyLines(t *testing.T) {
	d := dice(575757571)
	wrongs, rights := 0, 0
	bad := wrongLines()
	for range 20000 {
		words := d.anyList(d.of(0, 1, 2, 9, 40, 63, 64, 64, 65, 70), d.anyCode)
		if d.below(2) == 0 {
			words = d.anyList(len(words), d.anyWord)
		}
		holdPrint(t, "any", words, wantedLines(words))
		lines := impl.DskPrint(words)
		for len(lines) > 0 && d.below(2) == 0 {
			at := d.below(len(lines))
			switch d.below(3) {
			case 0:
				lines[at] = bad[d.below(len(bad))]
			case 1:
				near := spoilt(lines[at][:min(len(lines[at]), 30)])
				lines[at] = near[d.below(len(near))]
			case 2:
				lines = append(lines, lines[at])
			}
		}
		want, wrong := wantedLoad(lines)
		holdLoad(t, "any", lines, want, wrong)
		if wrong > 0 {
			wrongs++
		} else {
			rights++
		}
	}
	if wrongs < 3000 || rights < 3000 {
		t.Fatalf("%d wrong, %d right", wrongs, rights)
	}
}

func TestP57NothingIsWrittenIntoOrShared(t *testing.T) {
	for _, many := range []int{0, 1, 5, 63, 64, 65} {
		words := lentList(mixedWords(many), 7001, 7002, 7003)
		lines := lentList(linesOfWords(words), "set d 9", "word 9", "nop")
		wordsBefore, linesBefore := slices.Clone(words[:cap(words)]), slices.Clone(lines[:cap(lines)])
		wantWords, wantWrong := wantedLoad(lines)
		wantLines := wantedLines(words)
		given := append(spanOf(words), spanOf(lines)...)
		loaded, wrong := impl.DskLoad(lines)
		again, _ := impl.DskLoad(lines)
		printed, second := impl.DskPrint(words), impl.DskPrint(words)
		holdSpans(t, "the words", spanOf(loaded), slices.Concat(given, spanOf(again)))
		holdSpans(t, "the lines", spanOf(printed), slices.Concat(given, spanOf(second)))
		spoil(loaded, -77)
		spoil(printed, "spoilt")
		if !slices.Equal(words[:cap(words)], wordsBefore) || !slices.Equal(lines[:cap(lines)], linesBefore) {
			t.Fatalf("what was given is now %v and %q", words[:cap(words)], lines[:cap(lines)])
		}
		spoil(words, -77)
		spoil(lines, "spoilt")
		if wrong != wantWrong || !slices.Equal(again, wantWords) {
			t.Fatalf("an answer is now %v %d, not %v", again, wrong, wantWords)
		}
		holdLines(t, "an answer behind what was given is written into", second, wantLines)
	}
}

// linesOfWords are the lines of words, however many.
func linesOfWords(words []int) []string {
	var out []string
	for _, w := range words {
		out = append(out, linesByWord()[w])
	}
	return out
}

// boardMachine is a machine that keeps noughts, with as many digits in each number as may be.
func boardMachine() impl.MchMach {
	m := impl.MchNew(nil, nil)
	m.Regs, m.Pc, m.Count = []int{0, 7, 10, 65535}, 63, 999999
	return m
}

func TestP58HowItStands(t *testing.T) {
	for halt, stands := range []string{"goes", "stopped", "no word", "no address", "no place"} {
		m := turned(boardMachine(), func(m *impl.MchMach) { m.Halt = halt })
		holdBoard(t, stands, engineOf(m, nil, nil), "a 0 b 7 c 10 d 65535", "place 63 done 999999 "+stands)
		m.Count, m.Pc, m.Regs = impl.MchMost, 65535, []int{65535, 100, 0, 12345}
		holdBoard(t, stands+", at its end", engineOf(m, nil, nil), "a 65535 b 100 c 0 d 12345", "place 65535 done 1000000 "+stands)
	}
	holdBoard(t, "at its beginning", impl.EngNew(impl.MchNew(nil, nil)), "a 0 b 0 c 0 d 0", "place 0 done 0 goes")
	// Of what else it has nothing is told.
	m := turned(boardMachine(), func(m *impl.MchMach) { m.Save, m.Let, m.Waits, m.Ins = 9, true, true, []int{1, 2} })
	holdBoard(t, "what is not told", engineOf(m, nil, rightPairs()[:3]), "a 0 b 7 c 10 d 65535", "place 63 done 999999 goes")
}

func TestP58WhatWentOut(t *testing.T) {
	head := []string{"a 0 b 7 c 10 d 65535", "place 63 done 999999 goes"}
	holdBoard(t, "none", engineOf(boardMachine(), nil, nil), head...)
	three := turned(boardMachine(), func(m *impl.MchMach) { m.Outs = []int{65535, 0, 0} })
	holdBoard(t, "three", engineOf(three, nil, nil), append(slices.Clone(head), "out 65535", "out 0", "out 0")...)
	for _, many := range []int{1, 2, 98, 99, 100, 101, 102, 199, 200, 201, 5000, 200000} {
		outs := mixedWords(many)
		want := slices.Clone(head)
		for _, w := range outs[:min(many, 100)] {
			want = append(want, "out "+decimals(w))
		}
		m := turned(boardMachine(), func(m *impl.MchMach) { m.Outs = outs })
		holdBoard(t, "so many", engineOf(m, nil, nil), want...)
	}
}

func TestP58WhatIsKept(t *testing.T) {
	full := fullEngine()
	full.Mach.Outs, full.Mach.Regs = []int{5, 6}, []int{1, 2, 3, 4}
	head := []string{"a 1 b 2 c 3 d 4", "place 20 done 100 goes", "out 5", "out 6"}
	// How many operations each instruction has is told by chapter 7.
	codes := []string{"code 20 size 3 operations " + decimals(4+5+5), "code 0 size 1 operations 2", "code 56 size 8 operations " + decimals(2*4+2+2+4+2), "code 40 size 2 operations 3"}
	for many := range 5 {
		e := engineOf(full.Mach, full.Cache[:many], full.Certs)
		for at, kept := range e.Cache {
			if want := " operations " + decimals(len(kept.Block.Ops)); !strings.HasSuffix(codes[at], want) {
				t.Fatalf("%q, but%s", codes[at], want)
			}
		}
		holdBoard(t, "so many", e, append(slices.Clone(head), codes[:many]...)...)
	}
	backwards := engineOf(full.Mach, listed(full.Cache[3], full.Cache[1], full.Cache[0]), nil)
	holdBoard(t, "in their own order", backwards, append(slices.Clone(head), codes[3], codes[1], codes[0])...)
	made := listed(withCode(full.Cache[1], turnedCode(full.Cache[1].Block, func(b *impl.IrBlock) { b.Ops = append(b.Ops, slices.Repeat(opsOf(constant(9)), 46)...) })))
	holdBoard(t, "what somebody made", engineOf(full.Mach, made, nil), append(slices.Clone(head), "code 0 size 1 operations 48")...)
	none := listed(withCode(keptFor(20, "move b b"), impl.IrBlock{Pc: 20, Len: 1, End: impl.EndGo, K: 21}))
	m := turned(full.Mach, func(m *impl.MchMach) { m.Mem[20] = none[0].Words[0] })
	holdBoard(t, "no operations", engineOf(m, none, nil), append(slices.Clone(head), "code 20 size 1 operations 0")...)
	many := turned(full.Mach, func(m *impl.MchMach) { m.Outs = slices.Repeat([]int{9}, 101) })
	want := slices.Concat(head[:2], slices.Repeat([]string{"out 9"}, 100), codes)
	holdBoard(t, "as much as may be told", withMach(full, many), want...)
	if len(want) != 106 {
		t.Fatalf("%d lines", len(want))
	}
}

// holdNoBoard fails unless an engine has no board.
func holdNoBoard(t *testing.T, what string, e impl.EngEng) {
	t.Helper()
	if got := impl.DskBoard(e); wantedEngine(e) || len(got) > 0 {
		t.Fatalf("%s: is not ok, but %q", what, got)
	}
}

func TestP58WhatIsNotOk(t *testing.T) {
	full := fullEngine()
	holdNoBoard(t, "nothing", impl.EngEng{})
	for what, m := range badMachines() {
		holdNoBoard(t, what, engineOf(m, nil, nil))
		holdNoBoard(t, what+", with what is kept", withMach(full, m))
	}
	for what, list := range map[string][]impl.CacEntry{
		"one more than may be":     append(fourKept(), keptFor(10, "out a")),
		"two at one place":         listed(fourKept()[0], fourKept()[0]),
		"words that are not there": listed(keptFor(20, "add a b b", "load c a 3", "store c b 8")),
		"other code":               listed(withCode(fourKept()[0], impl.BlkLower(20, insOf("add a b c", "load c a 3", "store c b 7")))),
		"code that is not ok":      listed(withCode(fourKept()[0], impl.IrBlock{})),
		"no words":                 listed(withCode(impl.CacEntry{}, fourKept()[0].Block)),
		"the last one alone":       append(fourKept()[:3], keptFor(40, "in d", "go c")),
	} {
		m := turned(full.Mach, func(m *impl.MchMach) { m.Mem[10] = 57344 })
		holdNoBoard(t, what, engineOf(m, list, nil))
		holdNoBoard(t, what+", with pairs", engineOf(m, list, full.Certs))
	}
	holdNoBoard(t, "one pair more than may be", engineOf(full.Mach, full.Cache, rightPairs()))
	for what, p := range wrongPairs() {
		holdNoBoard(t, what, engineOf(full.Mach, nil, pairs(p)))
		holdNoBoard(t, what+", behind others", engineOf(full.Mach, full.Cache, append(rightPairs()[:2:2], p)))
	}
	for place := range 3 {
		written := turned(full.Mach, func(m *impl.MchMach) { m.Mem[20+place] ^= 256 })
		holdNoBoard(t, "a word written over", withMach(full, written))
	}
}

func TestP58AnyEngine(t *testing.T) {
	d := dice(585858583)
	bad, kept, halts := 0, 0, map[int]int{}
	for round := range 3000 {
		e := d.anyEngine()
		if round%4 == 0 {
			e = impl.EngRun(e, d.anyIrqs(e), d.below(60), nil)
		}
		if round%6 == 0 {
			e.Mach = turned(e.Mach, func(m *impl.MchMach) { m.Mem[d.below(64)] = d.anyCode() })
		}
		if round%25 == 0 {
			e.Mach = turned(e.Mach, func(m *impl.MchMach) { m.Regs[d.below(4)] = d.of(noWords...) })
		}
		if round%3 == 0 {
			e.Mach.Outs = d.anyList(d.of(0, 1, 99, 100, 101, 150), d.anyWord)
		}
		if !wantedEngine(e) {
			bad++
			holdNoBoard(t, "any", e)
			continue
		}
		kept += len(e.Cache)
		halts[e.Mach.Halt]++
		holdBoard(t, "any", e, wantedBoard(e)...)
	}
	if bad < 100 || kept < 1000 || len(halts) != 5 {
		t.Fatalf("%d not ok, %d kept, %v", bad, kept, halts)
	}
}

func TestP58NothingIsWrittenIntoOrShared(t *testing.T) {
	d := dice(585800011)
	for range 600 {
		plain := d.anyEngine()
		want := wantedBoard(plain)
		e := lentEngine(plain)
		before := wholeEngine(e)
		first, second := impl.DskBoard(e), impl.DskBoard(e)
		holdSpans(t, "a board", spanOf(first), spanOf(second))
		spoil(first, "spoilt")
		if !sameEngine(wholeEngine(e), before) {
			t.Fatalf("what was given was\n%+v\nand is now\n%+v", before, e)
		}
		spoilEngine(e)
		holdLines(t, "a board behind what was given is written into", second, want)
	}
}

// exampleLines are those of the document's example.
func exampleLines() []string {
	return []string{"set a 3", "set b 1", "out a", "sub a a b", "load d c 8", "store d b 1", "less c a 2", "stop", "out b"}
}

func TestP59TheExamples(t *testing.T) {
	holdDeskIs(t, "40 to do", exampleLines(), nil, nil, 40, "a 0 b 1 c 0 d 58368", "place 8 done 18 stopped", "out 3", "out 1", "out 1", "code 2 size 5 operations 13")
	holdDeskIs(t, "12 to do", exampleLines(), nil, nil, 12, "a 1 b 1 c 0 d 58368", "place 2 done 12 goes", "out 3", "out 1", "code 2 size 5 operations 13")
	for _, n := range []int{18, 19, 399, 400} {
		holdDeskIs(t, "as many as there are", exampleLines(), []int{}, []int{}, n, "a 0 b 1 c 0 d 58368", "place 8 done 18 stopped", "out 3", "out 1", "out 1", "code 2 size 5 operations 13")
	}
}

func TestP59ByHand(t *testing.T) {
	holdDeskIs(t, "a word that says no instruction", []string{"set a 7", "out a", "word 4"}, nil, nil, 9, "a 7 b 0 c 0 d 0", "place 2 done 2 no word", "out 7", "code 0 size 2 operations 3")
	holdDeskIs(t, "no lines", nil, nil, nil, 9, "a 0 b 0 c 0 d 0", "place 1 done 1 stopped")
	holdDeskIs(t, "words that come in", []string{"in a", "in b", "in c", "stop"}, []int{65535, 8}, nil, 9, "a 65535 b 8 c 0 d 0", "place 4 done 4 stopped", "code 0 size 3 operations 6")
	holdDeskIs(t, "no address", []string{"set a 60", "load b a 4"}, nil, nil, 9, "a 60 b 0 c 0 d 0", "place 1 done 1 no address", "code 0 size 2 operations 5")
	holdDeskIs(t, "no place", []string{"set a 64", "go a"}, nil, nil, 9, "a 64 b 0 c 0 d 0", "place 64 done 2 no place", "code 0 size 2 operations 2")
	holdDeskIs(t, "stopped at once", []string{"stop", "set a 1"}, nil, nil, 400, "a 0 b 0 c 0 d 0", "place 1 done 1 stopped")
	full := append(slices.Repeat([]string{"out a"}, 63), "same a a 0")
	holdLines(t, "as many lines as may be, and more words than are told", holdDesk(t, "full", full, nil, nil, 128)[:4], []string{"a 0 b 0 c 0 d 0", "place 0 done 128 goes", "out 0", "out 0"})
	if got := impl.DskRun(full, nil, nil, 128); len(got) != 2+100+4 || got[101] != "out 0" || !strings.HasPrefix(got[102], "code ") {
		t.Fatalf("%q", got)
	}
}

func TestP59HowMany(t *testing.T) {
	goes := []string{"set b 1", "add a a b", "same c c 1"}
	for _, n := range []int{math.MinInt, -400, -1, 0} {
		holdDeskIs(t, "none to do", goes, nil, nil, n, "a 0 b 0 c 0 d 0", "place 0 done 0 goes")
		holdDeskIs(t, "none to do", goes, nil, []int{0}, n, "a 0 b 0 c 0 d 0", "place 0 done 0 goes")
	}
	holdDeskIs(t, "one", goes, nil, nil, 1, "a 0 b 1 c 0 d 0", "place 1 done 1 goes", "code 0 size 3 operations 6")
	holdDeskIs(t, "the most", goes, nil, nil, 400, "a 200 b 1 c 0 d 0", "place 2 done 400 goes", "code 0 size 3 operations 6", "code 1 size 2 operations 5")
	for _, n := range []int{401, 402, 1000, 1000000, 1000001, math.MaxInt - 1, math.MaxInt} {
		holdDeskIs(t, "too many", goes, nil, nil, n, "long")
		holdDeskIs(t, "too many, of nothing", nil, nil, nil, n, "long")
	}
}

func TestP59WhatIsWrong(t *testing.T) {
	good := []string{"in a", "out a", "stop"}
	holdDeskIs(t, "nothing is", good, []int{7}, nil, 400, "a 7 b 0 c 0 d 0", "place 3 done 3 stopped", "out 7", "code 0 size 2 operations 3")
	for _, c := range []struct {
		lines []string
		told  string
	}{
		{[]string{"in a", "out e"}, "line 2"},
		{[]string{"word 0", "nop"}, "line 1"},
		{[]string{"in a", "out a", ""}, "line 3"},
		{append(slices.Repeat([]string{"stop"}, 63), "word 0"), "line 64"},
		{slices.Repeat([]string{"stop"}, 65), "line 65"},
		{slices.Repeat([]string{"nop"}, 1000), "line 65"},
	} {
		for _, n := range []int{-1, 0, 9, 400, 401, math.MaxInt} {
			holdDeskIs(t, "a line", c.lines, []int{7}, nil, n, c.told)
			holdDeskIs(t, "a line, and a word", c.lines, []int{7, 65536}, []int{1}, n, c.told)
		}
	}
	for _, w := range noWords {
		for _, ins := range [][]int{{w}, {w, 1, 2}, {1, w, 2}, {1, 2, w}, append(mixedWords(3000), w)} {
			for _, n := range []int{math.MinInt, 0, 400, 401, math.MaxInt} {
				holdDeskIs(t, "a word", good, ins, nil, n, "words")
			}
			holdDeskIs(t, "a word, of no lines", nil, ins, []int{0}, 9, "words")
			holdDeskIs(t, "a word that nobody would let in", []string{"stop"}, ins, nil, 9, "words")
			holdDeskIs(t, "a line, and a word", []string{"in a", "out a "}, ins, nil, 9, "line 2")
		}
	}
}

// An interrupt is let in, goes on at MchVector, and comes back; in whatever order, and however often, it is told.
func TestP59Interrupts(t *testing.T) {
	lines := slices.Repeat([]string{"stop"}, impl.MchVector)
	copy(lines, []string{"let", "set b 1", "add a a b", "same c c 2"})
	lines = append(lines, "out a", "return")
	holdDeskIs(t, "none", lines, nil, nil, 20, "a 9 b 1 c 0 d 0", "place 2 done 20 goes", "code 1 size 3 operations 6", "code 2 size 2 operations 5")
	for _, irqs := range [][]int{{6, 11}, {11, 6}, {11, 6, 6, 11}, {400, 11, -1, 6, 1000000, math.MinInt, math.MaxInt}} {
		got := holdDesk(t, "two", lines, nil, irqs, 20)
		holdLines(t, "two", got[:4], []string{"a 7 b 1 c 0 d 0", "place 2 done 20 goes", "out 2", "out 4"})
	}
	for _, irqs := range [][]int{{20}, {21}, {-1}, {math.MinInt, math.MaxInt}} {
		holdDeskIs(t, "none that comes", lines, nil, irqs, 20, "a 9 b 1 c 0 d 0", "place 2 done 20 goes", "code 1 size 3 operations 6", "code 2 size 2 operations 5")
	}
	for first := range 20 {
		for second := range 20 {
			holdDesk(t, "each two", lines, nil, []int{first, second}, 20)
		}
	}
}

func TestP59AnyRun(t *testing.T) {
	d := dice(595959591)
	seen := map[string]int{}
	bad := wrongLines()
	for range 2500 {
		m := d.busyMachine()
		if d.below(3) == 0 {
			m = d.anyMachine()
		}
		m.Count = 0
		lines := linesOfWords(m.Mem[:d.of(3, 20, 60, 64, 64)])
		ins := d.anyList(d.below(5), d.anyWord)
		irqs := d.anyList(d.of(0, 0, 1, 3, 9), func() int { return d.of(d.below(20), d.below(400)) })
		n := d.of(0, 1, 5, 17, 60, 150, 400, 400, 401, -1)
		if d.below(12) == 0 {
			lines = put(lines, d.below(len(lines)), bad[d.below(len(bad))])
		}
		if d.below(12) == 0 && len(ins) > 0 {
			ins[d.below(len(ins))] = d.of(noWords...)
		}
		got := holdDesk(t, "any", lines, ins, irqs, n)
		seen[strings.SplitN(got[0], " ", 2)[0]]++
		for _, line := range got[1:] {
			fields := strings.SplitN(line, " ", 5)
			seen[fields[0]]++
			if fields[0] == "place" {
				seen[fields[4]]++
			}
		}
	}
	for _, what := range []string{"line", "words", "long", "a", "place", "out", "code", "goes", "stopped", "no word", "no address", "no place"} {
		if seen[what] < 40 {
			t.Errorf("only %d of %q", seen[what], what)
		}
	}
}

func TestP59NothingIsWrittenIntoOrShared(t *testing.T) {
	d := dice(595900037)
	for range 300 {
		lines := lentList(linesOfWords(d.busyMachine().Mem), "nop", "word 0")
		ins, irqs := lentList(d.anyList(5, d.anyWord), -5, -6), lentList(d.anyList(5, func() int { return d.below(50) }), 7, 8)
		linesBefore, insBefore, irqsBefore := slices.Clone(lines[:cap(lines)]), slices.Clone(ins[:cap(ins)]), slices.Clone(irqs[:cap(irqs)])
		n := d.of(0, 9, 50, 401)
		want := wantedDesk(lines, ins, irqs, n)
		first, second := impl.DskRun(lines, ins, irqs, n), impl.DskRun(lines, ins, irqs, n)
		holdSpans(t, "a board", spanOf(first), slices.Concat(spanOf(second), spanOf(lines)))
		spoil(first, "spoilt")
		if !slices.Equal(lines[:cap(lines)], linesBefore) || !slices.Equal(ins[:cap(ins)], insBefore) || !slices.Equal(irqs[:cap(irqs)], irqsBefore) {
			t.Fatalf("what was given is now %q, %v, %v", lines, ins, irqs)
		}
		spoil(lines, "spoilt")
		spoil(ins, -77)
		spoil(irqs, -77)
		holdLines(t, "a board behind what was given is written into", second, want)
	}
}

// What is answered hangs on what is given alone: many at once, and again and again.
func TestP59ManyAtOnce(t *testing.T) {
	d := dice(595900101)
	var done sync.WaitGroup
	for range 8 {
		lines := linesOfWords(d.busyMachine().Mem)
		want := wantedDesk(lines, nil, nil, 200)
		for range 4 {
			done.Go(func() {
				for range 10 {
					if got := impl.DskRun(lines, nil, nil, 200); !slices.Equal(got, want) {
						t.Errorf("%q\nnot %q", got, want)
					}
				}
			})
		}
	}
	done.Wait()
}
