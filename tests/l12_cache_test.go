package tests

import (
	"math"
	"runtime"
	"slices"
	"testing"

	"loop.example/latimer/impl"
)

// The signatures that the document gives; another one would not compile here.
var (
	_ func([]impl.CacEntry, []int) bool                     = impl.CacOk
	_ func([]impl.CacEntry, int) int                        = impl.CacFind
	_ func([]impl.CacEntry, impl.CacEntry) []impl.CacEntry  = impl.CacPut
	_ func([]impl.CacEntry, []int) []impl.CacEntry          = impl.CacDrop
	_ func([]impl.CerPair) bool                             = impl.CerOk
	_ func([]impl.CerPair, impl.IrBlock, impl.IrBlock) bool = impl.CerHas
	_ func([]impl.CerPair, impl.CerPair) []impl.CerPair     = impl.CerPut
	_                                                       = impl.CacEntry{Words: []int{0}, Block: impl.IrBlock{}}
	_                                                       = impl.CerPair{Base: impl.IrBlock{}, Made: impl.IrBlock{}}
	_ int                                                   = impl.CacMost + impl.CerMost
)

func TestHowManyAreKept(t *testing.T) {
	if impl.CacMost != 4 || impl.CerMost != 3 {
		t.Fatalf("%d pieces of code, and %d pairs", impl.CacMost, impl.CerMost)
	}
}

// wordsStand is what the document asks of words that are there from a place on, each by itself.
func wordsStand(e impl.CacEntry, mem []int) bool {
	if e.Block.Pc < 0 {
		return false
	}
	for at, w := range e.Words {
		if e.Block.Pc >= len(mem) || e.Block.Pc+at >= len(mem) || mem[e.Block.Pc+at] != w {
			return false
		}
	}
	return true
}

// wantedOne is what the document asks of one piece of code that is kept.
func wantedOne(e impl.CacEntry, mem []int) bool {
	var list []impl.InsIns
	for _, w := range e.Words {
		i, says := impl.InsTake(w)
		if !says {
			return false
		}
		list = append(list, i)
	}
	return wordsStand(e, mem) && wantedPiece(e.Block.Pc, list) && wantedStand(wantedLower(e.Block.Pc, list), e.Block)
}

// wantedKept is what the document asks of CacOk.
func wantedKept(list []impl.CacEntry, mem []int) bool {
	places := map[int]int{}
	for _, e := range list {
		places[e.Block.Pc]++
		if places[e.Block.Pc] > 1 || !wantedOne(e, mem) {
			return false
		}
	}
	return len(list) <= 4
}

// wantedPlace is what the document asks of CacFind.
func wantedPlace(list []impl.CacEntry, pc int) int {
	for at, e := range list {
		if e.Block.Pc == pc {
			return at
		}
	}
	return -1
}

// wantedMore is what the document asks of CacPut.
func wantedMore(list []impl.CacEntry, e impl.CacEntry) []impl.CacEntry {
	var out []impl.CacEntry
	for _, old := range list {
		if old.Block.Pc != e.Block.Pc {
			out = append(out, old)
		}
	}
	out = append(out, e)
	return out[max(0, len(out)-4):]
}

// wantedDrop is what the document asks of CacDrop.
func wantedDrop(list []impl.CacEntry, mem []int) []impl.CacEntry {
	var out []impl.CacEntry
	for _, e := range list {
		if wordsStand(e, mem) {
			out = append(out, e)
		}
	}
	return out
}

// wantedPairs is what the document asks of CerOk.
func wantedPairs(list []impl.CerPair) bool {
	for _, p := range list {
		if !wantedStand(p.Base, p.Made) {
			return false
		}
	}
	return len(list) <= 3
}

// wantedMorePairs is what the document asks of CerPut.
func wantedMorePairs(list []impl.CerPair, p impl.CerPair) []impl.CerPair {
	out := append(slices.Clone(list), p)
	return out[max(0, len(out)-3):]
}

func sameEntry(a, b impl.CacEntry) bool {
	return slices.Equal(a.Words, b.Words) && sameBlock(a.Block, b.Block)
}

func samePair(a, b impl.CerPair) bool {
	return sameBlock(a.Base, b.Base) && sameBlock(a.Made, b.Made)
}

func sameKept(a, b []impl.CacEntry) bool { return slices.EqualFunc(a, b, sameEntry) }

func samePairs(a, b []impl.CerPair) bool { return slices.EqualFunc(a, b, samePair) }

// keptFor is what is kept for a place: the words of lines, and the code of these.
func keptFor(pc int, lines ...string) impl.CacEntry {
	list := insOf(lines...)
	return impl.CacEntry{Words: impl.BlkWords(list), Block: impl.BlkLower(pc, list)}
}

// justAt is something, ok or not, that is kept for a place; its number tells it from others.
func justAt(pc int, number int) impl.CacEntry {
	return impl.CacEntry{Words: []int{number}, Block: impl.IrBlock{Pc: pc, K: number}}
}

// justAtAll are such things for places, numbered from 0 on.
func justAtAll(places ...int) []impl.CacEntry {
	var out []impl.CacEntry
	for number, pc := range places {
		out = append(out, justAt(pc, number))
	}
	return out
}

func listed(list ...impl.CacEntry) []impl.CacEntry { return list }

// besides is a machine's words: those of what is kept, at its place, and noughts.
func besides(list ...impl.CacEntry) []int {
	mem := make([]int, impl.MchSize)
	for _, e := range list {
		copy(mem[e.Block.Pc:], e.Words)
	}
	return mem
}

// withCode is what is kept with another piece of code.
func withCode(e impl.CacEntry, b impl.IrBlock) impl.CacEntry {
	return impl.CacEntry{Words: e.Words, Block: b}
}

// moved is what is kept, at another place, with the code of its words there.
func moved(e impl.CacEntry, pc int) impl.CacEntry {
	return withCode(e, impl.BlkLower(pc, impl.BlkTake(e.Words)))
}

// holdKept fails unless CacOk is as wanted, by hand and by the second telling; and unless CacDrop turns nothing of what is ok.
func holdKept(t *testing.T, what string, list []impl.CacEntry, mem []int, want bool) {
	t.Helper()
	if second := wantedKept(list, mem); second != want {
		t.Fatalf("%s: by hand %v, by the second telling %v", what, want, second)
	}
	if got := impl.CacOk(list, mem); got != want {
		t.Fatalf("%s: %v, not %v, of\n%+v\nbeside %v", what, got, want, list, mem)
	}
	if dropped := impl.CacDrop(list, mem); want && !sameKept(dropped, list) {
		t.Fatalf("%s: beside the same words\n%+v\nis dropped to\n%+v", what, list, dropped)
	}
}

// fourKept are as many as may be kept, at the first place, at the last ones, and between.
func fourKept() []impl.CacEntry {
	return listed(
		keptFor(20, "add a b b", "load c a 3", "store c b 7"),
		keptFor(0, "set a 1"),
		keptFor(56, "set a 1", "set b 2", "set c 3", "set d 4", "in a", "out b", "xor a a b", "less a b 3"),
		keptFor(40, "in d", "go d"),
	)
}

func TestP74KeptByHand(t *testing.T) {
	four := fourKept()
	mem := besides(four...)
	holdKept(t, "nothing", nil, mem, true)
	holdKept(t, "an empty list", listed(), mem, true)
	for many := range 5 {
		holdKept(t, "so many", four[:many], mem, true)
	}
	for at := range four {
		holdKept(t, "one alone", four[at:at+1], mem, true)
		holdKept(t, "all but one", slices.Delete(slices.Clone(four), at, at+1), mem, true)
	}
	slices.Reverse(four)
	holdKept(t, "in another order", four, mem, true)

	fifth := keptFor(10, "out a")
	mem = besides(append(four, fifth)...)
	holdKept(t, "one more alone", listed(fifth), mem, true)
	holdKept(t, "one in the place of another", put(four, 2, fifth), mem, true)
	for at := range 5 {
		holdKept(t, "one more than may be", slices.Insert(slices.Clone(four), at, fifth), mem, false)
	}
	holdKept(t, "many more", append(slices.Clone(four), keptFor(1, "out a"), keptFor(2, "out a"), keptFor(3, "out a"), keptFor(4, "out a")), besides(append(four, keptFor(1, "out a", "out a", "out a", "out a"))...), false)
	many := make([]impl.CacEntry, 100000)
	holdKept(t, "a great many", many, mem, false)
}

func TestP74TwoAtOnePlace(t *testing.T) {
	one, other := keptFor(5, "set a 7", "out a"), keptFor(9, "out b")
	short := keptFor(5, "set a 7")
	mem := besides(one, other)
	holdKept(t, "two places", listed(one, other), mem, true)
	holdKept(t, "the shorter", listed(short, other), mem, true)
	holdKept(t, "one twice", listed(one, one), mem, false)
	holdKept(t, "one twice, apart", listed(one, other, one), mem, false)
	holdKept(t, "one twice, behind", listed(other, one, one), mem, false)
	holdKept(t, "one and a shorter one", listed(one, short), mem, false)
	holdKept(t, "one and a shorter one, apart", listed(short, other, one), mem, false)
	holdKept(t, "one and what may stand for it", listed(one, withCode(one, impl.OptAll(one.Block))), mem, false)
	// Pieces may lie over each other, if they do not begin at one place.
	inner := keptFor(6, "out a")
	holdKept(t, "one within another", listed(one, inner), mem, true)
}

// wordTurns are other words for one, some of which say other instructions, and some none.
func wordTurns(w int) []int {
	return []int{w + 1, w - 1, w ^ 256, w ^ 4096, w + 65536, w - 65536, w + 1<<32, 0, 65535, -w - 1, math.MinInt, math.MaxInt}
}

func TestP74WordsThatDiffer(t *testing.T) {
	four := fourKept()
	mem := besides(four...)
	for number, e := range four {
		for at, w := range e.Words {
			for _, other := range wordTurns(w) {
				if other == w {
					continue
				}
				holdKept(t, "a word written over", four, put(mem, e.Block.Pc+at, other), false)
				holdKept(t, "a word written over, alone", listed(e), put(mem, e.Block.Pc+at, other), false)
				turned := impl.CacEntry{Words: put(e.Words, at, other), Block: e.Block}
				holdKept(t, "other words kept", put(four, number, turned), mem, false)
				if list := impl.BlkTake(turned.Words); impl.BlkOk(e.Block.Pc, list) && len(list) == len(e.Words) {
					right := moved(turned, e.Block.Pc)
					holdKept(t, "other words kept, and their code", put(four, number, right), mem, false)
					holdKept(t, "other words kept, and their code, beside them", listed(right), besides(right), true)
				}
			}
		}
		for place := range mem {
			if place < e.Block.Pc || place >= e.Block.Pc+len(e.Words) {
				holdKept(t, "another word turned", listed(e), put(mem, place, 4099), true)
			}
		}
		for _, off := range []int{-1, 1} {
			other := moved(e, e.Block.Pc+off)
			if impl.IrOk(other.Block) {
				holdKept(t, "its words stand at the next place", listed(other), mem, false)
			}
		}
	}
}

func TestP74Places(t *testing.T) {
	e := keptFor(5, "set a 7", "out a", "out a")
	same := slices.Repeat(wordsOf("out a"), 80)
	for _, many := range []int{0, 1, 3, 64, 80} {
		for _, pc := range []int{-1, -2, -3, -4, -64, -65536, math.MinInt, math.MinInt + 1} {
			lies := withCode(e, turnedCode(e.Block, func(b *impl.IrBlock) { b.Pc = pc }))
			holdKept(t, "a place below 0", listed(lies), besides(e)[:min(many, 64)], false)
			lies.Words = wordsOf("out a")
			holdKept(t, "a place below 0, words that are everywhere", listed(lies), same[:many], false)
		}
	}
	for pc := 62; pc < 70; pc++ {
		long := impl.CacEntry{Words: wordsOf("out a", "out a", "out a"), Block: turnedCode(impl.BlkLower(61, insOf("out a", "out a", "out a")), func(b *impl.IrBlock) { b.Pc, b.K = pc, pc+3 })}
		holdKept(t, "past the end of a machine's words", listed(long), same[:64], false)
		holdKept(t, "past the last place, where there are more words", listed(long), same, false)
	}
	for _, pc := range []int{64, 65, 80, 65536, 1 << 32, math.MaxInt - 3, math.MaxInt} {
		far := withCode(e, turnedCode(e.Block, func(b *impl.IrBlock) { b.Pc = pc }))
		holdKept(t, "a place that is none", listed(far), same, false)
	}
	holdKept(t, "the last place", listed(keptFor(61, "out a", "out a", "out a")), same[:64], true)
	holdKept(t, "the last place, beside more words", listed(keptFor(61, "out a", "out a", "out a")), same, true)
	holdKept(t, "the very last one", listed(keptFor(63, "out a")), same[:64], true)
}

func TestP74BesideFewWords(t *testing.T) {
	e, ahead := keptFor(5, "set a 7", "out a", "out b"), keptFor(0, "in a")
	mem := besides(ahead, e)
	for many := range 65 {
		holdKept(t, "so many words", listed(e), mem[:many], many >= 8)
		holdKept(t, "so many words, for both", listed(ahead, e), mem[:many], many >= 8)
		holdKept(t, "so many words, for the first", listed(ahead), mem[:many], many >= 1)
		holdKept(t, "so many words, and nothing kept", nil, mem[:many], true)
		// What lies behind the end of the words is none of them.
		holdKept(t, "so many words, and room behind", listed(e), mem[:many:64], many >= 8)
	}
	holdKept(t, "no words", listed(e), nil, false)
	holdKept(t, "no words, and nothing kept", nil, nil, true)
	strange := put(put(mem, 30, -1), 31, math.MaxInt)
	holdKept(t, "numbers that are no words, elsewhere", listed(e, ahead), strange, true)
}

func TestP74WordsThatAreNoCode(t *testing.T) {
	plain := keptFor(5, "set a 7", "out a", "in b")
	right := plain.Block
	for what, words := range map[string][]int{
		"none":                  {},
		"one that says none":    {4},
		"the first says none":   append([]int{4}, wordsOf("out a", "in b")...),
		"one between says none": {wordsOf("set a 7")[0], 14596, wordsOf("in b")[0]},
		"the last says none":    append(wordsOf("set a 7", "out a"), 4),
		"one more says none":    append(wordsOf("set a 7", "out a", "in b"), 4),
		"one is below 0":        put(plain.Words, 1, -1),
		"one is no word":        put(plain.Words, 1, plain.Words[1]+65536),
		"a stop alone":          wordsOf("stop"),
		"a stop first":          wordsOf("stop", "out a", "in b"),
		"a stop between":        wordsOf("set a 7", "stop", "in b"),
		"a stop last":           wordsOf("set a 7", "out a", "stop"),
		"a stop more":           wordsOf("set a 7", "out a", "in b", "stop"),
		"interrupts let in":     wordsOf("set a 7", "out a", "in b", "let"),
		"an end first":          wordsOf("go a", "out a", "in b"),
		"an end between":        wordsOf("set a 7", "same a b 3", "in b"),
		"more behind an end":    wordsOf("set a 7", "out a", "less a b 3", "in b"),
		"two ends":              wordsOf("set a 7", "go a", "go b"),
		"nine":                  slices.Repeat(wordsOf("out a"), 9),
		"a great many":          slices.Repeat(wordsOf("out a"), 50),
		"all and one more":      wordsOf("set a 7", "out a", "in b", "in c"),
		"all but one":           wordsOf("set a 7", "out a"),
	} {
		mem := make([]int, impl.MchSize)
		copy(mem[5:], words)
		holdKept(t, what, listed(impl.CacEntry{Words: words, Block: right}), mem, false)
		holdKept(t, what+", behind one that is ok", listed(keptFor(60, "out a"), impl.CacEntry{Words: words, Block: right}), append(mem[:60], wordsOf("out a")...), false)
		holdKept(t, what+", and no code", listed(impl.CacEntry{Words: words, Block: impl.IrBlock{Pc: 5}}), mem, false)
		begun := impl.BlkTake(words)
		for many := range begun {
			first := impl.BlkLower(5, begun[:many+1])
			holdKept(t, what+", code of the first", listed(impl.CacEntry{Words: words, Block: first}), mem, impl.IrOk(first) && many+1 == len(words))
		}
	}
	holdKept(t, "as they are", listed(plain), besides(plain), true)
	eight := keptFor(5, "out a", "out a", "out a", "out a", "out a", "out a", "out a", "out a")
	holdKept(t, "eight", listed(eight), besides(eight), true)
}

// oneKept is what is kept for the words of codeOf's place and length.
func oneKept(b impl.IrBlock, lines ...string) ([]impl.CacEntry, []int) {
	e := keptFor(5, lines...)
	return listed(withCode(e, b)), besides(e)
}

func TestP74CodeThatStandsForItsWords(t *testing.T) {
	for _, c := range []struct {
		what  string
		lines []string
		b     impl.IrBlock
		want  bool
	}{
		{"twice, shifted", []string{"add a b b"}, impl.BlkLower(5, insOf("shift a b 1")), true},
		{"twice, by hand", []string{"add a b b"}, impl.IrBlock{Pc: 5, Len: 1, End: impl.EndGo, K: 6, Ops: opsOf(gets(1), constant(2), reckons(impl.OpMul, 1, 0), sets(0, 2))}, true},
		{"thrice", []string{"add a b b"}, impl.IrBlock{Pc: 5, Len: 1, End: impl.EndGo, K: 6, Ops: opsOf(gets(1), constant(3), reckons(impl.OpMul, 1, 0), sets(0, 2))}, false},
		{"another register", []string{"add a b b"}, impl.BlkLower(5, insOf("add b b b")), false},
		{"another place", []string{"add a b b"}, impl.BlkLower(6, insOf("add a b b")), false},
		{"another place behind", []string{"add a b b"}, impl.IrBlock{Pc: 5, Len: 1, End: impl.EndGo, K: 7, Ops: opsOf(gets(1), gets(1), reckons(impl.OpAdd, 0, 1), sets(0, 2))}, false},
		{"another length", []string{"add a b b"}, impl.BlkLower(5, insOf("add a b b", "move a a")), false},
		{"nothing in the place of nothing", []string{"move a a"}, impl.IrBlock{Pc: 5, Len: 1, End: impl.EndGo, K: 6}, true},
		{"what is let out", []string{"out a", "out b"}, impl.BlkLower(5, insOf("out b", "out a")), false},
		{"a known place", []string{"set a 9", "go a"}, impl.IrBlock{Pc: 5, Len: 2, End: impl.EndGo, K: 9, Ops: opsOf(constant(9), sets(0, 0))}, true},
		{"another known place", []string{"set a 9", "go a"}, impl.IrBlock{Pc: 5, Len: 2, End: impl.EndGo, K: 10, Ops: opsOf(constant(9), sets(0, 0))}, false},
		{"set behind a store", []string{"set a 7", "store d b 0"}, impl.IrBlock{Pc: 5, Len: 2, End: impl.EndGo, K: 7, Ops: opsOf(gets(1), gets(3), stores(0, 1, 1), constant(7), sets(0, 3))}, false},
		{"set ahead of a store", []string{"set a 7", "store d b 0"}, impl.IrBlock{Pc: 5, Len: 2, End: impl.EndGo, K: 7, Ops: opsOf(constant(7), sets(0, 0), gets(1), gets(3), stores(2, 3, 1))}, true},
		{"nothing", []string{"add a b b"}, impl.IrBlock{}, false},
		{"not ok", []string{"move a a"}, impl.IrBlock{Pc: 5, Len: 1, End: impl.EndGo, K: 6, Ops: opsOf(impl.IrOp{})}, false},
	} {
		list, mem := oneKept(c.b, c.lines...)
		holdKept(t, c.what, list, mem, c.want)
		holdKept(t, c.what+", between two others", listed(keptFor(50, "out a"), list[0], keptFor(60, "out a")), put(put(mem, 50, 57344), 60, 57344), c.want)
	}
	for what, b := range badCodes() {
		list, mem := oneKept(b, "add a b b", "in c", "out d")
		holdKept(t, what, list, mem, false)
	}
	// Code at the place of its words, but for where these stand: nothing but the place differs.
	e := keptFor(20, "in a", "out a")
	for _, pc := range []int{19, 21, 0, 62} {
		holdKept(t, "words of another place", listed(moved(e, pc)), besides(e), false)
		both := besides(e, moved(e, pc))
		if pc == 0 || pc == 62 {
			holdKept(t, "words at both places", listed(e, moved(e, pc)), both, true)
		}
	}
}

// anyPieceIn is what may be kept of words that are there: some instructions from a place on, with code that may stand for them; false, if there are none.
func (d *dice) anyPieceIn(mem []int) (impl.CacEntry, bool) {
	m := d.goingMachine()
	m.Mem, m.Pc = mem, d.below(impl.MchSize)
	list := wantedFind(m)
	if len(list) == 0 {
		return impl.CacEntry{}, false
	}
	list = list[:1+d.below(len(list))]
	b := wantedLower(m.Pc, list)
	switch d.below(3) {
	case 0:
		b = impl.OptAll(b)
	case 1:
		if other := d.otherHands(b); wantedStand(b, other) {
			b = other
		}
	}
	return impl.CacEntry{Words: impl.BlkWords(list), Block: b}, true
}

// anyKept is what may be kept beside words: at most so many, no two at one place.
func (d *dice) anyKept(mem []int, most int) []impl.CacEntry {
	var out []impl.CacEntry
	for range 2 * most {
		e, found := d.anyPieceIn(mem)
		if found && len(out) < most && wantedPlace(out, e.Block.Pc) < 0 {
			out = append(out, e)
		}
	}
	return out
}

// anyTurned is what is kept, and words, with one thing turned in the one or the others.
func (d *dice) anyTurned(list []impl.CacEntry, mem []int) ([]impl.CacEntry, []int) {
	if len(list) == 0 {
		return list, mem[:d.below(len(mem)+1)]
	}
	at := d.below(len(list))
	e := list[at]
	switch d.below(8) {
	case 0:
		return list, put(mem, d.of(d.below(len(mem)), e.Block.Pc+d.below(len(e.Words))), d.anyCode())
	case 1:
		return list, mem[:d.of(d.below(len(mem)+1), e.Block.Pc+len(e.Words)-d.below(2))]
	case 2:
		return slices.Insert(slices.Clone(list), d.below(len(list)+1), e), mem
	case 3:
		e.Words = e.Words[:d.below(len(e.Words)+1)]
	case 4:
		e.Words = put(e.Words, d.below(len(e.Words)), d.anyCode())
	case 5:
		turns := turnsOfCode(e.Block)
		e.Block = turns[d.below(len(turns))]
	case 6:
		e.Block = d.otherHands(e.Block)
	case 7:
		e = moved(e, d.of(-1, e.Block.Pc+1, d.below(64)))
	}
	return put(list, at, e), mem
}

func TestP74AnyKept(t *testing.T) {
	d := dice(747474741)
	right, wrong := 0, 0
	for range 4000 {
		mem := d.anyMachine().Mem
		list := d.anyKept(mem, d.of(1, 2, 3, 4, 4, 5))
		holdKept(t, "any", list, mem, len(list) <= 4)
		list, mem = d.anyTurned(list, mem)
		want := wantedKept(list, mem)
		holdKept(t, "one thing turned", list, mem, want)
		if want {
			right++
		} else {
			wrong++
		}
	}
	if right < 500 || wrong < 1500 {
		t.Fatalf("only %d are ok, and %d are not", right, wrong)
	}
}

// holdFind fails unless CacFind tells a place as wanted: the first one of that place, and none ahead of it.
func holdFind(t *testing.T, what string, list []impl.CacEntry, pc, want int) {
	t.Helper()
	if got := impl.CacFind(list, pc); got != want || want != wantedPlace(list, pc) {
		t.Fatalf("%s: %d stands at %d, not at %d, of\n%+v", what, pc, got, want, list)
	}
}

func TestP49ByHand(t *testing.T) {
	for _, pc := range []int{0, 1, 5, 63, 64, -1, math.MaxInt, math.MinInt} {
		holdFind(t, "nothing", nil, pc, -1)
		holdFind(t, "an empty list", listed(), pc, -1)
	}
	list := justAtAll(20, 0, 5, 20, -1, 64, 5, 63, -1, math.MaxInt, math.MinInt)
	for _, c := range []struct {
		what     string
		pc, want int
	}{
		{"twice, the first", 20, 0}, {"once", 0, 1}, {"twice, in the midst", 5, 2}, {"below 0, twice", -1, 4}, {"behind the last place", 64, 5}, {"the last place", 63, 7},
		{"the greatest", math.MaxInt, 9}, {"the least, last of all", math.MinInt, 10},
		{"never", 1, -1}, {"never", 19, -1}, {"never", 21, -1}, {"never", 62, -1}, {"never below 0", -2, -1}, {"never past the end", 65, -1},
		{"the same when wrapped", 20 + 65536, -1}, {"the same when wrapped", 5 + 1<<32, -1}, {"the other sign", -20, -1},
	} {
		holdFind(t, c.what, list, c.pc, c.want)
	}
	four := fourKept()
	for at, e := range four {
		holdFind(t, "four that are ok", four, e.Block.Pc, at)
		holdFind(t, "behind its place", four, e.Block.Pc+1, -1)
	}
	// Nothing but the place of the code counts.
	strange := listed(impl.CacEntry{Words: []int{7, 7}, Block: impl.IrBlock{Pc: 3, Len: 7, End: 7, X: 7, Y: 7, K: 7, Ops: opsOf(impl.IrOp{K: 7})}})
	holdFind(t, "other numbers", strange, 7, -1)
	holdFind(t, "its place", strange, 3, 0)
	many := slices.Repeat(justAtAll(1), 100000)
	holdFind(t, "a great many", append(many, justAt(2, 0), justAt(2, 1)), 2, 100000)
}

func TestP49OfAny(t *testing.T) {
	d := dice(494949491)
	found, none := 0, 0
	for range 20000 {
		list := d.anyThings(d.below(9))
		for _, pc := range []int{d.anyPlace(), d.below(64)} {
			want := wantedPlace(list, pc)
			holdFind(t, "any", list, pc, want)
			if want < 0 {
				none++
			} else {
				found++
			}
		}
	}
	if found < 5000 || none < 5000 {
		t.Fatalf("only %d are found, and %d are not", found, none)
	}
}

// anyPlace is one of few places, some of which are none.
func (d *dice) anyPlace() int {
	return d.of(0, 1, 2, 3, 5, 8, 62, 63, 64, -1, math.MaxInt, math.MinInt)
}

// anyThings are things at few places, some of which are ok.
func (d *dice) anyThings(many int) []impl.CacEntry {
	var out []impl.CacEntry
	for number := range many {
		e := justAt(d.anyPlace(), number)
		switch d.below(4) {
		case 0:
			pc, list := d.anyPiece()
			e = impl.CacEntry{Words: impl.BlkWords(list), Block: impl.BlkLower(pc, list)}
		case 1:
			e.Words = d.anyList(d.below(4), d.anyWord)
		case 2:
			e.Block.Ops = opsOf(impl.IrOp{Kind: number, X: -number}, constant(number))
		}
		out = append(out, e)
	}
	return out
}

// holdPutKept fails unless CacPut is as wanted; and unless what was put is found last, what is kept for other places is the end of what was, and it is so once more.
func holdPutKept(t *testing.T, what string, list []impl.CacEntry, e impl.CacEntry, want ...impl.CacEntry) {
	t.Helper()
	got := impl.CacPut(list, e)
	if !sameKept(got, want) || !sameKept(want, wantedMore(list, e)) {
		t.Fatalf("%s: of\n%+v\nand %+v\n%+v, not\n%+v", what, list, e, got, want)
	}
	if last := len(got) - 1; last < 0 || last > 3 || impl.CacFind(got, e.Block.Pc) != last || !sameEntry(got[last], e) {
		t.Fatalf("%s: what was put is not found, as the last one of at most four: %+v", what, got)
	}
	if again := impl.CacPut(got, e); !sameKept(again, got) {
		t.Fatalf("%s: put once more\n%+v\nnot\n%+v", what, again, got)
	}
}

func TestP48ByHand(t *testing.T) {
	a, b, c, e := justAt(10, 1), justAt(20, 2), justAt(30, 3), justAt(40, 4)
	x, y := justAt(50, 5), justAt(60, 6)
	holdPutKept(t, "to nothing", nil, a, a)
	holdPutKept(t, "to an empty list", listed(), a, a)
	holdPutKept(t, "to one", listed(a), b, a, b)
	holdPutKept(t, "to two", listed(a, b), c, a, b, c)
	holdPutKept(t, "to three", listed(a, b, c), e, a, b, c, e)
	holdPutKept(t, "to four", listed(a, b, c, e), x, b, c, e, x)
	holdPutKept(t, "to five", listed(a, b, c, e, x), y, c, e, x, y)
	holdPutKept(t, "to six", listed(y, a, b, c, e, y), x, c, e, y, x)
	holdPutKept(t, "to a great many", append(slices.Repeat(listed(a, b), 50000), c), e, a, b, c, e)

	for _, again := range []impl.CacEntry{justAt(10, 9), justAt(20, 9), justAt(30, 9), justAt(40, 9)} {
		rest := slices.DeleteFunc(listed(a, b, c, e), func(old impl.CacEntry) bool { return old.Block.Pc == again.Block.Pc })
		holdPutKept(t, "of a place that is kept, of four", listed(a, b, c, e), again, append(rest, again)...)
	}
	again := justAt(10, 9)
	holdPutKept(t, "of the one place that is kept", listed(a), again, again)
	holdPutKept(t, "of the first place of two", listed(a, b), again, b, again)
	holdPutKept(t, "of the last place of two", listed(b, a), again, b, again)
	holdPutKept(t, "in the midst of three", listed(b, a, c), again, b, c, again)
	holdPutKept(t, "of a place that is kept more than once", listed(a, b, justAt(10, 7), c, justAt(10, 8)), again, b, c, again)
	holdPutKept(t, "of a place that alone is kept, often", slices.Repeat(listed(a), 9), again, again)
	holdPutKept(t, "of a place that is kept last, of five", listed(x, b, c, e, a), again, b, c, e, again)
	holdPutKept(t, "of a place that is kept first, of five", listed(a, x, b, c, e), again, b, c, e, again)
	holdPutKept(t, "of a place that is kept first, of six", listed(a, x, y, b, c, e), again, b, c, e, again)
	// Those of other places stay, however often one of these is kept.
	holdPutKept(t, "to one that is kept twice", listed(a, a, b), c, a, a, b, c)
	holdPutKept(t, "to one that is kept twice, and too often", listed(a, b, a, c), e, b, a, c, e)

	bad := impl.CacEntry{Words: []int{-5, 65536}, Block: impl.IrBlock{Pc: -1, Len: 99, Ops: opsOf(impl.IrOp{Kind: 77})}}
	holdPutKept(t, "what is not ok", listed(a, bad, b), justAt(math.MinInt, 0), a, bad, b, justAt(math.MinInt, 0))
	holdPutKept(t, "what is not ok, for its place", listed(a, bad, b), justAt(-1, 7), a, b, justAt(-1, 7))
	holdPutKept(t, "what is not ok to what is", fourKept(), bad, append(fourKept()[1:], bad)...)
	holdPutKept(t, "nothing", listed(a), impl.CacEntry{}, a, impl.CacEntry{})
	holdPutKept(t, "nothing for nothing", listed(impl.CacEntry{}, a), impl.CacEntry{}, a, impl.CacEntry{})
	holdPutKept(t, "places that are the same when wrapped", listed(justAt(10+65536, 1), justAt(10+1<<32, 2)), a, justAt(10+65536, 1), justAt(10+1<<32, 2), a)
}

// One by one many places are put, each as often as another: what is kept is always the last four of them that differ.
func TestP48OneByOne(t *testing.T) {
	d := dice(484848481)
	for range 300 {
		var list, whole []impl.CacEntry
		for number := range 30 {
			e := justAt(d.anyPlace(), number)
			list = impl.CacPut(list, e)
			whole = append(slices.DeleteFunc(whole, func(old impl.CacEntry) bool { return old.Block.Pc == e.Block.Pc }), e)
			if want := whole[max(0, len(whole)-4):]; !sameKept(list, want) {
				t.Fatalf("%+v, not %+v", list, want)
			}
			for at, old := range list {
				holdFind(t, "what was put", list, old.Block.Pc, at)
			}
		}
	}
}

func TestP48OfAny(t *testing.T) {
	d := dice(484800007)
	for range 10000 {
		list := d.anyThings(d.below(9))
		e := d.anyThings(1)[0]
		if len(list) > 0 && d.below(3) == 0 {
			e.Block.Pc = list[d.below(len(list))].Block.Pc
		}
		holdPutKept(t, "any", list, e, wantedMore(list, e)...)
		for _, pc := range []int{0, 1, 2, 3, 5, 8, 62, 63, 64, -1, d.below(64)} {
			// What was kept for another place is the first of it among the last three that stay.
			got, rest := impl.CacPut(list, e), wantedMore(list, e)
			holdFind(t, "behind it", got, pc, wantedPlace(rest, pc))
		}
	}
}

// holdDropped fails unless CacDrop is as wanted, and twice as once.
func holdDropped(t *testing.T, what string, list []impl.CacEntry, mem []int, want ...impl.CacEntry) {
	t.Helper()
	got := impl.CacDrop(list, mem)
	if !sameKept(got, want) || !sameKept(want, wantedDrop(list, mem)) {
		t.Fatalf("%s: of\n%+v\nbeside %v\n%+v, not\n%+v", what, list, mem, got, want)
	}
	if again := impl.CacDrop(got, mem); !sameKept(again, got) {
		t.Fatalf("%s: twice\n%+v\nnot\n%+v", what, again, got)
	}
}

func TestP50ByHand(t *testing.T) {
	four := fourKept()
	mem := besides(four...)
	holdDropped(t, "nothing", nil, mem)
	holdDropped(t, "an empty list", listed(), mem)
	holdDropped(t, "nothing, beside nothing", nil, nil)
	holdDropped(t, "none is dropped", four, mem, four...)
	holdDropped(t, "all are dropped", four, make([]int, impl.MchSize))
	holdDropped(t, "all are dropped beside no words", four, nil)
	holdDropped(t, "all are dropped beside other words", four, slices.Repeat([]int{65535}, 64))
	for number, e := range four {
		rest := slices.Delete(slices.Clone(four), number, number+1)
		for at, w := range e.Words {
			for _, other := range wordTurns(w) {
				if other != w {
					holdDropped(t, "one word turned", four, put(mem, e.Block.Pc+at, other), rest...)
				}
			}
		}
	}
	holdDropped(t, "a word turned that is nobody's", four, put(mem, 23, 7), four...)
	holdDropped(t, "a word turned that is nobody's", four, put(mem, 19, 7), four...)
	holdDropped(t, "a word turned that is nobody's", four, put(mem, 1, 7), four...)
	holdDropped(t, "two written over", four, put(put(mem, 0, 7), 63, 7), four[0], four[3])
	holdDropped(t, "those in the midst", four, put(put(mem, 22, 7), 40, 7), four[1], four[2])
	for many := range 65 {
		var want []impl.CacEntry
		for _, e := range four {
			if e.Block.Pc+len(e.Words) <= many {
				want = append(want, e)
			}
		}
		holdDropped(t, "so many words", four, mem[:many], want...)
		holdDropped(t, "so many words, and room behind", four, mem[:many:64], want...)
	}
}

func TestP50Places(t *testing.T) {
	words := func(pc int, w ...int) impl.CacEntry { return impl.CacEntry{Words: w, Block: impl.IrBlock{Pc: pc}} }
	mem := []int{7, 7, 7, 8, 9, 7}
	kept := func(what string, e impl.CacEntry) {
		t.Helper()
		holdDropped(t, what, listed(e), mem, e)
		holdDropped(t, what, listed(words(-1, 7), e, words(0, 8), e), mem, e, e)
	}
	gone := func(what string, e impl.CacEntry) {
		t.Helper()
		holdDropped(t, what, listed(e), mem)
		holdDropped(t, what, listed(words(0, 7), e, words(3, 8)), mem, words(0, 7), words(3, 8))
	}
	kept("the first", words(0, 7))
	kept("all", words(0, 7, 7, 7, 8, 9, 7))
	kept("the last", words(5, 7))
	kept("up to the end", words(3, 8, 9, 7))
	gone("below 0", words(-1, 7))
	gone("below 0, up to what is there", words(-1, 7, 7))
	gone("below 0, from the end", words(-3, 8, 9, 7))
	gone("least", words(math.MinInt, 7))
	gone("past the end by one", words(3, 8, 9, 7, 7))
	gone("past the end by a nought", words(3, 8, 9, 7, 0))
	gone("past the end, round to the beginning", words(5, 7, 7, 7))
	gone("one more than all", words(0, 7, 7, 7, 8, 9, 7, 0))
	gone("behind all", words(6, 7))
	gone("behind all, a nought", words(6, 0))
	gone("past it", words(7, 7))
	for _, pc := range []int{64, 65536, 1 << 32, math.MaxInt - 1, math.MaxInt} {
		gone("far past it", words(pc, 7))
		gone("far past it, many words", words(pc, 7, 7, 7))
	}
	gone("the same when wrapped", words(1<<32, 7))
	gone("another word there", words(3, 9))
	gone("the same word elsewhere", words(1, 7, 7, 7))

	// Where there are no words none of them is missing, wherever that is, but a place below 0 is barred by name.
	for _, pc := range []int{0, 3, 5, 6, 7, 8, 64, 65536, math.MaxInt} {
		kept("no words", words(pc))
		kept("an empty list of words", impl.CacEntry{Words: []int{}, Block: impl.IrBlock{Pc: pc}})
		holdDropped(t, "no words, beside none", listed(words(pc)), nil, words(pc))
	}
	for _, pc := range []int{-1, -2, -64, math.MinInt} {
		gone("no words below 0", words(pc))
		holdDropped(t, "no words below 0, beside none", listed(words(pc)), nil)
	}
}

// What is not ok is dropped by its place and words alone, and nothing else of it counts.
func TestP50OfWhatIsNotOk(t *testing.T) {
	mem := besides(fourKept()...)
	strange := impl.CacEntry{Words: []int{mem[20]}, Block: impl.IrBlock{Pc: 20, Len: -9, End: 77, X: -1, Y: 5, K: -3, Ops: opsOf(impl.IrOp{Kind: 99}, impl.IrOp{At: -1})}}
	holdDropped(t, "code that is not ok", listed(strange), mem, strange)
	holdDropped(t, "two at one place", listed(fourKept()[0], strange, fourKept()[0]), mem, fourKept()[0], strange, fourKept()[0])
	holdDropped(t, "two at one place, one of them written over", listed(fourKept()[0], strange, justAt(20, 5)), put(mem, 22, 0), strange)
	many := slices.Repeat(fourKept(), 3)
	holdDropped(t, "more than may be kept", many, mem, many...)
	holdDropped(t, "more than may be kept, some written over", many, put(mem, 0, 5), slices.DeleteFunc(slices.Clone(many), func(e impl.CacEntry) bool { return e.Block.Pc == 0 })...)
	great := slices.Repeat(listed(strange, justAt(-1, 3)), 50000)
	holdDropped(t, "a great many", great, mem, slices.Repeat(listed(strange), 50000)...)
	numbers := []int{-1, 65536, math.MinInt, 5}
	holdDropped(t, "numbers that are no words", listed(impl.CacEntry{Words: []int{65536, math.MinInt}, Block: impl.IrBlock{Pc: 1}}), numbers, impl.CacEntry{Words: []int{65536, math.MinInt}, Block: impl.IrBlock{Pc: 1}})
}

func TestP50OfAny(t *testing.T) {
	d := dice(505055051)
	stays, goes := 0, 0
	for range 6000 {
		mem := d.anyList(d.of(0, 3, 6, 10, 64, 70), func() int { return d.below(2) })
		var list []impl.CacEntry
		for number := range d.below(9) {
			e := justAt(d.of(-1, 0, 1, 2, 3, 5, 60, 62, 64, d.below(70)), number)
			e.Words = d.anyList(d.below(4), func() int { return d.below(2) })
			list = append(list, e)
		}
		want := wantedDrop(list, mem)
		holdDropped(t, "any", list, mem, want...)
		stays, goes = stays+len(want), goes+len(list)-len(want)
	}
	if stays < 5000 || goes < 5000 {
		t.Fatalf("only %d stay, and %d go", stays, goes)
	}
}

// What is kept of a machine's words, put and dropped, stays ok beside them, and beside any others.
func TestP74PutAndDropped(t *testing.T) {
	d := dice(747400007)
	full, same, over, fewer := 0, 0, 0, 0
	for range 3000 {
		m := d.anyMachine()
		list := d.anyKept(m.Mem, d.below(5))
		if len(list) > 0 && d.below(3) == 0 {
			m.Pc = list[d.below(len(list))].Block.Pc
		}
		found := impl.BlkFind(m)
		if len(found) == 0 {
			continue
		}
		lowered := impl.BlkLower(m.Pc, found)
		codes := []impl.IrBlock{lowered, impl.OptAll(lowered)}
		if other := d.otherHands(lowered); impl.ChkSame(lowered, other) {
			codes = append(codes, other)
		}
		for _, b := range codes {
			e := impl.CacEntry{Words: impl.BlkWords(found), Block: b}
			more := impl.CacPut(list, e)
			holdKept(t, "what is there", list, m.Mem, true)
			holdKept(t, "with the code at the machine's place", more, m.Mem, true)
			if len(list) == 4 && len(more) == 4 {
				full++
			}
			if impl.CacFind(list, m.Pc) >= 0 {
				same++
			}
			mem := d.anyWords(m.Mem)
			left := impl.CacDrop(more, mem)
			holdKept(t, "beside any words", left, mem, true)
			holdKept(t, "what was there, beside any words", impl.CacDrop(list, mem), mem, true)
			if len(left) < len(more) {
				fewer++
			}
			if len(left) > 0 && !slices.Equal(mem, m.Mem) {
				over++
			}
		}
	}
	if full < 200 || same < 200 || over < 200 || fewer < 200 {
		t.Fatalf("only %d were full, %d kept that place, %d stayed beside other words, and %d did not", full, same, over, fewer)
	}
}

// anyWords are words made of a machine's: some turned, or fewer, or more, or others.
func (d *dice) anyWords(mem []int) []int {
	out := slices.Clone(mem)
	switch d.below(5) {
	case 0:
		return out[:d.below(len(out)+1)]
	case 1:
		return append(out, d.anyList(d.below(10), d.anyCode)...)
	case 2:
		return d.anyMachine().Mem
	}
	for range d.below(12) {
		out[d.below(len(out))] = d.of(d.anyCode(), d.anyWord(), -1, 65536)
	}
	return out
}

// A machine that writes over its own code: whatever it does, what is kept of its words, and dropped behind each step, is ok beside them.
func TestP50BehindEachStep(t *testing.T) {
	m := impl.MchNew(wordsOf("set a 3", "set b 1", "out a", "sub a a b", "load d c 8", "store d b 1", "less c a 2", "stop", "out b"), nil)
	var list []impl.CacEntry
	var seen [][]int
	for m.Halt == impl.HaltNone {
		if found := impl.BlkFind(m); len(found) > 0 && impl.CacFind(list, m.Pc) < 0 {
			list = impl.CacPut(list, impl.CacEntry{Words: impl.BlkWords(found), Block: impl.OptAll(impl.BlkLower(m.Pc, found))})
		}
		m = impl.MchStep(m, false)
		list = impl.CacDrop(list, m.Mem)
		holdKept(t, "behind a step", list, m.Mem, true)
		var places []int
		for _, e := range list {
			places = append(places, e.Block.Pc)
		}
		seen = append(seen, places)
	}
	// Its sixth instruction writes over the third: all that is kept then but what begins behind it is gone.
	for done, want := range [][]int{{0}, {0, 1}, {0, 1, 2}, {0, 1, 2, 3}, {1, 2, 3, 4}, {3, 4, 5}, {3, 4, 5, 6}, {4, 5, 6, 2}} {
		if !slices.Equal(seen[done], want) {
			t.Fatalf("behind %d steps what is kept is at %v, not at %v", done+1, seen[done], want)
		}
	}
	if m.Count != 18 || m.Halt != impl.HaltStop {
		t.Fatalf("it stands so: %+v", m)
	}
}

func TestP84OfAny(t *testing.T) {
	d := dice(848484841)
	for range 4000 {
		list := d.anyThings(d.below(9))
		e := d.anyThings(1)[0]
		once := impl.CacPut(list, e)
		if twice := impl.CacPut(once, e); !sameKept(once, twice) {
			t.Fatalf("put once\n%+v\nand twice\n%+v", once, twice)
		}
		// What is there already goes to the end, and nothing else turns.
		if len(once) > 1 {
			old := once[d.below(len(once))]
			rest := slices.DeleteFunc(slices.Clone(once), func(x impl.CacEntry) bool { return x.Block.Pc == old.Block.Pc })
			if got := impl.CacPut(once, old); !sameKept(got, append(rest, old)) {
				t.Fatalf("of %+v put once more: %+v", old, got)
			}
		}
		mem := d.anyMachine().Mem
		kept := d.anyKept(mem, 4)
		if got := impl.CacDrop(kept, mem); !sameKept(got, kept) {
			t.Fatalf("beside the same words\n%+v\nis dropped to\n%+v", kept, got)
		}
		turned := d.anyWords(mem)
		left := impl.CacDrop(kept, turned)
		if got := impl.CacDrop(left, slices.Clone(turned)); !sameKept(got, left) {
			t.Fatalf("beside words that have not turned\n%+v\nis dropped to\n%+v", left, got)
		}
	}
}

func pairOf(base, made impl.IrBlock) impl.CerPair { return impl.CerPair{Base: base, Made: made} }

func pairs(list ...impl.CerPair) []impl.CerPair { return list }

// rightPairs are pairs of which the second one may stand for the first one, and no two are the same.
func rightPairs() []impl.CerPair {
	twice := keptFor(3, "add a b b").Block
	return pairs(
		pairOf(twice, keptFor(3, "shift a b 1").Block),
		pairOf(codeOf(), codeOf(constant(9))),
		pairOf(eachKind(), eachKind()),
		pairOf(twice, twice),
	)
}

// wrongPairs are pairs of which the second one may not stand for the first one, one of each sort.
func wrongPairs() map[string]impl.CerPair {
	twice := keptFor(3, "add a b b").Block
	out := map[string]impl.CerPair{
		"thrice":            pairOf(twice, impl.IrBlock{Pc: 3, Len: 1, End: impl.EndGo, K: 4, Ops: opsOf(gets(1), constant(3), reckons(impl.OpMul, 1, 0), sets(0, 2))}),
		"another place":     pairOf(twice, keptFor(4, "add a b b").Block),
		"another length":    pairOf(twice, keptFor(3, "add a b b", "move a a").Block),
		"another end":       pairOf(codeOf(), ended(codeOf(), impl.EndGo, 0, 0, 21)),
		"what goes out":     pairOf(codeOf(gets(0), letsOut(0, 1)), codeOf(gets(0))),
		"nothing and code":  pairOf(impl.IrBlock{}, codeOf()),
		"code and nothing":  pairOf(codeOf(), impl.IrBlock{}),
		"nothing":           {},
		"both not ok":       pairOf(codeOf(impl.IrOp{}), codeOf(impl.IrOp{})),
		"too many of both":  pairOf(codeOf(manyOps(49)...), codeOf(manyOps(49)...)),
		"both at no place":  pairOf(turnedCode(twice, func(b *impl.IrBlock) { b.Pc = 64 }), turnedCode(twice, func(b *impl.IrBlock) { b.Pc = 64 })),
		"both of no length": pairOf(impl.IrBlock{End: impl.EndGo}, impl.IrBlock{End: impl.EndGo}),
	}
	for what, b := range badCodes() {
		out["both: "+what] = pairOf(b, b)
		out["Base: "+what] = pairOf(b, eachKind())
		out["Made: "+what] = pairOf(eachKind(), b)
	}
	return out
}

// holdPairs fails unless CerOk is as wanted, by hand and by the second telling; and, if it is true, unless of each pair that is there the second one may stand for the first one.
func holdPairs(t *testing.T, what string, list []impl.CerPair, want bool) {
	t.Helper()
	if second := wantedPairs(list); second != want {
		t.Fatalf("%s: by hand %v, by the second telling %v", what, want, second)
	}
	if got := impl.CerOk(list); got != want {
		t.Fatalf("%s: %v, not %v, of\n%+v", what, got, want, list)
	}
	for _, p := range list {
		if has := impl.CerHas(list, p.Base, p.Made); !has || want && !impl.ChkSame(p.Base, p.Made) {
			t.Fatalf("%s: %v of %+v", what, has, p)
		}
	}
}

func TestP52Pairs(t *testing.T) {
	right := rightPairs()
	holdPairs(t, "nothing", nil, true)
	holdPairs(t, "an empty list", pairs(), true)
	for many := range 4 {
		holdPairs(t, "so many", right[:many], true)
	}
	holdPairs(t, "one more than may be", right, false)
	holdPairs(t, "a great many", slices.Repeat(right, 25000), false)
	holdPairs(t, "one twice", pairs(right[0], right[0]), true)
	holdPairs(t, "one thrice", pairs(right[0], right[0], right[0]), true)
	holdPairs(t, "one four times", pairs(right[0], right[0], right[0], right[0]), false)
	for what, p := range wrongPairs() {
		holdPairs(t, what, pairs(p), false)
		holdPairs(t, what+", the other way round", pairs(pairOf(p.Made, p.Base)), false)
		holdPairs(t, what+", the first", pairs(p, right[0], right[1]), false)
		holdPairs(t, what+", in the midst", pairs(right[0], p, right[1]), false)
		holdPairs(t, what+", the last", pairs(right[0], right[1], p), false)
		holdPairs(t, what+", the last of two", pairs(right[0], p), false)
		holdPairs(t, what+", and too many", pairs(right[0], right[1], right[2], p), false)
	}
	for _, p := range unseenPairs() {
		holdPairs(t, p.what, pairs(pairOf(p.b, p.c)), true)
	}
	for _, p := range seenPairs() {
		holdPairs(t, p.what, pairs(pairOf(p.b, p.c)), false)
	}
}

func TestP52AnyPairs(t *testing.T) {
	d := dice(525252521)
	right, wrong := 0, 0
	for range 3000 {
		var list []impl.CerPair
		for range d.of(1, 2, 3, 3, 4) {
			list = append(list, d.anyPair())
		}
		want := wantedPairs(list)
		holdPairs(t, "any", list, want)
		if want {
			right++
		} else {
			wrong++
		}
		b := d.anyOwn()
		for _, made := range []impl.IrBlock{impl.OptAll(b), d.otherHands(b)} {
			if has := impl.CerHas(list, b, made); has && want && !impl.ChkSame(b, made) {
				t.Fatalf("%+v is there, and is not right", pairOf(b, made))
			}
		}
	}
	if right < 500 || wrong < 500 {
		t.Fatalf("only %d are ok, and %d are not", right, wrong)
	}
}

// anyPair is a piece of code and what a hand makes of it, which is mostly right.
func (d *dice) anyPair() impl.CerPair {
	b := d.anyOwn()
	if d.below(3) > 0 {
		return pairOf(b, impl.OptAll(b))
	}
	return pairOf(b, d.otherHands(b))
}

// holdHas fails unless CerHas is as wanted.
func holdHas(t *testing.T, what string, list []impl.CerPair, base, made impl.IrBlock, want bool) {
	t.Helper()
	second := slices.ContainsFunc(list, func(p impl.CerPair) bool { return samePair(p, pairOf(base, made)) })
	if got := impl.CerHas(list, base, made); got != want || second != want {
		t.Fatalf("%s: %v, not %v, and %v by the second telling, of\n%+v\n%+v\nand\n%+v", what, got, want, second, list, base, made)
	}
}

func TestP52WhatIsThere(t *testing.T) {
	a, b, c := codeOf(constant(1)), codeOf(constant(2)), codeOf(constant(3))
	holdHas(t, "nothing", nil, a, b, false)
	holdHas(t, "an empty list", pairs(), a, b, false)
	holdHas(t, "nothing is no nothing", nil, impl.IrBlock{}, impl.IrBlock{}, false)
	holdHas(t, "nothing that is there", pairs(impl.CerPair{}), impl.IrBlock{}, impl.IrBlock{}, true)
	one := pairs(pairOf(a, b))
	holdHas(t, "both", one, a, b, true)
	holdHas(t, "both, in other memory", one, turnedCode(a, func(*impl.IrBlock) {}), turnedCode(b, func(*impl.IrBlock) {}), true)
	holdHas(t, "the other way round", one, b, a, false)
	holdHas(t, "Base alone", one, a, c, false)
	holdHas(t, "Made alone", one, c, b, false)
	holdHas(t, "Base twice", one, a, a, false)
	holdHas(t, "Made twice", one, b, b, false)
	holdHas(t, "neither", one, c, c, false)
	two := pairs(pairOf(a, b), pairOf(b, c), pairOf(c, c))
	for _, p := range two {
		holdHas(t, "each", two, p.Base, p.Made, true)
	}
	holdHas(t, "Base of one and Made of another", two, a, c, false)
	holdHas(t, "Base of the last and Made of the first", two, c, b, false)
	holdHas(t, "the second one the other way round", two, c, b, false)
	holdHas(t, "of too many, the first", append(two, rightPairs()...), a, b, true)
	holdHas(t, "of too many, the last", append(rightPairs(), two...), c, c, true)
	holdHas(t, "a great many", append(slices.Repeat(two, 30000), pairOf(a, a)), a, a, true)
	// What may stand for it is not it.
	for _, p := range unseenPairs() {
		if !sameBlock(p.b, p.c) {
			holdHas(t, p.what, pairs(pairOf(p.b, p.b), pairOf(p.c, p.c)), p.b, p.c, false)
			holdHas(t, p.what, pairs(pairOf(p.c, p.b)), p.b, p.c, false)
		}
		holdHas(t, p.what, pairs(pairOf(p.b, p.c)), p.b, p.c, true)
	}
}

func TestP52OneThingTurned(t *testing.T) {
	for _, b := range someCodes() {
		if len(b.Ops) > 20 {
			b.Ops = b.Ops[:20]
		}
		other := codeOf(gets(3), sets(2, 0))
		list := pairs(pairOf(b, other), pairOf(other, b), pairOf(b, b))
		holdHas(t, "as it is", list, b, other, true)
		holdHas(t, "as it is", list, other, b, true)
		holdHas(t, "as it is", list, b, b, true)
		for _, c := range turnsOfCode(b) {
			for _, p := range pairs(pairOf(c, other), pairOf(other, c), pairOf(c, b), pairOf(b, c), pairOf(c, c)) {
				if impl.CerHas(list, p.Base, p.Made) {
					t.Fatalf("with one thing turned it is there:\n%+v\n%+v", list, p)
				}
			}
		}
	}
}

// holdPutPair fails unless CerPut is as wanted, what was put is there, and what was ok is.
func holdPutPair(t *testing.T, what string, list []impl.CerPair, p impl.CerPair, want ...impl.CerPair) {
	t.Helper()
	got := impl.CerPut(list, p)
	if !samePairs(got, want) || !samePairs(want, wantedMorePairs(list, p)) {
		t.Fatalf("%s: of\n%+v\nand %+v\n%+v, not\n%+v", what, list, p, got, want)
	}
	if len(got) > impl.CerMost || !impl.CerHas(got, p.Base, p.Made) || !samePair(got[len(got)-1], p) {
		t.Fatalf("%s: %+v is not the last one of\n%+v", what, p, got)
	}
	if right := impl.CerOk(list) && impl.ChkSame(p.Base, p.Made); right && !impl.CerOk(got) {
		t.Fatalf("%s: %+v was all right, and is not any more: %+v", what, list, got)
	}
}

func TestP51ByHand(t *testing.T) {
	r := rightPairs()
	a, b, c, e := r[0], r[1], r[2], r[3]
	holdPutPair(t, "to nothing", nil, a, a)
	holdPutPair(t, "to an empty list", pairs(), a, a)
	holdPutPair(t, "to one", pairs(a), b, a, b)
	holdPutPair(t, "to two", pairs(a, b), c, a, b, c)
	holdPutPair(t, "to three", pairs(a, b, c), e, b, c, e)
	holdPutPair(t, "to four", pairs(a, b, c, e), a, c, e, a)
	holdPutPair(t, "to five", pairs(a, b, c, e, b), a, e, b, a)
	holdPutPair(t, "to a great many", slices.Repeat(r, 25000), a, c, e, a)
	// One that is there already is there twice: nobody takes it away.
	holdPutPair(t, "the same to one", pairs(a), a, a, a)
	holdPutPair(t, "the first to two", pairs(a, b), a, a, b, a)
	holdPutPair(t, "the last to two", pairs(a, b), b, a, b, b)
	holdPutPair(t, "the first to three", pairs(a, b, c), a, b, c, a)
	holdPutPair(t, "the one in the midst to three", pairs(a, b, c), b, b, c, b)
	holdPutPair(t, "the last to three", pairs(a, b, c), c, b, c, c)
	holdPutPair(t, "the same thrice", pairs(a, a, a), a, a, a, a)
	for what, p := range wrongPairs() {
		holdPutPair(t, what, pairs(a, b), p, a, b, p)
		holdPutPair(t, what+", to it", pairs(p, b, c), a, b, c, a)
		holdPutPair(t, what+", that stays", pairs(b, p, c), a, p, c, a)
		if !impl.CerOk(impl.CerPut(pairs(p, b, c), a)) || impl.CerOk(impl.CerPut(pairs(b, p, c), a)) {
			t.Fatalf("%s: where it is gone they are not ok, or are where it stays", what)
		}
	}
}

func TestP51OfAny(t *testing.T) {
	d := dice(515151511)
	for range 1500 {
		var list []impl.CerPair
		for range d.below(7) {
			p := d.anyPair()
			list = append(list, p)
			holdHas(t, "one of any", list, p.Base, p.Made, true)
		}
		p := d.anyPair()
		if len(list) > 0 && d.below(3) == 0 {
			p = list[d.below(len(list))]
		}
		holdPutPair(t, "any", list, p, wantedMorePairs(list, p)...)
	}
	// One by one: the last three are there, and what was put ahead of them is not.
	var list, whole []impl.CerPair
	for k := range 40 {
		p := pairOf(codeOf(constant(k)), codeOf(constant(k), constant(k)))
		list, whole = impl.CerPut(list, p), append(whole, p)
		for at, old := range whole {
			holdHas(t, "one by one", list, old.Base, old.Made, at >= len(whole)-3)
		}
		holdPairs(t, "one by one", list, true)
	}
}

// lentEntry and lentPair are such things whose lists have spare room, which a careless hand would write into.
func lentEntry(e impl.CacEntry) impl.CacEntry {
	return impl.CacEntry{Words: lentList(e.Words, 7001, 7002, 7003), Block: lentCode(e.Block)}
}

func lentPair(p impl.CerPair) impl.CerPair {
	return pairOf(lentCode(p.Base), lentCode(p.Made))
}

func lentKept(list []impl.CacEntry) []impl.CacEntry {
	out := lentList(list, justAt(7, 7), justAt(8, 8))
	for at := range out {
		out[at] = lentEntry(out[at])
	}
	return out
}

func lentPairs(list []impl.CerPair) []impl.CerPair {
	out := lentList(list, rightPairs()[0], rightPairs()[1])
	for at := range out {
		out[at] = lentPair(out[at])
	}
	return out
}

// spansOfKept and spansOfPairs are where all lists lie, with what stands in their spare room.
func spansOfKept(list ...impl.CacEntry) []span {
	out := spanOf(list)
	for _, e := range list[:cap(list)] {
		out = slices.Concat(out, spanOf(e.Words), spanOf(e.Block.Ops))
	}
	return out
}

func spansOfPairs(list ...impl.CerPair) []span {
	out := spanOf(list)
	for _, p := range list[:cap(list)] {
		out = slices.Concat(out, spanOf(p.Base.Ops), spanOf(p.Made.Ops))
	}
	return out
}

// wholeKept and wholePairs are copies of all that there is, the spare room of each list as well.
func wholeKept(list []impl.CacEntry) []impl.CacEntry {
	out := slices.Clone(list[:cap(list)])
	for at, e := range out {
		out[at].Words = slices.Clone(e.Words[:cap(e.Words)])
		out[at].Block.Ops = slices.Clone(e.Block.Ops[:cap(e.Block.Ops)])
	}
	return out
}

func wholePairs(list []impl.CerPair) []impl.CerPair {
	out := slices.Clone(list[:cap(list)])
	for at, p := range out {
		out[at].Base.Ops = slices.Clone(p.Base.Ops[:cap(p.Base.Ops)])
		out[at].Made.Ops = slices.Clone(p.Made.Ops[:cap(p.Made.Ops)])
	}
	return out
}

// apartKept and apartPairs are copies that share nothing with what they are copies of.
func apartKept(list []impl.CacEntry) []impl.CacEntry {
	var out []impl.CacEntry
	for _, e := range list {
		out = append(out, impl.CacEntry{Words: slices.Clone(e.Words), Block: turnedCode(e.Block, func(*impl.IrBlock) {})})
	}
	return out
}

func apartPairs(list []impl.CerPair) []impl.CerPair {
	var out []impl.CerPair
	for _, p := range list {
		out = append(out, pairOf(turnedCode(p.Base, func(*impl.IrBlock) {}), turnedCode(p.Made, func(*impl.IrBlock) {})))
	}
	return out
}

// spoil writes into all that a list has, its spare room as well.
func spoil[T any](list []T, with T) {
	for at := range list[:cap(list)] {
		list[:cap(list)][at] = with
	}
}

func spoilKept(list []impl.CacEntry) {
	for _, e := range list[:cap(list)] {
		spoil(e.Words, -77)
		spoil(e.Block.Ops, impl.IrOp{Kind: -77})
	}
	spoil(list, impl.CacEntry{Block: impl.IrBlock{Pc: -77}})
}

func spoilPairs(list []impl.CerPair) {
	for _, p := range list[:cap(list)] {
		spoil(p.Base.Ops, impl.IrOp{Kind: -77})
		spoil(p.Made.Ops, impl.IrOp{Kind: -77})
	}
	spoil(list, pairOf(impl.IrBlock{Pc: -77}, impl.IrBlock{}))
}

func TestP48NothingIsWrittenIntoOrShared(t *testing.T) {
	d := dice(484808408)
	for round := range 2000 {
		mem := lentList(d.anyMachine().Mem, 7, 8, 9)
		plain := d.anyKept(mem, d.below(7))
		if round%2 == 0 {
			plain = d.anyThings(d.below(8))
		}
		list := lentKept(plain)
		e := lentEntry(d.anyThings(1)[0])
		switch {
		case len(list) > 1 && round%3 == 0:
			e = list[d.below(len(list))]
		case len(list) > 1 && round%3 == 1:
			// What is given may share memory within itself; what is told may not.
			list[0].Words, list[0].Block.Ops = list[1].Words, list[1].Block.Ops
		}
		before, one, words := wholeKept(list), wholeKept(listed(e)), slices.Clone(mem[:cap(mem)])
		given := slices.Concat(spansOfKept(list...), spansOfKept(e), spanOf(mem))
		wantPut, wantDrop := apartKept(wantedMore(list, e)), apartKept(wantedDrop(list, mem))
		ok, found := impl.CacOk(list, mem), impl.CacFind(list, e.Block.Pc)
		putOne, putTwo := impl.CacPut(list, e), impl.CacPut(list, e)
		dropOne, dropTwo := impl.CacDrop(list, mem), impl.CacDrop(list, mem)
		holdSpans(t, "CacPut", spansOfKept(putOne...), slices.Concat(given, spansOfKept(putTwo...)))
		holdSpans(t, "CacDrop", spansOfKept(dropOne...), slices.Concat(given, spansOfKept(dropTwo...)))
		spoilKept(putOne)
		spoilKept(dropOne)
		if !sameKept(wholeKept(list), before) || !sameKept(wholeKept(listed(e)), one) || !slices.Equal(mem[:cap(mem)], words) {
			t.Fatalf("what was given was\n%+v\n%+v\nand is now\n%+v\n%+v", before, one, list, e)
		}
		if impl.CacOk(list, mem) != ok || impl.CacFind(list, e.Block.Pc) != found {
			t.Fatal("what is told once is not told twice")
		}
		runtime.KeepAlive(list)
		spoilKept(list)
		spoilKept(listed(e))
		spoil(mem, -77)
		if !sameKept(putTwo, wantPut) || !sameKept(dropTwo, wantDrop) {
			t.Fatalf("what was told was\n%+v\n%+v\nand is now\n%+v\n%+v", wantPut, wantDrop, putTwo, dropTwo)
		}
	}
}

func TestP51NothingIsWrittenIntoOrShared(t *testing.T) {
	d := dice(515105105)
	for round := range 1500 {
		var plain []impl.CerPair
		for range d.below(6) {
			plain = append(plain, d.anyPair())
		}
		list, p := lentPairs(plain), lentPair(d.anyPair())
		switch {
		case len(list) > 0 && round%3 == 0:
			p = list[d.below(len(list))]
		case round%3 == 1:
			p.Made = p.Base
		}
		before, one := wholePairs(list), wholePairs(pairs(p))
		given := slices.Concat(spansOfPairs(list...), spansOfPairs(p))
		want := apartPairs(wantedMorePairs(list, p))
		ok, has := impl.CerOk(list), impl.CerHas(list, p.Base, p.Made)
		first, second := impl.CerPut(list, p), impl.CerPut(list, p)
		holdSpans(t, "CerPut", spansOfPairs(first...), slices.Concat(given, spansOfPairs(second...)))
		spoilPairs(first)
		if !samePairs(wholePairs(list), before) || !samePairs(wholePairs(pairs(p)), one) {
			t.Fatalf("what was given was\n%+v\n%+v\nand is now\n%+v\n%+v", before, one, list, p)
		}
		if impl.CerOk(list) != ok || impl.CerHas(list, p.Base, p.Made) != has {
			t.Fatal("what is told once is not told twice")
		}
		runtime.KeepAlive(list)
		spoilPairs(list)
		spoilPairs(pairs(p))
		if !samePairs(second, want) {
			t.Fatalf("what was told was\n%+v\nand is now\n%+v", want, second)
		}
	}
}
