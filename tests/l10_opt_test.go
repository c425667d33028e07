package tests

import (
	"math"
	"runtime"
	"slices"
	"testing"

	"loop.example/latimer/impl"
)

// The signatures that the document gives; another one would not compile here.
var (
	_ func(impl.IrBlock) impl.IrBlock = impl.OptConst
	_ func(impl.IrBlock) impl.IrBlock = impl.OptCopy
	_ func(impl.IrBlock) impl.IrBlock = impl.OptSets
	_ func(impl.IrBlock) []bool       = impl.OptUsed
	_ func(impl.IrBlock) impl.IrBlock = impl.OptDead
	_ func(impl.IrBlock) impl.IrBlock = impl.OptAll
)

// ownWay is one of those that make code of code, and what the document asks of it.
type ownWay struct {
	name string
	do   func(impl.IrBlock) impl.IrBlock
	want func(impl.IrBlock) impl.IrBlock
}

func ownWays() []ownWay {
	return []ownWay{
		{"OptConst", impl.OptConst, wantedConst},
		{"OptCopy", impl.OptCopy, wantedCopy},
		{"OptSets", impl.OptSets, wantedSets},
		{"OptDead", impl.OptDead, wantedDead},
		{"OptAll", impl.OptAll, wantedAll},
	}
}

// knownWords are the words that hang on words alone, by the places where they are made.
func knownWords(b impl.IrBlock) map[int]int {
	out := map[int]int{}
	for place, o := range b.Ops {
		x, xKnown := out[o.X]
		y, yKnown := out[o.Y]
		switch {
		case o.Kind == 1:
			out[place] = o.K
		case o.Kind == 3 && xKnown && yKnown:
			out[place] = reckoned(o.K, x, y)
		}
	}
	return out
}

func wantedConst(b impl.IrBlock) impl.IrBlock {
	if !wantedCode(b) {
		return impl.IrBlock{}
	}
	out, words := turnedCode(b, func(*impl.IrBlock) {}), knownWords(b)
	for place, word := range words {
		out.Ops[place] = constant(word)
	}
	x, xKnown := words[b.X]
	y, yKnown := words[b.Y]
	switch {
	case b.End == 1 || !xKnown || b.End != 2 && !yKnown:
		return out
	case b.End == 2:
		return ended(out, 1, 0, 0, x)
	case b.End == 3 && x == y, b.End == 4 && x < y:
		return ended(out, 1, 0, 0, b.K)
	}
	return ended(out, 1, 0, 0, b.Pc+b.Len)
}

// takenAs is the place of what is used in the place of a word: from there on back to what got, or set, the register last.
func takenAs(b impl.IrBlock, place int) int {
	if b.Ops[place].Kind != 2 {
		return place
	}
	for at := place - 1; at >= 0; at-- {
		switch o := b.Ops[at]; {
		case o.Kind == 2 && o.K == b.Ops[place].K:
			return takenAs(b, at)
		case o.Kind == 8 && o.K == b.Ops[place].K:
			return takenAs(b, o.X)
		}
	}
	return place
}

func wantedCopy(b impl.IrBlock) impl.IrBlock {
	if !wantedCode(b) {
		return impl.IrBlock{}
	}
	return renumbered(b, func(place int) int { return takenAs(b, place) })
}

// onlyOps is a piece of code with some of its operations, none of which is of another one.
func onlyOps(b impl.IrBlock, stays func(place int) bool) impl.IrBlock {
	out := renumbered(b, func(place int) int {
		ahead := 0
		for at := range place {
			if stays(at) {
				ahead++
			}
		}
		return ahead
	})
	ops := out.Ops
	out.Ops = nil
	for place, o := range ops {
		if stays(place) {
			out.Ops = append(out.Ops, o)
		}
	}
	return out
}

// setUnseen says whether what is set at a place is set again before anybody can see it.
func setUnseen(b impl.IrBlock, place int) bool {
	for _, o := range b.Ops[place+1:] {
		switch {
		case o.Kind == 4, o.Kind == 5, o.Kind == 2 && o.K == b.Ops[place].K:
			return false
		case o.Kind == 8 && o.K == b.Ops[place].K:
			return true
		}
	}
	return false
}

func wantedSets(b impl.IrBlock) impl.IrBlock {
	if !wantedCode(b) {
		return impl.IrBlock{}
	}
	return onlyOps(b, func(place int) bool { return b.Ops[place].Kind != 8 || !setUnseen(b, place) })
}

// wantedUsed marks what is used by what is, until nothing is marked any more.
func wantedUsed(b impl.IrBlock) []bool {
	if !wantedCode(b) {
		return nil
	}
	used := make([]bool, len(b.Ops))
	mark := func(row irRow, x, y int) bool {
		more := row.x && !used[x] || row.y && !used[y]
		if row.x {
			used[x] = true
		}
		if row.y {
			used[y] = true
		}
		return more
	}
	for place, o := range b.Ops {
		used[place] = o.Kind >= 4
	}
	for more := mark(endRows[b.End], b.X, b.Y) || len(b.Ops) > 0; more; {
		more = false
		for place, o := range b.Ops {
			if used[place] && mark(kindRows[o.Kind], o.X, o.Y) {
				more = true
			}
		}
	}
	return used
}

func wantedDead(b impl.IrBlock) impl.IrBlock {
	if !wantedCode(b) {
		return impl.IrBlock{}
	}
	used := wantedUsed(b)
	return onlyOps(b, func(place int) bool { return used[place] })
}

func wantedAll(b impl.IrBlock) impl.IrBlock {
	return wantedDead(wantedSets(wantedDead(wantedConst(wantedCopy(b)))))
}

// holdMade fails unless a piece of code is as wanted, is ok, and may stand for the one that it is made of, both ways.
func holdMade(t *testing.T, what string, b, got, want impl.IrBlock) {
	t.Helper()
	if !sameBlock(got, want) {
		t.Fatalf("%s: of\n%+v it is\n%+v, not\n%+v", what, b, got, want)
	}
	if !impl.IrOk(got) || !wantedCode(got) {
		t.Fatalf("%s: of\n%+v it is\n%+v, which is not ok", what, b, got)
	}
	holdStands(t, what, b, got, true)
}

// holdUsed fails unless these, and no others, are used.
func holdUsed(t *testing.T, what string, b impl.IrBlock, want ...bool) {
	t.Helper()
	if got := impl.OptUsed(b); !slices.Equal(got, want) {
		t.Fatalf("%s: of %+v %v are used, not %v", what, b, got, want)
	}
}

// holdReckonedAhead fails unless nothing is reckoned of two words, and there are as many operations.
func holdReckonedAhead(t *testing.T, what string, b, got impl.IrBlock) {
	t.Helper()
	if len(got.Ops) != len(b.Ops) {
		t.Fatalf("%s: %d operations are made of %d", what, len(got.Ops), len(b.Ops))
	}
	for _, o := range got.Ops {
		if o.Kind == impl.IrDo && got.Ops[o.X].Kind == impl.IrConst && got.Ops[o.Y].Kind == impl.IrConst {
			t.Fatalf("%s: two words are reckoned in %+v", what, got)
		}
	}
	if again := impl.OptConst(got); !sameBlock(again, got) {
		t.Fatalf("%s: once more it is\n%+v, not\n%+v", what, again, got)
	}
}

// usesOf are the places of the words that code uses, each with the place of what uses it; End is behind all.
func usesOf(b impl.IrBlock) [][2]int {
	var out [][2]int
	add := func(row irRow, x, y, by int) {
		if row.x {
			out = append(out, [2]int{x, by})
		}
		if row.y {
			out = append(out, [2]int{y, by})
		}
	}
	for place, o := range b.Ops {
		add(kindRows[o.Kind], o.X, o.Y, place)
	}
	add(endRows[b.End], b.X, b.Y, len(b.Ops))
	return out
}

// holdTaken fails unless no register that is got is used once it was set, or got, ahead of that, and there are as many operations of the same kinds.
func holdTaken(t *testing.T, what string, b, got impl.IrBlock) {
	t.Helper()
	if len(got.Ops) != len(b.Ops) {
		t.Fatalf("%s: %d operations are made of %d", what, len(got.Ops), len(b.Ops))
	}
	for place, o := range got.Ops {
		if was := b.Ops[place]; o.Kind != was.Kind || o.K != was.K || o.At != was.At {
			t.Fatalf("%s: %+v does not stay, but is %+v", what, was, o)
		}
	}
	for _, use := range usesOf(got) {
		word := got.Ops[use[0]]
		for _, ahead := range got.Ops[:use[0]] {
			if word.Kind == impl.IrGet && (ahead.Kind == impl.IrGet || ahead.Kind == impl.IrSet) && ahead.K == word.K {
				t.Fatalf("%s: the word of place %d is used in %+v", what, use[0], got)
			}
		}
	}
}

// holdSeenSets fails unless behind what is set no register is set again, but behind an operation that gets it, loads or stores; and unless only what sets is left out.
func holdSeenSets(t *testing.T, what string, b, got impl.IrBlock) {
	t.Helper()
	for place, o := range got.Ops {
		if o.Kind == impl.IrSet && setUnseen(got, place) {
			t.Fatalf("%s: nobody sees what place %d sets in %+v", what, place, got)
		}
	}
	count := func(b impl.IrBlock) [9]int {
		var out [9]int
		for _, o := range b.Ops {
			out[o.Kind]++
		}
		return out
	}
	before, after := count(b), count(got)
	if after[impl.IrSet] > before[impl.IrSet] {
		t.Fatalf("%s: %d are set, where %d were", what, after[impl.IrSet], before[impl.IrSet])
	}
	before[impl.IrSet], after[impl.IrSet] = 0, 0
	if before != after {
		t.Fatalf("%s: of each kind there were %v, and now %v", what, before, after)
	}
}

// holdNoneUnused fails unless just the operations that are used stay, in their order, and all of these are used then.
func holdNoneUnused(t *testing.T, what string, b, got impl.IrBlock) {
	t.Helper()
	var stay []impl.IrOp
	for place, used := range impl.OptUsed(b) {
		if used {
			stay = append(stay, b.Ops[place])
		}
	}
	alike := func(a, b impl.IrOp) bool { return a.Kind == b.Kind && a.K == b.K && a.At == b.At }
	if !slices.EqualFunc(got.Ops, stay, alike) {
		t.Fatalf("%s: %+v stay, not %+v", what, got.Ops, stay)
	}
	if slices.Contains(impl.OptUsed(got), false) {
		t.Fatalf("%s: not all of %+v are used", what, got)
	}
	if again := impl.OptDead(got); !sameBlock(again, got) {
		t.Fatalf("%s: once more it is\n%+v, not\n%+v", what, again, got)
	}
}

// holdOwnHand fails unless each way makes of code what the document asks for, once, twice and one behind the other; it is all that is made.
func holdOwnHand(t *testing.T, what string, b impl.IrBlock) []impl.IrBlock {
	t.Helper()
	out := []impl.IrBlock{b}
	for _, way := range ownWays() {
		got := way.do(b)
		holdMade(t, what+": "+way.name, b, got, way.want(b))
		if len(got.Ops) > len(b.Ops) {
			t.Fatalf("%s: %s makes %d operations of %d", what, way.name, len(got.Ops), len(b.Ops))
		}
		out = append(out, got)
	}
	holdUsed(t, what, b, wantedUsed(b)...)
	holdReckonedAhead(t, what, b, out[1])
	holdTaken(t, what, b, out[2])
	holdSeenSets(t, what, b, out[3])
	holdNoneUnused(t, what, b, out[4])
	all := out[5]
	if one := impl.OptDead(impl.OptSets(impl.OptDead(impl.OptConst(impl.OptCopy(b))))); !sameBlock(one, all) {
		t.Fatalf("%s: way by way it is\n%+v, not\n%+v", what, one, all)
	}
	twice := impl.OptAll(all)
	holdMade(t, what+": twice", all, twice, wantedAll(all))
	if len(twice.Ops) > len(all.Ops) {
		t.Fatalf("%s: %d operations are made of %d", what, len(twice.Ops), len(all.Ops))
	}
	out = append(out, twice)
	for order, c := range map[string][2]impl.IrBlock{
		"OptSets of OptConst": {impl.OptSets(impl.OptConst(b)), wantedSets(wantedConst(b))},
		"OptConst of OptDead": {impl.OptConst(impl.OptDead(b)), wantedConst(wantedDead(b))},
		"OptDead of OptCopy":  {impl.OptDead(impl.OptCopy(b)), wantedDead(wantedCopy(b))},
		"OptCopy of OptSets":  {impl.OptCopy(impl.OptSets(b)), wantedCopy(wantedSets(b))},
	} {
		holdMade(t, what+": "+order, b, c[0], c[1])
		out = append(out, c[0])
	}
	return out
}

// made is a piece of code, and what a way makes of it.
type made struct {
	what string
	b    impl.IrBlock
	want impl.IrBlock
}

// holdAllMade fails unless a way makes what is wanted of each.
func holdAllMade(t *testing.T, do func(impl.IrBlock) impl.IrBlock, list []made) {
	t.Helper()
	d := dice(101010101)
	for _, c := range list {
		if !wantedCode(c.b) {
			t.Fatalf("%s: not ok: %+v", c.what, c.b)
		}
		got := do(c.b)
		holdMade(t, c.what, c.b, got, c.want)
		holdOwnHand(t, c.what, c.b)
		for _, m := range d.manyAt(c.b, 12) {
			holdAlike(t, c.what, c.b, got, m)
		}
	}
}

func TestP5OfCodeThatIsNotOk(t *testing.T) {
	bad := badCodes()
	bad["least At"] = codeOf(impl.IrOp{Kind: impl.IrConst, At: math.MinInt})
	bad["of a place past all"] = codeOf(letsOut(math.MaxInt, 0))
	bad["End of a place past all"] = on(impl.EndWord, math.MaxInt, 0, 0, constant(3))
	bad["a hundred thousand"] = codeOf(slices.Repeat(opsOf(constant(3)), 100000)...)
	bad["64 operations"] = codeOf(slices.Repeat(opsOf(constant(3)), 64)...)
	bad["65 operations"] = codeOf(slices.Repeat(opsOf(constant(3)), 65)...)
	for what, b := range bad {
		for _, way := range ownWays() {
			if got := way.do(b); !sameBlock(got, impl.IrBlock{}) {
				t.Fatalf("%s of %s: %+v", way.name, what, got)
			}
		}
		if got := impl.OptUsed(b); len(got) != 0 {
			t.Fatalf("OptUsed of %s: %v", what, got)
		}
	}
}

func TestP5OfNoOperationsAndOfAll(t *testing.T) {
	for _, none := range []impl.IrBlock{codeOf(), {Pc: 0, Len: 1, End: impl.EndGo}, {Pc: 63, Len: 1, End: impl.EndGo, K: 65535}, {Pc: 56, Len: 8, Ops: []impl.IrOp{}, End: impl.EndGo, K: 64}} {
		for _, way := range ownWays() {
			holdMade(t, way.name+" of none", none, way.do(none), none)
		}
		holdUsed(t, "none", none)
		holdOwnHand(t, "none", none)
	}
	for what, b := range plainCodes() {
		holdOwnHand(t, what, b)
	}
	// 48 of each kind, or as near to that as may be, and the End that is of the last word.
	for kind, row := range kindRows {
		ops := opsOf(gets(1))
		for len(ops) < 48 {
			o := impl.IrOp{Kind: kind, K: row.least}
			if row.word && row.x {
				o.X = len(ops) - 1
			}
			if row.y && row.word {
				o.Y = len(ops) - 1
			}
			ops = append(ops, o)
		}
		last := 0
		if row.word {
			last = 47
		}
		for _, end := range [][4]int{{impl.EndGo, 0, 0, 8}, {impl.EndWord, last, 0, 0}, {impl.EndSame, last, 0, 9}, {impl.EndLess, 0, last, 9}} {
			holdOwnHand(t, "48 operations", on(end[0], end[1], end[2], end[3], ops...))
		}
	}
	all := on(impl.EndWord, 47, 0, 0, append(manyOps(47), gets(3))...)
	used := impl.OptUsed(all)
	if len(used) != 48 || slices.Contains(used, false) {
		t.Fatalf("all 48 are used, but %v", used)
	}
	holdMade(t, "all 48 are used", all, impl.OptDead(all), all)
	unused := codeOf(slices.Repeat(opsOf(gets(2)), 48)...)
	if used := impl.OptUsed(unused); len(used) != 48 || slices.Contains(used, true) {
		t.Fatalf("none of 48 is used, but %v", used)
	}
	holdMade(t, "none of 48 is used", unused, impl.OptDead(unused), codeOf())
}

func TestP43WhatIsReckoned(t *testing.T) {
	words := []int{0, 1, 2, 3, 7, 255, 256, 32767, 32768, 65534, 65535}
	for _, op := range allOps {
		for _, x := range words {
			for _, y := range words {
				b := codeOf(constant(x), constant(y), reckons(op, 0, 1), letsOut(2, 1))
				want := codeOf(constant(x), constant(y), constant(reckoned(op, x, y)), letsOut(2, 1))
				if got := impl.OptConst(b); !sameBlock(got, want) {
					t.Fatalf("%d of %d and %d: %+v, not %+v", op, x, y, got, want)
				}
				holdReckonedAhead(t, "two words", b, impl.OptConst(b))
			}
			twice := codeOf(constant(x), reckons(op, 0, 0), sets(2, 1))
			holdMade(t, "a word and itself", twice, impl.OptConst(twice), codeOf(constant(x), constant(reckoned(op, x, x)), sets(2, 1)))
			for _, o := range opsOf(gets(0), letsIn(2)) {
				for _, alone := range []impl.IrBlock{
					codeOf(constant(x), o, reckons(op, 0, 1), sets(2, 2)),
					codeOf(constant(x), o, reckons(op, 1, 0), sets(2, 2)),
					codeOf(constant(x), o, reckons(op, 1, 1), sets(2, 2)),
				} {
					// Even where it is known what that comes to, as with 0 times anything.
					holdMade(t, "one word alone", alone, impl.OptConst(alone), alone)
				}
			}
		}
		loaded := codeOf(constant(9), loads(0, 1), reckons(op, 0, 1), reckons(op, 1, 0), sets(1, 2), sets(2, 3))
		holdMade(t, "a word that is loaded", loaded, impl.OptConst(loaded), loaded)
	}
}

func TestP43ByHand(t *testing.T) {
	add, sub, mul, and, xor := impl.OpAdd, impl.OpSub, impl.OpMul, impl.OpAnd, impl.OpXor
	three, four := constant(3), constant(4)
	holdAllMade(t, impl.OptConst, []made{
		{"3 less 4", codeOf(three, four, reckons(sub, 0, 1), sets(0, 2)), codeOf(three, four, constant(65535), sets(0, 2))},
		{"4 less 3", codeOf(three, four, reckons(sub, 1, 0), sets(0, 2)), codeOf(three, four, constant(1), sets(0, 2))},
		{"a sum that wraps", codeOf(constant(65535), constant(65535), reckons(add, 0, 1), sets(0, 2)), codeOf(constant(65535), constant(65535), constant(65534), sets(0, 2))},
		{"a product that wraps", codeOf(constant(256), reckons(mul, 0, 0), sets(0, 1)), codeOf(constant(256), constant(0), sets(0, 1))},
		{"nobody uses it", codeOf(three, four, reckons(and, 0, 1)), codeOf(three, four, constant(0))},
		{"made just ahead", codeOf(three, reckons(add, 0, 0), reckons(mul, 1, 0), sets(0, 2)), codeOf(three, constant(6), constant(18), sets(0, 2))},
		{"both made ahead", codeOf(three, four, reckons(add, 0, 1), reckons(xor, 1, 0), reckons(mul, 2, 3), letsOut(4, 0)), codeOf(three, four, constant(7), constant(7), constant(49), letsOut(4, 0))},
		{"a chain", codeOf(constant(1), reckons(add, 0, 0), reckons(add, 1, 1), reckons(add, 2, 2), reckons(add, 3, 3), sets(3, 4)), codeOf(constant(1), constant(2), constant(4), constant(8), constant(16), sets(3, 4))},
		{"a chain with a register in it", codeOf(three, reckons(add, 0, 0), gets(0), reckons(add, 1, 2), reckons(add, 3, 1), reckons(add, 1, 1), sets(3, 4), sets(2, 5)), codeOf(three, constant(6), gets(0), reckons(add, 1, 2), reckons(add, 3, 1), constant(12), sets(3, 4), sets(2, 5))},
		{"a register that was set to a word", codeOf(three, sets(0, 0), gets(0), reckons(add, 0, 2), sets(1, 3)), codeOf(three, sets(0, 0), gets(0), reckons(add, 0, 2), sets(1, 3))},
		{"a register less itself", codeOf(gets(0), reckons(sub, 0, 0), sets(1, 1)), codeOf(gets(0), reckons(sub, 0, 0), sets(1, 1))},
		{"what reaches out stays", eachKind(), eachKind()},
		{"all kinds with a word that is reckoned", codeOf(three, four, reckons(add, 0, 1), loads(2, 1), stores(2, 2, 2), letsIn(1), letsOut(2, 2), sets(1, 2)), codeOf(three, four, constant(7), loads(2, 1), stores(2, 2, 2), letsIn(1), letsOut(2, 2), sets(1, 2))},
	})
	turned := impl.OptConst(codeOf(gets(0), three, four, reckons(mul, 1, 2), letsOut(3, 1))).Ops[3]
	if (turned != impl.IrOp{Kind: impl.IrConst, K: 12}) {
		t.Fatalf("what was turned is %+v", turned)
	}
}

func TestP43HowItGoesOn(t *testing.T) {
	words := opsOf(constant(3), constant(4), gets(0), reckons(impl.OpAdd, 0, 1), constant(3), constant(0), constant(65535), letsIn(1))
	after := slices.Clone(words)
	after[3] = constant(7)
	turns := func(what string, end, x, y, k int, wantEnd, wantX, wantY, wantK int) made {
		return made{what, on(end, x, y, k, words...), on(wantEnd, wantX, wantY, wantK, after...)}
	}
	stays := func(what string, end, x, y, k int) made { return turns(what, end, x, y, k, end, x, y, k) }
	goes := func(what string, end, x, y, k, to int) made { return turns(what, end, x, y, k, impl.EndGo, 0, 0, to) }
	less, same, word := impl.EndLess, impl.EndSame, impl.EndWord
	holdAllMade(t, impl.OptConst, []made{
		goes("at a word", word, 1, 0, 0, 4),
		goes("at what is reckoned", word, 3, 0, 0, 7),
		goes("at 0", word, 5, 0, 0, 0),
		goes("at the last word", word, 6, 0, 0, 65535),
		stays("at a register", word, 2, 0, 0),
		stays("at what comes in", word, 7, 0, 0),
		goes("the same", same, 0, 4, 20, 20),
		goes("the same, the other way round", same, 4, 0, 20, 20),
		goes("a word and itself", same, 1, 1, 65535, 65535),
		goes("not the same", same, 0, 1, 20, 8),
		goes("not the same, the other way round", same, 1, 0, 20, 8),
		goes("not the same, as it is reckoned", same, 3, 1, 0, 8),
		stays("a word and a register", same, 0, 2, 20),
		stays("a register and a word", same, 2, 0, 20),
		stays("a register and itself", same, 2, 2, 20),
		stays("a word and what comes in", same, 5, 7, 20),
		goes("less", less, 0, 1, 20, 20),
		goes("less, as it is reckoned", less, 1, 3, 0, 0),
		goes("0 and the last word", less, 5, 6, 33, 33),
		goes("the last word and 0", less, 6, 5, 33, 8),
		goes("more", less, 1, 0, 20, 8),
		goes("not less, as they are the same", less, 0, 4, 20, 8),
		goes("not less than itself", less, 1, 1, 20, 8),
		stays("less: a word and a register", less, 0, 2, 20),
		stays("less: a register and a word", less, 2, 0, 20),
		stays("less: a register and itself", less, 2, 2, 20),
		// Nothing is less than 0, but no word tells what it is.
		stays("less: a register and 0", less, 2, 5, 20),
		stays("at a place", impl.EndGo, 0, 0, 20),
		stays("at a place that is a word's", impl.EndGo, 0, 0, 65535),
	})
	// The place behind the code, wherever that is, the end of all places among them.
	for _, b := range []impl.IrBlock{{Pc: 0, Len: 1}, {Pc: 56, Len: 8}, {Pc: 63, Len: 1}, {Pc: 20, Len: 5}} {
		for _, end := range []int{same, less} {
			b.Ops = opsOf(constant(9), constant(8))
			b = ended(b, end, 0, 1, 40)
			holdMade(t, "the place behind", b, impl.OptConst(b), ended(b, impl.EndGo, 0, 0, b.Pc+b.Len))
		}
	}
}

func TestP44ByHand(t *testing.T) {
	add, xor := impl.OpAdd, impl.OpXor
	a, b, seven := gets(0), gets(1), constant(7)
	holdAllMade(t, impl.OptCopy, []made{
		{"got twice", codeOf(a, a, letsOut(0, 0), letsOut(1, 1)), codeOf(a, a, letsOut(0, 0), letsOut(0, 1))},
		{"got three times", codeOf(a, a, a, reckons(add, 1, 2), sets(1, 3)), codeOf(a, a, a, reckons(add, 0, 0), sets(1, 3))},
		{"set and then got", codeOf(seven, sets(0, 0), a, letsOut(2, 1)), codeOf(seven, sets(0, 0), a, letsOut(0, 1))},
		{"got, set and got", codeOf(a, seven, sets(0, 1), a, letsOut(0, 1), letsOut(3, 2)), codeOf(a, seven, sets(0, 1), a, letsOut(0, 1), letsOut(1, 2))},
		{"set, got and set, and got", codeOf(seven, sets(0, 0), a, b, sets(0, 3), a, letsOut(2, 0), letsOut(5, 0)), codeOf(seven, sets(0, 0), a, b, sets(0, 3), a, letsOut(0, 0), letsOut(3, 0))},
		{"set twice and got", codeOf(seven, constant(8), sets(0, 0), sets(0, 1), a, letsOut(4, 1)), codeOf(seven, constant(8), sets(0, 0), sets(0, 1), a, letsOut(1, 1))},
		{"set twice, and got between", codeOf(seven, sets(0, 0), a, b, sets(0, 3), letsOut(2, 1)), codeOf(seven, sets(0, 0), a, b, sets(0, 3), letsOut(0, 1))},
		{"another register got between", codeOf(a, b, a, letsOut(1, 0), letsOut(2, 0)), codeOf(a, b, a, letsOut(1, 0), letsOut(0, 0))},
		{"another register set between", codeOf(a, seven, sets(1, 1), a, b, letsOut(3, 0), letsOut(4, 0)), codeOf(a, seven, sets(1, 1), a, b, letsOut(0, 0), letsOut(1, 0))},
		{"got behind a load", codeOf(a, loads(0, 1), a, letsOut(2, 2)), codeOf(a, loads(0, 1), a, letsOut(0, 2))},
		{"set, and got behind a load", codeOf(seven, sets(0, 0), loads(0, 1), a, letsOut(3, 2)), codeOf(seven, sets(0, 0), loads(0, 1), a, letsOut(0, 2))},
		{"got behind a store", codeOf(a, stores(0, 0, 1), a, letsOut(2, 2)), codeOf(a, stores(0, 0, 1), a, letsOut(0, 2))},
		{"got behind what comes in", codeOf(a, letsIn(1), a, letsOut(2, 2)), codeOf(a, letsIn(1), a, letsOut(0, 2))},
		{"got behind what goes out", codeOf(a, letsOut(0, 1), a, letsOut(2, 2)), codeOf(a, letsOut(0, 1), a, letsOut(0, 2))},
		{"set to what was loaded", codeOf(seven, loads(0, 1), sets(2, 1), gets(2), letsOut(3, 2)), codeOf(seven, loads(0, 1), sets(2, 1), gets(2), letsOut(1, 2))},
		{"set to what came in", codeOf(letsIn(0), sets(2, 0), gets(2), letsOut(2, 2)), codeOf(letsIn(0), sets(2, 0), gets(2), letsOut(0, 2))},
		{"set to what is reckoned", codeOf(a, reckons(add, 0, 0), sets(0, 1), a, letsOut(3, 2)), codeOf(a, reckons(add, 0, 0), sets(0, 1), a, letsOut(1, 2))},
		{"set to what it is", codeOf(a, sets(0, 0), a, letsOut(2, 2)), codeOf(a, sets(0, 0), a, letsOut(0, 2))},
		{"set to what was got once more", codeOf(a, a, sets(1, 1), b, letsOut(3, 2)), codeOf(a, a, sets(1, 0), b, letsOut(0, 2))},
		{"set back to what was got", codeOf(a, seven, sets(0, 1), sets(0, 0), a, letsOut(4, 2)), codeOf(a, seven, sets(0, 1), sets(0, 0), a, letsOut(0, 2))},
		{"two registers, each set to the other one", codeOf(a, b, sets(0, 1), sets(1, 0), a, b, letsOut(4, 0), letsOut(5, 0)), codeOf(a, b, sets(0, 1), sets(1, 0), a, b, letsOut(1, 0), letsOut(0, 0))},
		{"what was got ahead is used behind what is set", codeOf(a, seven, sets(0, 1), letsOut(0, 2)), codeOf(a, seven, sets(0, 1), letsOut(0, 2))},
		{"got ahead of what is set alone", codeOf(a, letsOut(0, 1), seven, sets(0, 2)), codeOf(a, letsOut(0, 1), seven, sets(0, 2))},
		{"neither got nor set ahead", codeOf(a, sets(1, 0), gets(2), gets(3), letsOut(2, 0), letsOut(3, 0)), codeOf(a, sets(1, 0), gets(2), gets(3), letsOut(2, 0), letsOut(3, 0))},
		{"nobody uses what is got", codeOf(a, a, a), codeOf(a, a, a)},
		{"the last register", codeOf(gets(3), gets(3), letsOut(1, 0)), codeOf(gets(3), gets(3), letsOut(0, 0))},
		{"a chain over all registers", codeOf(seven, sets(0, 0), a, sets(1, 2), b, sets(2, 4), gets(2), sets(3, 6), gets(3), letsOut(8, 0)), codeOf(seven, sets(0, 0), a, sets(1, 0), b, sets(2, 0), gets(2), sets(3, 0), gets(3), letsOut(0, 0))},
		{"a chain through what is reckoned", codeOf(a, reckons(add, 0, 0), sets(0, 1), a, reckons(add, 3, 3), sets(0, 4), a, reckons(xor, 6, 0), sets(0, 7)), codeOf(a, reckons(add, 0, 0), sets(0, 1), a, reckons(add, 1, 1), sets(0, 4), a, reckons(xor, 4, 0), sets(0, 7))},
		{"a chain of what is got", codeOf(a, a, sets(0, 1), a, a, sets(0, 4), a, letsOut(6, 0)), codeOf(a, a, sets(0, 0), a, a, sets(0, 0), a, letsOut(0, 0))},
		{"two words that are the same are two", codeOf(seven, seven, letsOut(1, 0)), codeOf(seven, seven, letsOut(1, 0))},
		{"what is reckoned twice is two", codeOf(a, reckons(add, 0, 0), reckons(add, 0, 0), letsOut(2, 0)), codeOf(a, reckons(add, 0, 0), reckons(add, 0, 0), letsOut(2, 0))},
	})
}

// What was got or set is used by each Kind and each End, by X alone, by Y alone and by both.
func TestP44WhoUsesIt(t *testing.T) {
	// Place 4 is to be taken as place 1; place 2 stays.
	ahead := opsOf(constant(9), gets(1), gets(2), sets(1, 1), gets(1))
	taken := func(place int) int {
		if place == 4 {
			return 1
		}
		return place
	}
	var list []made
	for _, xy := range [][2]int{{4, 0}, {0, 4}, {4, 4}, {4, 2}, {2, 4}, {2, 2}, {0, 0}, {1, 4}} {
		for kind, row := range kindRows {
			if !row.x {
				continue
			}
			o, want := impl.IrOp{Kind: kind, X: xy[0], K: row.least}, impl.IrOp{Kind: kind, X: taken(xy[0]), K: row.least}
			if row.y {
				o.Y, want.Y = xy[1], taken(xy[1])
			}
			if row.at {
				o.At, want.At = 2, 2
			}
			list = append(list, made{"by an operation", codeOf(append(slices.Clone(ahead), o)...), codeOf(append(slices.Clone(ahead), want)...)})
		}
		for end, row := range endRows {
			if !row.x {
				continue
			}
			b, want := on(end, xy[0], 0, 0, ahead...), on(end, taken(xy[0]), 0, 0, ahead...)
			if row.y {
				b.Y, want.Y, b.K, want.K = xy[1], taken(xy[1]), 20, 20
			}
			list = append(list, made{"by End", b, want})
		}
	}
	list = append(list, made{"by none", codeOf(ahead...), codeOf(ahead...)})
	// A register at place 0 that is got once more: what has no X or Y has 0 there, as before.
	first := opsOf(gets(0), gets(0), letsIn(1), constant(3))
	list = append(list, made{"what has none", codeOf(first...), codeOf(first...)})
	holdAllMade(t, impl.OptCopy, list)
}

func TestP45ByHand(t *testing.T) {
	a, b, seven, eight := gets(0), gets(1), constant(7), constant(8)
	// Set to 7, and to 8 behind what is between; and what is left of that.
	set := func(between ...impl.IrOp) impl.IrBlock {
		return codeOf(slices.Concat(opsOf(seven, eight, sets(0, 0)), between, opsOf(sets(0, 1)))...)
	}
	left := func(between ...impl.IrOp) impl.IrBlock {
		return codeOf(slices.Concat(opsOf(seven, eight), between, opsOf(sets(0, 1)))...)
	}
	stays := func(what string, b impl.IrBlock) made { return made{what, b, b} }
	holdAllMade(t, impl.OptSets, []made{
		{"nothing between", set(), left()},
		stays("got between", set(a)),
		stays("got first, and others between", set(a, constant(1), letsIn(2))),
		{"another one got between", set(b), left(b)},
		{"all others got between", set(b, gets(2), gets(3)), left(b, gets(2), gets(3))},
		stays("it among others got between", set(b, a, gets(3))),
		stays("a load between", set(loads(0, 1))),
		stays("a store between", set(stores(0, 1, 1))),
		stays("a load between, whose address is missed", codeOf(constant(64), sets(0, 0), loads(0, 1), seven, sets(0, 3))),
		{"a word that comes in between", set(letsIn(1)), left(letsIn(1))},
		{"a word that goes out between", set(letsOut(0, 1)), left(letsOut(0, 1))},
		{"what is reckoned between", set(reckons(impl.OpAdd, 0, 1)), left(reckons(impl.OpAdd, 0, 1))},
		{"a word between", set(constant(5)), left(constant(5))},
		{"another one set between", set(sets(1, 0)), left(sets(1, 0))},
		{"set three times", set(sets(0, 0)), left()},
		{"set three times, others between", set(letsIn(0), sets(0, 3), sets(2, 3)), left(letsIn(0), sets(2, 2))},
		stays("set three times, got twice", set(a, sets(0, 3), a)),
		{"set three times, got behind the first", set(a, sets(0, 0)), set(a)},
		{"set three times, got behind the second", set(sets(0, 0), a), set(a)},
		{"set three times, loaded behind the second", set(sets(0, 0), loads(1, 0)), set(loads(1, 0))},
		{"set twice to what it is", codeOf(a, sets(0, 0), sets(0, 0)), codeOf(a, sets(0, 0))},
		stays("set once", codeOf(seven, sets(0, 0))),
		stays("each once", codeOf(seven, sets(0, 0), sets(1, 0), sets(2, 0), sets(3, 0))),
		{"each twice", codeOf(seven, sets(0, 0), sets(1, 0), sets(2, 0), sets(3, 0), sets(3, 0), sets(2, 0), sets(1, 0), sets(0, 0)), codeOf(seven, sets(3, 0), sets(2, 0), sets(1, 0), sets(0, 0))},
		{"each twice, one got between", codeOf(seven, sets(0, 0), sets(1, 0), sets(2, 0), sets(3, 0), gets(2), sets(3, 0), sets(2, 5), sets(1, 0), sets(0, 0)), codeOf(seven, sets(2, 0), gets(2), sets(3, 0), sets(2, 2), sets(1, 0), sets(0, 0))},
		{"set twice ahead of a load", codeOf(seven, sets(0, 0), eight, sets(0, 2), loads(0, 1)), codeOf(seven, eight, sets(0, 1), loads(0, 1))},
		{"set twice behind a store", codeOf(seven, stores(0, 0, 1), sets(0, 0), eight, sets(0, 3)), codeOf(seven, stores(0, 0, 1), eight, sets(0, 2))},
		{"set twice on both sides of a load", codeOf(seven, sets(0, 0), sets(0, 0), loads(0, 1), sets(0, 0), sets(0, 3)), codeOf(seven, sets(0, 0), loads(0, 1), sets(0, 2))},
		{"got ahead of both", codeOf(a, letsOut(0, 0), seven, sets(0, 2), sets(0, 0)), codeOf(a, letsOut(0, 0), seven, sets(0, 0))},
		{"got behind both", codeOf(seven, b, sets(0, 0), sets(0, 1), a, letsOut(4, 1)), codeOf(seven, b, sets(0, 1), a, letsOut(3, 1))},
		stays("nothing is set", withoutOp(eachKind(), 7)),
		stays("what is left out stands nowhere", eachKind()),
	})
}

// What is of words behind what is left out has them at their new places; what has none has 0, as before.
func TestP45NewPlaces(t *testing.T) {
	ahead := opsOf(constant(9), sets(2, 0), gets(1), sets(2, 2), letsIn(0), gets(3), sets(2, 5))
	after := opsOf(constant(9), gets(1), letsIn(0), gets(3), sets(2, 3))
	var list []made
	// The words at 0, 2, 4 and 5 are at 0 to 3 then.
	for x, wasX := range []int{0, 2, 4, 5} {
		for y, wasY := range []int{0, 2, 4, 5} {
			for kind, row := range kindRows {
				o, want := impl.IrOp{Kind: kind, K: row.least}, impl.IrOp{Kind: kind, K: row.least}
				if row.x {
					o.X, want.X = wasX, x
				}
				if row.y {
					o.Y, want.Y = wasY, y
				}
				if row.at {
					o.At, want.At = 2, 2
				}
				list = append(list, made{"an operation", codeOf(append(slices.Clone(ahead), o)...), codeOf(append(slices.Clone(after), want)...)})
			}
			for end, row := range endRows {
				b, want := on(end, 0, 0, min(row.most, 20), ahead...), on(end, 0, 0, min(row.most, 20), after...)
				if row.x {
					b.X, want.X = wasX, x
				}
				if row.y {
					b.Y, want.Y = wasY, y
				}
				list = append(list, made{"End", b, want})
			}
		}
	}
	holdAllMade(t, impl.OptSets, list)
}

func TestP46WhoIsUsed(t *testing.T) {
	yes, no := true, false
	a, b, seven := gets(0), gets(1), constant(7)
	and := impl.OpAnd
	for _, c := range []struct {
		what string
		b    impl.IrBlock
		want []bool
	}{
		{"a word alone", codeOf(seven), []bool{no}},
		{"a register alone", codeOf(a), []bool{no}},
		{"what is reckoned alone", codeOf(a, seven, reckons(and, 0, 1)), []bool{no, no, no}},
		{"a word that comes in", codeOf(letsIn(1)), []bool{yes}},
		{"a word that is loaded", codeOf(seven, loads(0, 1)), []bool{yes, yes}},
		{"a store", codeOf(seven, a, stores(0, 1, 1)), []bool{yes, yes, yes}},
		{"a store of one word", codeOf(seven, a, stores(1, 1, 1)), []bool{no, yes, yes}},
		{"what goes out", codeOf(seven, a, letsOut(1, 1)), []bool{no, yes, yes}},
		{"a register that is set", codeOf(seven, a, sets(3, 0)), []bool{yes, no, yes}},
		{"a register that is set to what it is", codeOf(a, sets(0, 0)), []bool{yes, yes}},
		{"a register that is set twice", codeOf(a, sets(1, 0), b, sets(1, 2)), []bool{yes, yes, yes, yes}},
		{"the first word of what is reckoned", codeOf(a, b, seven, reckons(and, 0, 2), letsOut(3, 1)), []bool{yes, no, yes, yes, yes}},
		{"the second word of what is reckoned", codeOf(a, b, seven, reckons(and, 2, 0), letsOut(3, 1)), []bool{yes, no, yes, yes, yes}},
		{"a chain", codeOf(a, reckons(and, 0, 0), b, reckons(and, 1, 2), reckons(and, 3, 3), sets(2, 4)), []bool{yes, yes, yes, yes, yes, yes}},
		{"a chain that nobody uses", codeOf(a, reckons(and, 0, 0), b, reckons(and, 1, 2), reckons(and, 3, 3)), []bool{no, no, no, no, no}},
		{"a chain of which the middle is used", codeOf(a, reckons(and, 0, 0), b, reckons(and, 1, 2), letsOut(1, 0)), []bool{yes, yes, no, no, yes}},
		{"through a register", codeOf(seven, sets(0, 0), a, b, letsOut(2, 1)), []bool{yes, yes, yes, no, yes}},
		{"what one uses that is not used itself", codeOf(a, b, seven, reckons(and, 0, 1), reckons(and, 2, 1), letsOut(4, 0)), []bool{no, yes, yes, no, yes, yes}},
		{"what is made behind all that uses", codeOf(a, letsOut(0, 0), a, reckons(and, 0, 2)), []bool{yes, yes, no, no}},
		{"EndGo uses none, not even the first", on(impl.EndGo, 0, 0, 0, a, b), []bool{no, no}},
		{"at a word", on(impl.EndWord, 1, 0, 0, a, b), []bool{no, yes}},
		{"at the first word", on(impl.EndWord, 0, 0, 0, a, b), []bool{yes, no}},
		{"the same", on(impl.EndSame, 2, 1, 20, a, b, seven), []bool{no, yes, yes}},
		{"less", on(impl.EndLess, 0, 2, 20, a, b, seven), []bool{yes, no, yes}},
		{"less than itself", on(impl.EndLess, 1, 1, 20, a, b, seven), []bool{no, yes, no}},
		{"End's chain", on(impl.EndWord, 3, 0, 0, a, b, seven, reckons(and, 2, 0), reckons(and, 1, 2)), []bool{yes, no, yes, yes, no}},
		{"End's second chain", on(impl.EndSame, 0, 3, 9, a, b, seven, reckons(and, 2, 2)), []bool{yes, no, yes, yes}},
		{"each kind", eachKind(), []bool{yes, yes, yes, yes, yes, yes, yes, yes}},
		// X and Y are 0 where there are none, which is no use of the first one.
		{"what has no words", codeOf(seven, b, letsIn(2), gets(3)), []bool{no, no, yes, no}},
		{"what has one word", codeOf(seven, b, loads(1, 2), letsOut(1, 0), sets(2, 1)), []bool{no, yes, yes, yes, yes}},
	} {
		if !wantedCode(c.b) {
			t.Fatalf("%s: not ok: %+v", c.what, c.b)
		}
		holdUsed(t, c.what, c.b, c.want...)
		holdUsed(t, c.what+", by the second telling", c.b, wantedUsed(c.b)...)
		holdOwnHand(t, c.what, c.b)
	}
}

func TestP46ByHand(t *testing.T) {
	a, b, seven := gets(0), gets(1), constant(7)
	and := impl.OpAnd
	stays := func(what string, b impl.IrBlock) made { return made{what, b, b} }
	holdAllMade(t, impl.OptDead, []made{
		{"all are left out", codeOf(seven, a, reckons(and, 0, 1), b), codeOf()},
		stays("none is left out", eachKind()),
		stays("a word that comes in and is not used", codeOf(letsIn(2))),
		stays("a word that is loaded and not used", codeOf(seven, loads(0, 1))),
		stays("a register that is set twice", codeOf(seven, sets(0, 0), sets(0, 0))),
		{"the first", codeOf(seven, a, letsOut(1, 1)), codeOf(a, letsOut(0, 1))},
		{"the last", codeOf(a, letsOut(0, 1), seven), codeOf(a, letsOut(0, 1))},
		{"the middle", codeOf(a, seven, b, reckons(and, 0, 2), letsOut(3, 1)), codeOf(a, b, reckons(and, 0, 1), letsOut(2, 1))},
		{"every other one", codeOf(seven, a, seven, b, seven, stores(1, 3, 2), seven, sets(3, 3)), codeOf(a, b, stores(0, 1, 2), sets(3, 1))},
		{"what is used by what is left out", codeOf(a, reckons(and, 0, 0), b, reckons(and, 1, 2), letsOut(2, 1)), codeOf(b, letsOut(0, 1))},
		{"EndGo, and none is left", on(impl.EndGo, 0, 0, 65535, a, b), on(impl.EndGo, 0, 0, 65535)},
		{"at a word that moves", on(impl.EndWord, 2, 0, 0, seven, seven, a), on(impl.EndWord, 0, 0, 0, a)},
		{"the same, both move", on(impl.EndSame, 3, 1, 20, seven, a, seven, b), on(impl.EndSame, 1, 0, 20, a, b)},
		{"less, both move", on(impl.EndLess, 2, 4, 20, seven, seven, a, seven, b), on(impl.EndLess, 0, 1, 20, a, b)},
		{"less, one moves", on(impl.EndLess, 0, 3, 20, a, seven, seven, b), on(impl.EndLess, 0, 1, 20, a, b)},
		{"loads and what comes in behind what is left out", codeOf(seven, a, seven, loads(1, 0), seven, letsIn(2), seven, reckons(and, 3, 5), sets(2, 7)), codeOf(a, loads(0, 0), letsIn(2), reckons(and, 1, 2), sets(2, 3))},
	})
}

// The code of ../shared/tests, way by way.
func TestP5ByHand(t *testing.T) {
	b := impl.BlkLower(0, insOf("set a 3", "set b 4", "add a a b", "out a", "go a"))
	sum := []impl.IrOp{constant(3), sets(0, 0), constant(4), sets(1, 2)}
	copied := ended(impl.IrBlock{Len: 5, Ops: slices.Concat(sum, opsOf(gets(0), gets(1), reckons(impl.OpAdd, 0, 2), sets(0, 6), gets(0), letsOut(6, 3), gets(0)))}, impl.EndWord, 6, 0, 0)
	holdMade(t, "what is known is taken", b, impl.OptCopy(b), copied)
	known := ended(impl.IrBlock{Len: 5, Ops: slices.Concat(sum, opsOf(gets(0), gets(1), constant(7), sets(0, 6), gets(0), letsOut(6, 3), gets(0)))}, impl.EndGo, 0, 0, 7)
	holdMade(t, "it is reckoned ahead", b, impl.OptConst(copied), known)
	used := impl.IrBlock{Len: 5, End: impl.EndGo, K: 7, Ops: slices.Concat(sum, opsOf(constant(7), sets(0, 4), letsOut(4, 3)))}
	holdMade(t, "what nobody uses is left out", b, impl.OptDead(known), used)
	seen := impl.IrBlock{Len: 5, End: impl.EndGo, K: 7, Ops: opsOf(constant(3), constant(4), sets(1, 1), constant(7), sets(0, 3), letsOut(3, 3))}
	holdMade(t, "what nobody sees is not set", b, impl.OptSets(used), seen)
	all := impl.IrBlock{Len: 5, End: impl.EndGo, K: 7, Ops: opsOf(constant(4), sets(1, 0), constant(7), sets(0, 2), letsOut(2, 3))}
	holdMade(t, "what was set is left out", b, impl.OptDead(seen), all)
	holdMade(t, "all", b, impl.OptAll(b), all)
	holdMade(t, "all, twice", b, impl.OptAll(impl.OptAll(b)), all)
	holdOwnHand(t, "all", b)
}

func TestP5InstructionsByHand(t *testing.T) {
	for _, c := range []struct {
		what  string
		lines []string
		want  impl.IrBlock
	}{
		{"a register is moved to itself", []string{"move a a"}, impl.IrBlock{Len: 1, K: 1, Ops: opsOf(gets(0), sets(0, 0))}},
		{"there and back", []string{"move b a", "move a b"}, impl.IrBlock{Len: 2, K: 2, Ops: opsOf(gets(0), sets(1, 0), sets(0, 0))}},
		{"an address that is known", []string{"set a 3", "load b a 4", "load c a 5"}, impl.IrBlock{Len: 3, K: 3, Ops: opsOf(constant(3), sets(0, 0), constant(7), loads(2, 1), sets(1, 3), constant(8), loads(5, 2), sets(2, 6))}},
		{"what is set ahead of a load stays", []string{"set a 1", "load b c 0", "set a 2"}, impl.IrBlock{Len: 3, K: 3, Ops: opsOf(constant(1), sets(0, 0), gets(2), constant(0), reckons(impl.OpAdd, 2, 3), loads(4, 1), sets(1, 5), constant(2), sets(0, 7))}},
		{"what is set ahead of what comes in is not", []string{"set a 1", "in b", "set a 2"}, impl.IrBlock{Len: 3, K: 3, Ops: opsOf(letsIn(1), sets(1, 0), constant(2), sets(0, 2))}},
		{"got behind a store over the code", []string{"set a 1", "store a a 0", "out a"}, impl.IrBlock{Len: 3, K: 3, Ops: opsOf(constant(1), sets(0, 0), constant(1), stores(2, 0, 1), letsOut(0, 2))}},
		{"asked what is known", []string{"set a 1", "set b 1", "same a b 9"}, impl.IrBlock{Len: 3, K: 9, Ops: opsOf(constant(1), sets(0, 0), constant(1), sets(1, 2))}},
		{"asked what does not hold", []string{"set a 1", "set b 1", "less a b 9"}, impl.IrBlock{Len: 3, K: 3, Ops: opsOf(constant(1), sets(0, 0), constant(1), sets(1, 2))}},
		{"shifted three times", []string{"set a 1", "shift a a 3", "shift a a 3", "shift a a 3"}, impl.IrBlock{Len: 4, K: 4, Ops: opsOf(constant(512), sets(0, 0))}},
	} {
		b := impl.BlkLower(0, insOf(c.lines...))
		c.want.End = impl.EndGo
		holdMade(t, c.what, b, impl.OptAll(b), c.want)
		holdOwnHand(t, c.what, b)
	}
	// What is seen only behind the first time: a set that a register got and not used stood ahead of stays until that is left out.
	b := codeOf(constant(7), sets(0, 0), gets(0), constant(8), sets(0, 3))
	holdMade(t, "got, not used, and set again", b, impl.OptSets(b), b)
	holdMade(t, "all", b, impl.OptAll(b), codeOf(constant(8), sets(0, 0)))
}

// anyOwn is a piece of code that is ok, of few registers and words, so that much of it is known, set again, or not used.
func (d *dice) anyOwn() impl.IrBlock {
	switch d.below(4) {
	case 0:
		return d.anySeen()
	case 1:
		return d.anyBlock(impl.IrConst, impl.IrConst, impl.IrDo, impl.IrDo, impl.IrDo, impl.IrSet, impl.IrOut)
	case 2:
		return d.anyBlock(impl.IrGet, impl.IrGet, impl.IrGet, impl.IrSet, impl.IrSet, impl.IrSet, impl.IrDo, impl.IrLoad, impl.IrOut)
	}
	return d.anyBlock(impl.IrConst, impl.IrGet, impl.IrGet, impl.IrDo, impl.IrSet, impl.IrSet, impl.IrSet, impl.IrSet, impl.IrIn, impl.IrStore)
}

func TestP5OfAnyCode(t *testing.T) {
	d := dice(505050503)
	shorter, ends := 0, map[[2]int]int{}
	left := map[string]int{}
	turned := map[string]int{}
	for range 2500 {
		b := d.anyOwn()
		all := holdOwnHand(t, "any code", b)
		for at, way := range ownWays() {
			if !sameBlock(b, all[at+1]) {
				turned[way.name]++
			}
		}
		if len(all[5].Ops) < len(b.Ops) {
			shorter++
		}
		ends[[2]int{b.End, all[5].End}]++
		for _, m := range d.manyAt(b, 6) {
			before := m.Count
			for _, c := range all[1:] {
				holdAlike(t, "any code", b, c, m)
			}
			if x, through := impl.IrRun(all[5], m); !through {
				left["not gone through"]++
			} else if x.Halt == impl.HaltReach {
				left["missed"]++
			} else if x.Count-before < b.Len {
				left["over"]++
			} else {
				left["whole"]++
			}
		}
	}
	for _, way := range ownWays() {
		if turned[way.name] < 500 {
			t.Fatalf("only so many are turned: %v", turned)
		}
	}
	for _, how := range []string{"not gone through", "missed", "over", "whole"} {
		if left[how] < 500 {
			t.Fatalf("left: %v", left)
		}
	}
	for _, end := range [][2]int{{1, 1}, {2, 2}, {2, 1}, {3, 3}, {3, 1}, {4, 4}, {4, 1}} {
		if ends[end] < 50 {
			t.Fatalf("ends: %v", ends)
		}
	}
	if shorter < 1000 {
		t.Fatalf("only %d are shorter", shorter)
	}
}

func TestP5OfAnyInstructions(t *testing.T) {
	d := dice(515151517)
	shorter := 0
	for range 800 {
		pc, list := d.anyPiece()
		b := impl.BlkLower(pc, list)
		holdOwnHand(t, "any instructions", b)
		all := impl.OptAll(b)
		if len(all.Ops) < len(b.Ops) {
			shorter++
		}
		for range 3 {
			m := d.anyThere(pc, list)
			holdAlike(t, "any instructions", b, all, m)
			x, through := impl.IrRun(all, m)
			if !through {
				continue
			}
			// A step that misses its address is none that counts.
			steps := x.Count - m.Count
			if x.Halt == impl.HaltReach {
				steps++
			}
			holdMachine(t, "any instructions, step by step", x, impl.MchRun(m, nil, steps))
		}
	}
	if shorter < 400 {
		t.Fatalf("only %d are shorter", shorter)
	}
}

// Of all that is made of one code, by our own hand and by another one that is seen to do the same, any two may stand for each other.
func TestP41WhatMayStandForWhatMayStandForIt(t *testing.T) {
	d := dice(414141413)
	others, rounds := 0, 0
	for range 160 {
		b := d.anyOwn()
		all := holdOwnHand(t, "any two", b)
		for range 8 {
			if c := d.otherHands(b); impl.ChkSame(b, c) && !sameBlock(b, c) {
				all = append(all, c, impl.OptAll(c))
				others++
			}
		}
		for _, x := range all {
			for _, y := range all {
				if !impl.ChkSame(x, y) {
					t.Fatalf("both may stand for %+v, but not for each other:\n%+v\n%+v", b, x, y)
				}
				rounds++
			}
		}
	}
	if others < 200 || rounds < 20000 {
		t.Fatalf("only %d of another hand, and %d pairs", others, rounds)
	}
}

// Three that are near each other, as they come: of which the first may stand for the second, and that for the third.
func TestP41AnyThree(t *testing.T) {
	d := dice(414241421)
	through, apart := 0, 0
	for range 6000 {
		b := d.anyOwn()
		if len(b.Ops) > 20 {
			b = d.anyBlock(impl.IrConst, impl.IrGet, impl.IrDo, impl.IrDo, impl.IrSet, impl.IrOut)
		}
		x := d.otherHands(b)
		y := d.otherHands(x)
		if sameBlock(b, x) || sameBlock(x, y) {
			continue
		}
		first, second, both := impl.ChkSame(b, x), impl.ChkSame(x, y), impl.ChkSame(b, y)
		switch {
		case first && second && !both:
			t.Fatalf("%+v may stand for\n%+v, and that for\n%+v, but not the first for the last", b, x, y)
		case first != second && both:
			t.Fatalf("%+v and\n%+v may stand for each other, and just one for\n%+v", b, y, x)
		case first && second:
			through++
		default:
			apart++
		}
	}
	if through < 200 || apart < 500 {
		t.Fatalf("only %d times both may, and %d times not", through, apart)
	}
}

func TestP41ByHand(t *testing.T) {
	// 3 times a, in five ways, one of which puts atoms that nobody uses ahead of all others.
	mul, add, and := impl.OpMul, impl.OpAdd, impl.OpAnd
	a, b := gets(0), gets(1)
	ways := []impl.IrBlock{
		codeOf(a, constant(3), reckons(mul, 0, 1), sets(1, 2)),
		codeOf(constant(3), a, reckons(mul, 0, 1), sets(1, 2)),
		codeOf(a, reckons(add, 0, 0), reckons(add, 1, 0), sets(1, 2)),
		codeOf(b, a, reckons(and, 0, 1), reckons(add, 1, 1), reckons(add, 3, 1), sets(1, 4)),
		codeOf(a, sets(1, 0), b, constant(3), reckons(mul, 2, 3), sets(1, 4)),
	}
	other := codeOf(a, constant(4), reckons(mul, 0, 1), sets(1, 2))
	for _, x := range ways {
		for _, y := range ways {
			holdStands(t, "any two", x, y, true)
			holdStands(t, "our own hand", impl.OptAll(x), impl.OptAll(y), true)
		}
		holdStands(t, "another one", x, other, false)
		holdStands(t, "another one, by our own hand", impl.OptAll(x), impl.OptAll(other), false)
	}
	// Atoms come in another order in each.
	bits := []impl.IrBlock{
		codeOf(a, b, gets(2), reckons(and, 0, 1), reckons(and, 1, 2), reckons(impl.OpXor, 3, 4), sets(3, 5)),
		codeOf(a, b, gets(2), reckons(and, 2, 1), reckons(and, 1, 0), reckons(impl.OpXor, 3, 4), sets(3, 5)),
		codeOf(gets(2), b, a, reckons(impl.OpXor, 0, 1), reckons(and, 0, 1), reckons(and, 1, 2), reckons(impl.OpXor, 5, 4), sets(3, 6)),
	}
	for _, x := range bits {
		for _, y := range bits {
			holdStands(t, "atoms in another order", x, y, true)
			holdStands(t, "atoms in another order, by our own hand", impl.OptAll(x), y, true)
		}
	}
}

func TestP72OnceMore(t *testing.T) {
	for _, c := range []struct {
		what  string
		b     impl.IrBlock
		first int
		again int
	}{
		{"nothing more to do", codeOf(gets(0), letsOut(0, 1)), 2, 2},
		// A register that is set to what it is stays, as nobody looks for that.
		{"set to what it is", codeOf(gets(0), sets(0, 0)), 2, 2},
		{"none", codeOf(), 0, 0},
		{"all are left out", codeOf(gets(0), constant(3), reckons(impl.OpAdd, 0, 1)), 0, 0},
		{"set twice", codeOf(gets(0), sets(1, 0), constant(3), sets(1, 2)), 2, 2},
	} {
		one := impl.OptAll(c.b)
		two := impl.OptAll(one)
		if len(one.Ops) != c.first || len(two.Ops) != c.again {
			t.Fatalf("%s: %d operations, and then %d", c.what, len(one.Ops), len(two.Ops))
		}
		holdStands(t, c.what, one, two, true)
		holdStands(t, c.what, c.b, two, true)
	}
}

func TestP73InAnyOrder(t *testing.T) {
	d := dice(737373737)
	for range 600 {
		b := d.anyOwn()
		c := b
		var names []string
		for range 2 + d.below(4) {
			way := ownWays()[d.below(5)]
			next := way.do(c)
			names = append(names, way.name)
			if !sameBlock(next, way.want(c)) || !impl.IrOk(next) || len(next.Ops) > len(c.Ops) {
				t.Fatalf("%v of %+v: %+v", names, b, next)
			}
			c = next
		}
		holdStands(t, "in any order", b, c, true)
		for range 3 {
			holdAlike(t, "in any order", b, c, d.anyAt(b))
		}
	}
}

func TestP5NothingIsWrittenIntoOrShared(t *testing.T) {
	d := dice(100100103)
	for round := range 2500 {
		b := d.anyOwn()
		switch round % 8 {
		case 0:
			b.End = 9
		case 1:
			b = codeOf(gets(0), letsOut(0, 0))
		}
		b = lentCode(b)
		whole := b.Ops[:cap(b.Ops)]
		before, given := slices.Clone(whole), spanOf(b.Ops)
		for _, way := range ownWays() {
			want := way.want(b)
			one, two := way.do(b), way.do(b)
			holdSpans(t, way.name, spanOf(one.Ops), slices.Concat(given, spanOf(two.Ops)))
			for at := range one.Ops[:cap(one.Ops)] {
				one.Ops[:cap(one.Ops)][at] = impl.IrOp{Kind: -9}
			}
			if !sameBlock(two, want) || !sameBlock(way.do(b), want) {
				t.Fatalf("%s of %+v: %+v, not %+v", way.name, b, two, want)
			}
			runtime.KeepAlive(two)
		}
		one, two, want := impl.OptUsed(b), impl.OptUsed(b), wantedUsed(b)
		holdSpans(t, "OptUsed", spanOf(one), spanOf(two))
		for at := range one[:cap(one)] {
			one[:cap(one)][at] = !one[:cap(one)][at]
		}
		if !slices.Equal(two, want) {
			t.Fatalf("OptUsed of %+v: %v, not %v", b, two, want)
		}
		holdUsed(t, "nothing is kept", b, want...)
		if !slices.Equal(whole, before) {
			t.Fatalf("operations were %v, and now %v", before, whole)
		}
		runtime.KeepAlive(b)
	}
}
