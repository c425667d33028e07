package tests

import (
	"math"
	"runtime"
	"slices"
	"testing"

	"loop.example/latimer/impl"
)

// The signatures that the document gives; another one would not compile here.
var (
	_ func() (impl.TabTab, []impl.TrmPoly)                       = impl.SymNew
	_ func(impl.SymSym, int) impl.SymSym                         = impl.SymEnd
	_ func(impl.TabTab, impl.IrBlock) (impl.TabTab, impl.SymSym) = impl.SymRun
	_ struct {
		Kind, At int
		X, Y     impl.TrmPoly
		Regs     []impl.TrmPoly
	} = impl.SymEvent{}
	_ struct {
		Events []impl.SymEvent
		Regs   []impl.TrmPoly
		End    int
		X, Y   impl.TrmPoly
		K      int
	} = impl.SymSym{}
)

// noSym is what is seen of nothing.
var noSym = impl.SymSym{}

func sumsOf(list ...impl.TrmPoly) []impl.TrmPoly { return list }

func sameSums(a, b []impl.TrmPoly) bool { return slices.EqualFunc(a, b, sameSum) }

func sameEvent(a, b impl.SymEvent) bool {
	return a.Kind == b.Kind && a.At == b.At && sameSum(a.X, b.X) && sameSum(a.Y, b.Y) && sameSums(a.Regs, b.Regs)
}

// sameSym holds what is seen of two pieces of code against each other; the empty list and the nil list are the same.
func sameSym(a, b impl.SymSym) bool {
	return slices.EqualFunc(a.Events, b.Events, sameEvent) && sameSums(a.Regs, b.Regs) &&
		a.End == b.End && sameSum(a.X, b.X) && sameSum(a.Y, b.Y) && a.K == b.K
}

// holdSym fails unless what is seen is the wanted.
func holdSym(t *testing.T, what string, got, want impl.SymSym) {
	t.Helper()
	if !sameSym(got, want) {
		t.Fatalf("%s:\n got %+v\nwant %+v", what, got, want)
	}
}

// holdSight fails unless SymRun puts these atoms, and sees this.
func holdSight(t *testing.T, what string, tab impl.TabTab, b impl.IrBlock, wantTab impl.TabTab, want impl.SymSym) {
	t.Helper()
	got, s := impl.SymRun(tab, b)
	if !sameTab(got, wantTab) {
		t.Fatalf("%s: %+v with %v:\n got %v\nwant %v", what, b, tab, got, wantTab)
	}
	holdSym(t, what, s, want)
}

// wantedEnd is what the document asks of SymEnd.
func wantedEnd(s impl.SymSym, behind int) impl.SymSym {
	if !sumStands(s.X, 200) || !sumStands(s.Y, 200) {
		return noSym
	}
	x, xWord := wordIn(s.X)
	y, yWord := wordIn(s.Y)
	same := sameSum(s.X, s.Y)
	goes, place := false, behind
	switch {
	case s.End == 2 && xWord:
		goes, place = true, x
	case (s.End == 3 || s.End == 4) && (same || xWord && yWord):
		goes = true
		if s.End == 3 && same || s.End == 4 && !same && x < y {
			place = s.K
		}
	case s.End == 3 && wantedOrder(s.Y, s.X) == -1:
		s.X, s.Y = s.Y, s.X
	}
	if goes {
		s.End, s.X, s.Y, s.K = 1, nothing, nothing, place
	}
	return s
}

// wantedSight is what the document asks of SymRun.
func wantedSight(tab impl.TabTab, b impl.IrBlock) (impl.TabTab, impl.SymSym) {
	if !wantedTab(tab) || len(tab.Atoms) > 100 || !wantedCode(b) {
		return noTab, noSym
	}
	putAtom := func(kind, k int) impl.TrmPoly {
		place := 0
		tab, place = wantedPut(tab, impl.TabAtom{Kind: kind, K: k})
		return sumOf(part(1, place))
	}
	var s impl.SymSym
	for k := range 4 {
		s.Regs = append(s.Regs, putAtom(1, k))
	}
	words := make([]impl.TrmPoly, len(b.Ops)+1)
	came := map[int]int{}
	for place, o := range b.Ops {
		x, y := words[o.X], words[o.Y]
		e := impl.SymEvent{Kind: o.Kind, At: o.At}
		switch o.Kind {
		case 1:
			if o.K > 0 {
				words[place] = sumOf(part(o.K))
			}
		case 2:
			words[place] = s.Regs[o.K]
		case 3:
			tab, words[place] = wantedDo(tab, o.K, x, y)
		case 4:
			e.X, e.Regs = x, slices.Clone(s.Regs)
			words[place] = putAtom(2, came[o.Kind])
		case 5:
			e.X, e.Y, e.Regs = x, y, slices.Clone(s.Regs)
		case 6:
			words[place] = putAtom(3, came[o.Kind])
		case 7:
			e.X = x
		case 8:
			s.Regs[o.K] = x
		}
		came[o.Kind]++
		if o.Kind >= 4 && o.Kind <= 7 {
			s.Events = append(s.Events, e)
		}
	}
	s.End, s.K = b.End, b.K
	if endRows[b.End].x {
		s.X = words[b.X]
	}
	if endRows[b.End].y {
		s.Y = words[b.Y]
	}
	return tab, wantedEnd(s, b.Pc+b.Len)
}

// fourRegisters are the atoms of all registers, in order.
func fourRegisters() impl.TabTab {
	return tabOf(register(0), register(1), register(2), register(3))
}

// fourSums are the first four atoms as sums, one by one.
func fourSums() []impl.TrmPoly {
	return sumsOf(sumOf(part(1, 0)), sumOf(part(1, 1)), sumOf(part(1, 2)), sumOf(part(1, 3)))
}

func TestP36AtTheBeginning(t *testing.T) {
	tab, sums := impl.SymNew()
	if !sameTab(tab, fourRegisters()) || !sameSums(sums, fourSums()) {
		t.Fatalf("at the beginning there are %v, as %v", tab, sums)
	}
	if !impl.TabOk(tab) {
		t.Fatalf("%v is not ok", tab)
	}
	d := dice(363636361)
	for range 2000 {
		regs := d.anyList(4, d.anyWord)
		vals := impl.TabVals(tab, regs, d.anyList(d.below(5), d.anyWord), d.anyList(d.below(5), d.anyWord))
		for k, p := range sums {
			if got := impl.PolEval(p, vals); got != regs[k] {
				t.Fatalf("register %d of %v comes to %d", k, regs, got)
			}
		}
	}
}

func TestP36NothingIsShared(t *testing.T) {
	one, oneSums := impl.SymNew()
	two, twoSums := impl.SymNew()
	first := append(spansOfTab(one), spansOfSums(oneSums)...)
	second := append(spansOfTab(two), spansOfSums(twoSums)...)
	holdSpans(t, "SymNew", first, second)
	holdSpans(t, "SymNew", second, first)
	for at := range one.Atoms[:cap(one.Atoms)] {
		one.Atoms[:cap(one.Atoms)][at] = impl.TabAtom{Kind: -9, X: sumOf(part(-9))}
	}
	for _, p := range oneSums {
		p.Monos[0].Atoms[0], p.Monos[0].Coef = -9, -9
	}
	clear(oneSums[:cap(oneSums)])
	three, threeSums := impl.SymNew()
	for _, c := range []struct {
		tab  impl.TabTab
		sums []impl.TrmPoly
	}{{two, twoSums}, {three, threeSums}} {
		if !sameTab(c.tab, fourRegisters()) || !sameSums(c.sums, fourSums()) {
			t.Fatalf("behind an answer that was written into there are %v, as %v", c.tab, c.sums)
		}
	}
	runtime.KeepAlive([]any{one, two, three})
}

// allEnds are the Ends that there are, and numbers that are none.
func allEnds() []int {
	return append([]int{impl.EndGo, impl.EndWord, impl.EndSame, impl.EndLess, 0, 5, 6, -1, -2, 255}, extremes...)
}

// badSums are sums that are not ok, one thing wrong in each.
func badSums() []impl.TrmPoly {
	return []impl.TrmPoly{
		sumOf(part(0)), sumOf(part(-1)), sumOf(part(65536)), sumOf(part(math.MinInt)), sumOf(part(math.MaxInt)),
		sumOf(part(0, 1)), sumOf(part(1, -1)), sumOf(part(1, 200)), sumOf(part(1, math.MinInt)), sumOf(part(1, math.MaxInt)),
		sumOf(part(1, 1, 0)), sumOf(part(1, 0, 0, 0, 0, 0)), sumOf(part(1), part(1)), sumOf(part(1, 3), part(2, 3)),
		sumOf(part(1, 1), part(1, 0)), sumOf(part(1, 0), part(1)), atomsFrom(0, 13), sumOf(make([]impl.TrmMono, 500)...),
	}
}

// spoiltSym is what nobody sees of code that is ok: events and registers that are not, which SymEnd leaves as they are.
func spoiltSym() impl.SymSym {
	bad := badSums()
	return impl.SymSym{
		Events: []impl.SymEvent{
			{Kind: -1, At: math.MaxInt, X: bad[1], Y: bad[10], Regs: bad[:3]},
			{},
			{Kind: math.MinInt, At: -7, Regs: sumsOf(nothing)},
			{Kind: impl.IrIn, X: impl.PolAtom(3), Y: atomsFrom(0, 13), Regs: []impl.TrmPoly{}},
		},
		Regs: sumsOf(bad[0], nothing, impl.PolAtom(5), bad[16], bad[7], impl.PolConst(1)),
	}
}

// withEnd is what is seen, with another End.
func withEnd(s impl.SymSym, end int, x, y impl.TrmPoly, k int) impl.SymSym {
	s.End, s.X, s.Y, s.K = end, x, y, k
	return s
}

// holdEnd fails unless SymEnd, with whatever events and registers, turns an End into the wanted one, which it leaves as it is then.
func holdEnd(t *testing.T, what string, end int, x, y impl.TrmPoly, k, behind int, want impl.SymSym) {
	t.Helper()
	seen := impl.SymSym{Events: []impl.SymEvent{{Kind: impl.IrLoad, At: 1, X: impl.PolConst(9), Regs: fourSums()}}, Regs: fourSums()}
	for _, s := range []impl.SymSym{noSym, seen, spoiltSym()} {
		given := withEnd(s, end, x, y, k)
		wanted := withEnd(s, want.End, want.X, want.Y, want.K)
		holdSym(t, what, impl.SymEnd(given, behind), wanted)
		holdSym(t, what+", by the second telling", wantedEnd(given, behind), wanted)
		for _, other := range []int{behind, 0, 9, math.MaxInt} {
			holdSym(t, what+", once more", impl.SymEnd(wanted, other), wanted)
		}
	}
}

// goesTo is an End that goes on at a place.
func goesTo(k int) impl.SymSym { return impl.SymSym{End: impl.EndGo, K: k} }

func TestP37OfSumsThatAreNotOk(t *testing.T) {
	for _, bad := range badSums() {
		for _, good := range []impl.TrmPoly{nothing, impl.PolConst(7), impl.PolAtom(2), atomsFrom(0, 12), bad} {
			for _, end := range allEnds() {
				for _, s := range []impl.SymSym{noSym, spoiltSym(), {Regs: fourSums()}} {
					holdSym(t, "X is not ok", impl.SymEnd(withEnd(s, end, bad, good, 20), 8), noSym)
					holdSym(t, "Y is not ok", impl.SymEnd(withEnd(s, end, good, bad, 20), 8), noSym)
				}
			}
		}
	}
}

// somePlaces are numbers that K, and the place behind, are tried with.
var somePlaces = []int{0, 1, 8, 20, 64, 65535, 65536, -1, math.MaxInt, math.MinInt}

func TestP37OfAPlace(t *testing.T) {
	for _, k := range somePlaces {
		for _, behind := range somePlaces {
			for _, x := range okSums() {
				for _, y := range []impl.TrmPoly{nothing, impl.PolConst(3), impl.PolAtom(0), sumOf(part(4), part(1, 199)), x} {
					holdEnd(t, "a place", impl.EndGo, x, y, k, behind, withEnd(noSym, impl.EndGo, x, y, k))
				}
			}
		}
	}
}

func TestP37OfAWord(t *testing.T) {
	for _, k := range somePlaces {
		for _, behind := range somePlaces {
			for _, y := range []impl.TrmPoly{nothing, impl.PolConst(3), impl.PolAtom(0)} {
				holdEnd(t, "nothing", impl.EndWord, nothing, y, k, behind, goesTo(0))
				holdEnd(t, "an empty list", impl.EndWord, impl.TrmPoly{Monos: []impl.TrmMono{}}, y, k, behind, goesTo(0))
				for _, n := range []int{0, 1, 40, 64, 65534, 65535} {
					holdEnd(t, "a word", impl.EndWord, impl.PolConst(n), y, k, behind, goesTo(n))
				}
				holdEnd(t, "a word with an empty list", impl.EndWord, sumOf(impl.TrmMono{Coef: 7, Atoms: []int{}}), y, k, behind, goesTo(7))
				for _, x := range []impl.TrmPoly{impl.PolAtom(0), impl.PolAtom(199), sumOf(part(40), part(1, 0)), sumOf(part(65535, 3, 3, 3, 3)), atomsFrom(0, 12)} {
					holdEnd(t, "a sum that has an atom", impl.EndWord, x, y, k, behind, withEnd(noSym, impl.EndWord, x, y, k))
				}
			}
		}
	}
}

func TestP37OfTwoWords(t *testing.T) {
	for _, k := range somePlaces {
		for _, behind := range somePlaces {
			for _, pair := range [][2]int{{0, 1}, {1, 2}, {7, 300}, {32767, 32768}, {65534, 65535}, {0, 65535}} {
				less, greater := impl.PolConst(pair[0]), impl.PolConst(pair[1])
				holdEnd(t, "less", impl.EndSame, less, greater, k, behind, goesTo(behind))
				holdEnd(t, "greater", impl.EndSame, greater, less, k, behind, goesTo(behind))
				holdEnd(t, "less", impl.EndLess, less, greater, k, behind, goesTo(k))
				holdEnd(t, "greater", impl.EndLess, greater, less, k, behind, goesTo(behind))
				for _, n := range pair {
					holdEnd(t, "the same", impl.EndSame, impl.PolConst(n), impl.PolConst(n), k, behind, goesTo(k))
					holdEnd(t, "the same", impl.EndLess, impl.PolConst(n), impl.PolConst(n), k, behind, goesTo(behind))
				}
			}
			empty := impl.TrmPoly{Monos: []impl.TrmMono{}}
			holdEnd(t, "nothing twice", impl.EndSame, nothing, empty, k, behind, goesTo(k))
			holdEnd(t, "nothing twice", impl.EndLess, empty, nothing, k, behind, goesTo(behind))
		}
	}
}

func TestP37OfTwoSumsThatAreTheSame(t *testing.T) {
	for _, p := range okSums() {
		for _, k := range somePlaces {
			for _, behind := range somePlaces {
				holdEnd(t, "the same", impl.EndSame, p, apartSum(p), k, behind, goesTo(k))
				holdEnd(t, "the same", impl.EndLess, p, apartSum(p), k, behind, goesTo(behind))
			}
		}
	}
}

// Two sums of which no one knows how they stand, the lesser one by PolOrder first in each pair.
func TestP37OfTwoSumsThatMayBeTheSame(t *testing.T) {
	for what, pair := range map[string][2]impl.TrmPoly{
		"0 and an atom":            {nothing, impl.PolAtom(0)},
		"a word and an atom":       {impl.PolConst(65535), impl.PolAtom(0)},
		"a word and a sum":         {impl.PolConst(9), sumOf(part(1), part(1, 4))},
		"two atoms":                {impl.PolAtom(3), impl.PolAtom(4)},
		"fewer parts":              {impl.PolAtom(199), sumOf(part(1, 0), part(1, 1))},
		"fewer atoms":              {impl.PolAtom(199), sumOf(part(1, 0, 0))},
		"the lesser word":          {sumOf(part(2, 5)), sumOf(part(3, 5))},
		"the first part decides":   {sumOf(part(8), part(7, 5)), sumOf(part(9), part(3, 5))},
		"the last part decides":    {sumOf(part(8), part(7, 5)), sumOf(part(8), part(7, 6))},
		"a sum, and one more":      {impl.PolAtom(7), sumOf(part(1), part(1, 7))},
		"a sum that is never less": {nothing, sumOf(part(32768, 7))},
		"twelve parts":             {atomsFrom(0, 12), atomsFrom(1, 12)},
	} {
		lesser, greater := pair[0], pair[1]
		if impl.PolOrder(lesser, greater) != -1 {
			t.Fatalf("%s: %v is not the lesser one", what, lesser)
		}
		for _, k := range somePlaces {
			for _, behind := range somePlaces {
				holdEnd(t, what, impl.EndSame, lesser, greater, k, behind, withEnd(noSym, impl.EndSame, lesser, greater, k))
				holdEnd(t, what+", the other order", impl.EndSame, greater, lesser, k, behind, withEnd(noSym, impl.EndSame, lesser, greater, k))
				holdEnd(t, what, impl.EndLess, lesser, greater, k, behind, withEnd(noSym, impl.EndLess, lesser, greater, k))
				holdEnd(t, what+", the other order", impl.EndLess, greater, lesser, k, behind, withEnd(noSym, impl.EndLess, greater, lesser, k))
			}
		}
	}
}

func TestP37OfAnEndThatThereIsNot(t *testing.T) {
	for _, end := range allEnds()[4:] {
		for _, k := range somePlaces {
			for _, x := range []impl.TrmPoly{nothing, impl.PolConst(7), impl.PolAtom(4), atomsFrom(0, 12)} {
				for _, y := range []impl.TrmPoly{nothing, impl.PolConst(3), impl.PolAtom(0)} {
					holdEnd(t, "no End", end, x, y, k, 8, withEnd(noSym, end, x, y, k))
				}
			}
		}
	}
}

func TestP37TheSecondTelling(t *testing.T) {
	d := dice(373737373)
	seen := map[[2]int]int{}
	spoilt := spoiltSym()
	for range 40000 {
		x, y := d.sumPair()
		switch d.below(6) {
		case 0:
			x = impl.PolConst(d.of(0, 7, 8, d.anyWord()))
		case 1:
			y = impl.PolConst(d.of(0, 7, 8, d.anyWord()))
		case 2:
			x, y = impl.PolConst(d.of(7, 8, d.anyWord())), impl.PolConst(d.of(7, 8, d.anyWord()))
		case 3:
			y = x
		case 4:
			x = d.anySumAtAll()
		}
		s := withEnd(spoilt, d.of(1, 2, 3, 4, 3, 4, 0, 5), x, y, d.of(somePlaces...))
		behind := d.of(somePlaces...)
		got := impl.SymEnd(s, behind)
		holdSym(t, "any End", got, wantedEnd(s, behind))
		holdSym(t, "any End, once more", impl.SymEnd(got, d.of(somePlaces...)), got)
		if !impl.PolOk(x) {
			continue
		}
		seen[[2]int{s.End, got.End}]++
		if s.End == impl.EndSame {
			back := impl.SymEnd(withEnd(s, s.End, y, x, s.K), behind)
			holdSym(t, "in either order", back, got)
			if got.End == impl.EndSame && impl.PolOrder(got.X, got.Y) != -1 {
				t.Fatalf("%v does not stand ahead of %v", got.X, got.Y)
			}
		}
	}
	for _, kind := range [][2]int{{1, 1}, {2, 1}, {2, 2}, {3, 1}, {3, 3}, {4, 1}, {4, 4}, {0, 0}, {5, 5}} {
		if seen[kind] < 500 {
			t.Fatalf("seen: %v", seen)
		}
	}
}

// badCodes are pieces of code that are not ok, one thing wrong in each.
func badCodes() map[string]impl.IrBlock {
	out := map[string]impl.IrBlock{"nothing": {}}
	for what, turn := range map[string]func(b *impl.IrBlock){
		"Len 0":                 func(b *impl.IrBlock) { b.Len = 0 },
		"Len too great":         func(b *impl.IrBlock) { b.Len = 9 },
		"Pc below 0":            func(b *impl.IrBlock) { b.Pc = -1 },
		"Pc too great":          func(b *impl.IrBlock) { b.Pc = 62 },
		"most Pc":               func(b *impl.IrBlock) { b.Pc = math.MaxInt },
		"49 operations":         func(b *impl.IrBlock) { *b = codeOf(manyOps(49)...) },
		"no Kind":               func(b *impl.IrBlock) { b.Ops[1].Kind = 0 },
		"a Kind too great":      func(b *impl.IrBlock) { b.Ops[7].Kind = 9 },
		"least Kind":            func(b *impl.IrBlock) { b.Ops[2].Kind = math.MinInt },
		"of itself":             func(b *impl.IrBlock) { b.Ops[2].X = 2 },
		"of what is behind":     func(b *impl.IrBlock) { b.Ops[2].Y = 3 },
		"of a place below 0":    func(b *impl.IrBlock) { b.Ops[4].Y = -1 },
		"of what makes no word": func(b *impl.IrBlock) { b.Ops[6].X = 4 },
		"K no word":             func(b *impl.IrBlock) { b.Ops[0].K = 65536 },
		"K no register":         func(b *impl.IrBlock) { b.Ops[1].K = 4 },
		"K no register to set":  func(b *impl.IrBlock) { b.Ops[7].K = -1 },
		"K no Op":               func(b *impl.IrBlock) { b.Ops[2].K = 6 },
		"At too great":          func(b *impl.IrBlock) { b.Ops[3].At = 3 },
		"what in has not":       func(b *impl.IrBlock) { b.Ops[5].X = 1 },
		"no End":                func(b *impl.IrBlock) { b.End = 0 },
		"an End too great":      func(b *impl.IrBlock) { b.End = 5 },
		"End of no word":        func(b *impl.IrBlock) { b.X = 4 },
		"End past all":          func(b *impl.IrBlock) { b.Y = 8 },
		"End below 0":           func(b *impl.IrBlock) { b.X = -1 },
		"End with no word as K": func(b *impl.IrBlock) { b.K = 65536 },
		"EndGo with X":          func(b *impl.IrBlock) { *b = ended(*b, impl.EndGo, 3, 0, 20) },
		"EndWord with K":        func(b *impl.IrBlock) { *b = ended(*b, impl.EndWord, 3, 0, 20) },
		"EndWord of none":       func(b *impl.IrBlock) { *b = ended(codeOf(), impl.EndWord, 0, 0, 0) },
	} {
		out[what] = turnedCode(eachKind(), turn)
	}
	return out
}

// badTabs are atoms that are not ok, one thing wrong in each, and some that are too many.
func badTabs() map[string]impl.TabTab {
	two := tabOf(register(0), register(1))
	out := map[string]impl.TabTab{
		"one twice":             tabOf(register(0), register(1), register(0)),
		"made of the one ahead": tabOf(did(impl.OpAnd, impl.PolAtom(1), nothing), register(0)),
		"101":                   filledUp(base(), 101),
		"150":                   filledUp(base(), 150),
		"200":                   filledUp(base(), 200),
		"201":                   filledUp(base(), 201),
		"101 without registers": filledUp(noTab, 101),
		"101, one not ok":       with(filledUp(base(), 100), register(4)),
		"100, the last not ok":  with(filledUp(base(), 99), register(4)),
		"100, one twice":        with(filledUp(base(), 99), register(3)),
		"a hundred thousand":    tabOf(make([]impl.TabAtom, 100000)...),
	}
	for what, a := range badAtoms() {
		out["behind two: "+what] = with(two, a)
	}
	return out
}

// plainCodes are pieces of code that are ok, of each kind of operation, and of none.
func plainCodes() map[string]impl.IrBlock {
	return map[string]impl.IrBlock{
		"no operations": codeOf(),
		"each kind":     eachKind(),
		"a word":        codeOf(constant(3)),
		"48 operations": codeOf(manyOps(48)...),
		"instructions":  impl.BlkLower(3, insOf("load a b 3", "add a a b", "xor c a b", "store c d 4", "less b a 3")),
		"words in":      codeOf(slices.Repeat(opsOf(letsIn(1)), 48)...),
	}
}

func TestP82OfWhatIsNotOk(t *testing.T) {
	for what, tab := range badTabs() {
		for code, b := range plainCodes() {
			holdSight(t, what+", "+code, tab, b, noTab, noSym)
		}
		holdSight(t, what+", and the code", tab, codeOf(impl.IrOp{}), noTab, noSym)
	}
	for what, b := range badCodes() {
		if impl.IrOk(b) {
			t.Fatalf("%s: %+v is ok", what, b)
		}
		for _, tab := range append(okTabs(), fourRegisters(), filledUp(base(), 100), filledUp(base(), 101), tabOf(register(4)), tabOf(register(0), register(0))) {
			holdSight(t, what, tab, b, noTab, noSym)
		}
	}
}

// sighting is a piece of code, and by hand what is seen of it where the atoms are the four registers, in order: those that it puts behind them, and all else.
type sighting struct {
	what string
	b    impl.IrBlock
	more []impl.TabAtom
	want impl.SymSym
}

// holdSightings fails unless what is seen of each is as told by hand, with SymNew's atoms and with none, which lead to the same, and by the second telling.
func holdSightings(t *testing.T, list []sighting) {
	t.Helper()
	for _, c := range list {
		if !impl.IrOk(c.b) {
			t.Fatalf("%s: %+v is not ok", c.what, c.b)
		}
		want := with(fourRegisters(), c.more...)
		tab, _ := impl.SymNew()
		holdSight(t, c.what, tab, c.b, want, c.want)
		holdSight(t, c.what+", with no atoms", noTab, c.b, want, c.want)
		holdSight(t, c.what+", with its own atoms", want, c.b, want, c.want)
		second, s := wantedSight(noTab, c.b)
		if !sameTab(second, want) || !sameSym(s, c.want) {
			t.Fatalf("%s: the second telling is %v, %+v", c.what, second, s)
		}
	}
}

// goes20 is what codeOf does: events, what the registers are behind it, and to go on at 20.
func goes20(regs []impl.TrmPoly, events ...impl.SymEvent) impl.SymSym {
	return impl.SymSym{Events: events, Regs: regs, End: impl.EndGo, K: 20}
}

func loadEvent(at int, x impl.TrmPoly, regs []impl.TrmPoly) impl.SymEvent {
	return impl.SymEvent{Kind: impl.IrLoad, At: at, X: x, Regs: regs}
}

func storeEvent(at int, x, y impl.TrmPoly, regs []impl.TrmPoly) impl.SymEvent {
	return impl.SymEvent{Kind: impl.IrStore, At: at, X: x, Y: y, Regs: regs}
}

func inEvent(at int) impl.SymEvent { return impl.SymEvent{Kind: impl.IrIn, At: at} }

func outEvent(at int, x impl.TrmPoly) impl.SymEvent {
	return impl.SymEvent{Kind: impl.IrOut, At: at, X: x}
}

func TestP70EachKindByHand(t *testing.T) {
	word, atom := impl.PolConst, impl.PolAtom
	a, b, c, d := atom(0), atom(1), atom(2), atom(3)
	all := fourSums()
	aAndB := sumOf(part(1, 0), part(1, 1))
	holdSightings(t, []sighting{
		{"no operations", codeOf(), nil, goes20(all)},
		{"a word", codeOf(constant(9)), nil, goes20(all)},
		{"a register", codeOf(gets(2)), nil, goes20(all)},
		{"what is reckoned", codeOf(gets(0), gets(1), reckons(impl.OpAdd, 0, 1)), nil, goes20(all)},
		{"a load", codeOf(constant(9), loads(0, 1)), []impl.TabAtom{loaded(0)}, goes20(all, loadEvent(1, word(9), all))},
		{"a load at 0", codeOf(constant(0), loads(0, 2)), []impl.TabAtom{loaded(0)}, goes20(all, loadEvent(2, nothing, all))},
		{"a load at a register", codeOf(gets(3), loads(0, 0)), []impl.TabAtom{loaded(0)}, goes20(all, loadEvent(0, d, all))},
		{"a load of what was loaded", codeOf(gets(3), loads(0, 0), loads(1, 1)), []impl.TabAtom{loaded(0), loaded(1)}, goes20(all, loadEvent(0, d, all), loadEvent(1, atom(4), all))},
		{"a store", codeOf(gets(3), gets(2), stores(0, 1, 2)), nil, goes20(all, storeEvent(2, d, c, all))},
		{"a store of a word", codeOf(constant(40), constant(65535), stores(0, 1, 0)), nil, goes20(all, storeEvent(0, word(40), word(65535), all))},
		{"a store of its own address", codeOf(gets(1), stores(0, 0, 1)), nil, goes20(all, storeEvent(1, b, b, all))},
		{"a word in", codeOf(letsIn(2)), []impl.TabAtom{cameIn(0)}, goes20(all, inEvent(2))},
		{"a word in behind a word", codeOf(constant(9), letsIn(0)), []impl.TabAtom{cameIn(0)}, goes20(all, inEvent(0))},
		{"a word out", codeOf(gets(1), letsOut(0, 1)), nil, goes20(all, outEvent(1, b))},
		{"a word out, the first being another", codeOf(constant(7), gets(1), letsOut(1, 2)), nil, goes20(all, outEvent(2, b))},
		{"a register that is set", codeOf(constant(7), sets(2, 0)), nil, goes20(sumsOf(a, b, word(7), d))},
		{"a register that is set to another", codeOf(gets(0), sets(3, 0)), nil, goes20(sumsOf(a, b, c, a))},
		{"both turned round", codeOf(gets(0), gets(1), sets(0, 1), sets(1, 0)), nil, goes20(sumsOf(b, a, c, d))},
		{"what is loaded is set", codeOf(constant(9), loads(0, 0), sets(1, 1)), []impl.TabAtom{loaded(0)}, goes20(sumsOf(a, atom(4), c, d), loadEvent(0, word(9), all))},
		{"what comes in is set and goes out", codeOf(letsIn(0), sets(1, 0), letsOut(0, 1)), []impl.TabAtom{cameIn(0)}, goes20(sumsOf(a, atom(4), c, d), inEvent(0), outEvent(1, atom(4)))},
		{"each kind", ended(eachKind(), impl.EndGo, 0, 0, 20), []impl.TabAtom{loaded(0), cameIn(0)}, goes20(sumsOf(a, b, c, sumOf(part(9), part(1, 1))),
			loadEvent(1, word(9), all), storeEvent(2, word(9), atom(4), all), inEvent(0), outEvent(1, atom(5)))},
		{"each kind between others", codeOf(letsIn(0), letsOut(0, 0), gets(0), gets(1), reckons(impl.OpAdd, 2, 3), sets(0, 4), loads(4, 1), stores(6, 4, 1), letsOut(6, 2), letsIn(2), sets(3, 9)),
			[]impl.TabAtom{cameIn(0), loaded(0), cameIn(1)}, goes20(sumsOf(aAndB, b, c, atom(6)),
				inEvent(0), outEvent(0, atom(4)), loadEvent(1, aAndB, sumsOf(aAndB, b, c, d)), storeEvent(1, atom(5), aAndB, sumsOf(aAndB, b, c, d)), outEvent(2, atom(5)), inEvent(2))},
	})
}

// Words are counted one by one, each kind on its own, whatever else is seen between them.
func TestP70OneByOne(t *testing.T) {
	word, atom := impl.PolConst, impl.PolAtom
	all := fourSums()
	holdSightings(t, []sighting{
		{"two that are loaded from one address", codeOf(constant(9), loads(0, 0), loads(0, 1), reckons(impl.OpSub, 1, 2), sets(0, 3)), []impl.TabAtom{loaded(0), loaded(1)},
			goes20(sumsOf(sumOf(part(1, 4), part(65535, 5)), atom(1), atom(2), atom(3)), loadEvent(0, word(9), all), loadEvent(1, word(9), all))},
		{"two that come in", codeOf(letsIn(0), letsIn(0), sets(0, 1), sets(1, 0)), []impl.TabAtom{cameIn(0), cameIn(1)},
			goes20(sumsOf(atom(5), atom(4), atom(2), atom(3)), inEvent(0), inEvent(0))},
		{"in turns", codeOf(constant(9), loads(0, 0), letsIn(0), stores(0, 2, 0), loads(0, 1), letsOut(1, 1), letsIn(2), sets(0, 1), sets(1, 2), sets(2, 4), sets(3, 6)),
			[]impl.TabAtom{loaded(0), cameIn(0), loaded(1), cameIn(1)},
			goes20(sumsOf(atom(4), atom(5), atom(6), atom(7)), loadEvent(0, word(9), all), inEvent(0), storeEvent(0, word(9), atom(5), all), loadEvent(1, word(9), all), outEvent(1, atom(4)), inEvent(2))},
		{"what was stored is not what is loaded", codeOf(constant(40), constant(7), stores(0, 1, 0), loads(0, 1), sets(0, 3)), []impl.TabAtom{loaded(0)},
			goes20(sumsOf(atom(4), atom(1), atom(2), atom(3)), storeEvent(0, word(40), word(7), all), loadEvent(1, word(40), all))},
	})
	// As many as there may be.
	ops := opsOf(constant(9))
	var more []impl.TabAtom
	var events []impl.SymEvent
	for k := range 23 {
		ops = append(ops, loads(0, k%3), letsIn(k%3))
		more = append(more, loaded(k), cameIn(k))
		events = append(events, loadEvent(k%3, word(9), all), inEvent(k%3))
	}
	ops = append(ops, sets(2, 46))
	holdSightings(t, []sighting{{"as many as there may be", codeOf(ops...), more, goes20(sumsOf(atom(0), atom(1), atom(49), atom(3)), events...)}})
}

// What the registers are is what they are then: ahead of a load or store, and not behind it.
func TestP70RegistersThen(t *testing.T) {
	word, atom := impl.PolConst, impl.PolAtom
	a, b, c, d := atom(0), atom(1), atom(2), atom(3)
	all := fourSums()
	holdSightings(t, []sighting{
		{"got, set, and got again", codeOf(gets(0), constant(40), sets(0, 1), gets(0), letsOut(0, 0), letsOut(3, 1), sets(1, 0), sets(2, 3)), nil,
			goes20(sumsOf(word(40), a, word(40), d), outEvent(0, a), outEvent(1, word(40)))},
		{"set behind a load", codeOf(constant(9), loads(0, 0), constant(7), sets(1, 2)), []impl.TabAtom{loaded(0)},
			goes20(sumsOf(a, word(7), c, d), loadEvent(0, word(9), all))},
		{"set ahead of a load", codeOf(constant(9), constant(7), sets(1, 1), loads(0, 0)), []impl.TabAtom{loaded(0)},
			goes20(sumsOf(a, word(7), c, d), loadEvent(0, word(9), sumsOf(a, word(7), c, d)))},
		{"set behind a store", codeOf(constant(9), stores(0, 0, 0), constant(7), sets(1, 2)), nil,
			goes20(sumsOf(a, word(7), c, d), storeEvent(0, word(9), word(9), all))},
		{"set ahead of a store", codeOf(constant(9), constant(7), sets(1, 1), stores(0, 0, 0)), nil,
			goes20(sumsOf(a, word(7), c, d), storeEvent(0, word(9), word(9), sumsOf(a, word(7), c, d)))},
		{"set between, and set back", codeOf(gets(0), constant(7), loads(0, 0), sets(0, 1), loads(0, 1), sets(0, 0), stores(0, 1, 2), sets(0, 2)), []impl.TabAtom{loaded(0), loaded(1)},
			goes20(sumsOf(atom(4), b, c, d), loadEvent(0, a, all), loadEvent(1, a, sumsOf(word(7), b, c, d)), storeEvent(2, a, word(7), all))},
		{"got, set by it, got again, beside a load and a store", codeOf(gets(0), constant(1), loads(0, 0), reckons(impl.OpAdd, 0, 1), sets(0, 3), gets(0), stores(5, 2, 1), sets(2, 5), loads(5, 2), sets(3, 8)), []impl.TabAtom{loaded(0), loaded(1)},
			goes20(sumsOf(sumOf(part(1), part(1, 0)), b, sumOf(part(1), part(1, 0)), atom(5)),
				loadEvent(0, a, all),
				storeEvent(1, sumOf(part(1), part(1, 0)), atom(4), sumsOf(sumOf(part(1), part(1, 0)), b, c, d)),
				loadEvent(2, sumOf(part(1), part(1, 0)), sumsOf(sumOf(part(1), part(1, 0)), b, sumOf(part(1), part(1, 0)), d)))},
	})
}

func TestP82WhatIsReckoned(t *testing.T) {
	word, atom := impl.PolConst, impl.PolAtom
	a, b, c, d := atom(0), atom(1), atom(2), atom(3)
	both := did(impl.OpAnd, a, b)
	holdSightings(t, []sighting{
		{"one that puts an atom", codeOf(gets(0), gets(1), reckons(impl.OpAnd, 0, 1), sets(0, 2)), []impl.TabAtom{both}, goes20(sumsOf(atom(4), b, c, d))},
		{"one that nobody uses puts it, too", codeOf(gets(0), gets(1), reckons(impl.OpAnd, 0, 1)), []impl.TabAtom{both}, goes20(fourSums())},
		{"one that finds it there", codeOf(gets(0), gets(1), reckons(impl.OpAnd, 0, 1), reckons(impl.OpAnd, 0, 1), sets(0, 2), sets(1, 3)), []impl.TabAtom{both}, goes20(sumsOf(atom(4), atom(4), c, d))},
		{"one that finds it in the other order", codeOf(gets(0), gets(1), reckons(impl.OpAnd, 1, 0), reckons(impl.OpAnd, 0, 1), sets(0, 2), sets(1, 3)), []impl.TabAtom{both}, goes20(sumsOf(atom(4), atom(4), c, d))},
		{"two that put two", codeOf(gets(0), gets(1), reckons(impl.OpAnd, 0, 1), reckons(impl.OpXor, 0, 2), sets(0, 2), sets(1, 3)), []impl.TabAtom{both, did(impl.OpXor, a, atom(4))}, goes20(sumsOf(atom(4), atom(5), c, d))},
		{"one that puts none", codeOf(gets(0), gets(1), reckons(impl.OpMul, 0, 1), sets(0, 2)), nil, goes20(sumsOf(sumOf(part(1, 0, 1)), b, c, d))},
		{"of two words", codeOf(constant(12), constant(10), reckons(impl.OpXor, 0, 1), sets(0, 2)), nil, goes20(sumsOf(word(6), b, c, d))},
		{"of a difference, in its order", codeOf(gets(0), gets(1), reckons(impl.OpSub, 1, 0), sets(0, 2)), nil, goes20(sumsOf(sumOf(part(65535, 0), part(1, 1)), b, c, d))},
		{"of it and itself", codeOf(gets(2), reckons(impl.OpXor, 0, 0), sets(0, 1), reckons(impl.OpAnd, 0, 0), sets(1, 3)), nil, goes20(sumsOf(nothing, c, c, d))},
		{"of what comes to it", codeOf(gets(2), constant(5), reckons(impl.OpAdd, 0, 1), reckons(impl.OpSub, 2, 1), sets(0, 3)), nil, goes20(sumsOf(c, b, c, d))},
		{"of a word that was loaded", codeOf(constant(9), loads(0, 0), constant(255), reckons(impl.OpAnd, 1, 2), sets(0, 3)), []impl.TabAtom{loaded(0), did(impl.OpAnd, word(255), atom(4))},
			goes20(sumsOf(atom(5), b, c, d), loadEvent(0, word(9), fourSums()))},
	})
	// What is there already is found, where it stands.
	there := with(fourRegisters(), loaded(7), both, cameIn(3))
	holdSight(t, "there ahead of the code", there, codeOf(gets(0), gets(1), reckons(impl.OpAnd, 1, 0), sets(3, 2)), there, goes20(sumsOf(a, b, c, atom(5))))
}

func TestP37HowCodeGoesOn(t *testing.T) {
	word, atom := impl.PolConst, impl.PolAtom
	a, b, c, d := atom(0), atom(1), atom(2), atom(3)
	all := fourSums()
	and := []impl.TabAtom{did(impl.OpAnd, a, b)}
	on := func(end int, x, y impl.TrmPoly, k int) impl.SymSym {
		return impl.SymSym{Regs: all, End: end, X: x, Y: y, K: k}
	}
	two, less2 := opsOf(gets(0), constant(2), reckons(impl.OpAdd, 0, 1)), opsOf(gets(0), constant(2), reckons(impl.OpAdd, 0, 1), reckons(impl.OpSub, 2, 1))
	from := func(ops []impl.IrOp, end, x, y, k int) impl.IrBlock { return ended(codeOf(ops...), end, x, y, k) }
	holdSightings(t, []sighting{
		{"at a place", from(two, impl.EndGo, 0, 0, 65535), nil, on(impl.EndGo, nothing, nothing, 65535)},
		{"at the first place", from(nil, impl.EndGo, 0, 0, 0), nil, on(impl.EndGo, nothing, nothing, 0)},
		{"at a word", from(two, impl.EndWord, 1, 0, 0), nil, on(impl.EndGo, nothing, nothing, 2)},
		{"at 0", from(opsOf(constant(0)), impl.EndWord, 0, 0, 0), nil, on(impl.EndGo, nothing, nothing, 0)},
		{"at the last word", from(opsOf(constant(65535)), impl.EndWord, 0, 0, 0), nil, on(impl.EndGo, nothing, nothing, 65535)},
		{"at a register", from(two, impl.EndWord, 0, 0, 0), nil, on(impl.EndWord, a, nothing, 0)},
		{"at what is reckoned", from(two, impl.EndWord, 2, 0, 0), nil, on(impl.EndWord, sumOf(part(2), part(1, 0)), nothing, 0)},
		{"at a word that is known from what was reckoned", from(append(less2, reckons(impl.OpSub, 2, 3)), impl.EndWord, 4, 0, 0), nil, on(impl.EndGo, nothing, nothing, 2)},
		{"at a word that was reckoned of words", from(opsOf(constant(300), reckons(impl.OpMul, 0, 0)), impl.EndWord, 1, 0, 0), nil, on(impl.EndGo, nothing, nothing, 24464)},
		{"if two words are the same", from(opsOf(constant(3), constant(3)), impl.EndSame, 0, 1, 20), nil, on(impl.EndGo, nothing, nothing, 20)},
		{"if a register is a word", from(two, impl.EndSame, 0, 1, 20), nil, on(impl.EndSame, word(2), a, 20)},
		{"if two words are the same that differ", from(opsOf(constant(3), constant(4)), impl.EndSame, 0, 1, 20), nil, on(impl.EndGo, nothing, nothing, 8)},
		{"if one is less", from(opsOf(constant(3), constant(4)), impl.EndLess, 0, 1, 20), nil, on(impl.EndGo, nothing, nothing, 20)},
		{"if one is less that is greater", from(opsOf(constant(3), constant(4)), impl.EndLess, 1, 0, 20), nil, on(impl.EndGo, nothing, nothing, 8)},
		{"if one is less than itself", from(two, impl.EndLess, 0, 0, 20), nil, on(impl.EndGo, nothing, nothing, 8)},
		{"if one is the same as itself", from(two, impl.EndSame, 2, 2, 20), nil, on(impl.EndGo, nothing, nothing, 20)},
		{"if two are the same that are so only by what was reckoned", from(less2, impl.EndSame, 3, 0, 20), nil, on(impl.EndGo, nothing, nothing, 20)},
		{"if one is less that is the same only by what was reckoned", from(less2, impl.EndLess, 3, 0, 20), nil, on(impl.EndGo, nothing, nothing, 8)},
		{"if two registers are the same", from(opsOf(gets(1), gets(3)), impl.EndSame, 0, 1, 20), nil, on(impl.EndSame, b, d, 20)},
		{"if two registers are the same, the other one first", from(opsOf(gets(1), gets(3)), impl.EndSame, 1, 0, 20), nil, on(impl.EndSame, b, d, 20)},
		{"if one register is less", from(opsOf(gets(1), gets(3)), impl.EndLess, 0, 1, 20), nil, on(impl.EndLess, b, d, 20)},
		{"if the other register is less", from(opsOf(gets(1), gets(3)), impl.EndLess, 1, 0, 20), nil, on(impl.EndLess, d, b, 20)},
		{"if a sum and a word are the same", from(two, impl.EndSame, 2, 1, 20), nil, on(impl.EndSame, word(2), sumOf(part(2), part(1, 0)), 20)},
		{"if a sum is less than a word", from(two, impl.EndLess, 2, 1, 20), nil, on(impl.EndLess, sumOf(part(2), part(1, 0)), word(2), 20)},
		{"if a word is less than 0, which nobody sees", from(opsOf(gets(0), constant(0)), impl.EndLess, 0, 1, 20), nil, on(impl.EndLess, a, nothing, 20)},
		{"if a sum is the same as one that never is", from(two, impl.EndSame, 0, 2, 20), nil, on(impl.EndSame, a, sumOf(part(2), part(1, 0)), 20)},
		{"if atoms are the same", from(opsOf(gets(0), gets(1), reckons(impl.OpAnd, 0, 1), reckons(impl.OpAnd, 1, 0)), impl.EndSame, 2, 3, 20), and, on(impl.EndGo, nothing, nothing, 20)},
		{"at an atom", from(opsOf(gets(0), gets(1), reckons(impl.OpAnd, 0, 1)), impl.EndWord, 2, 0, 0), and, on(impl.EndWord, atom(4), nothing, 0)},
		{"at what was got, not at what was set", from(opsOf(gets(2), constant(7), sets(2, 1), sets(2, 0)), impl.EndWord, 0, 0, 0), nil, on(impl.EndWord, c, nothing, 0)},
	})
	// The place behind is that of this code.
	for long := 1; long <= 8; long++ {
		for _, pc := range []int{0, 5, 63 - long, 64 - long} {
			code := impl.IrBlock{Pc: pc, Len: long, Ops: opsOf(gets(0), constant(1)), End: impl.EndLess, K: 65535}
			holdSight(t, "the place behind", noTab, code, fourRegisters(), on(impl.EndGo, nothing, nothing, pc+long))
			holdSight(t, "the place behind", noTab, ended(code, impl.EndSame, 1, 1, 9), fourRegisters(), on(impl.EndGo, nothing, nothing, 9))
		}
	}
}

// By hand: atoms that hold some registers and not others, in another order, or words that are loaded and come in already.
func TestP82AtomsThatAreThere(t *testing.T) {
	word, atom := impl.PolConst, impl.PolAtom
	b := codeOf(constant(9), loads(0, 0), loads(0, 1), letsIn(1), gets(3), letsOut(4, 2), sets(0, 1), sets(1, 2), sets(2, 3))
	for _, c := range []struct {
		what string
		tab  impl.TabTab
		more []impl.TabAtom
		// regs are where the registers stand, set what the first three are behind the code: both words that are loaded, and the one that comes in.
		regs, set []int
	}{
		{"none", noTab, []impl.TabAtom{register(0), register(1), register(2), register(3), loaded(0), loaded(1), cameIn(0)}, []int{0, 1, 2, 3}, []int{4, 5, 6}},
		{"one register", tabOf(register(2)), []impl.TabAtom{register(0), register(1), register(3), loaded(0), loaded(1), cameIn(0)}, []int{1, 2, 0, 3}, []int{4, 5, 6}},
		{"two, the last first", tabOf(register(3), register(1)), []impl.TabAtom{register(0), register(2), loaded(0), loaded(1), cameIn(0)}, []int{2, 1, 3, 0}, []int{4, 5, 6}},
		{"all, the other way round", tabOf(register(3), register(2), register(1), register(0)), []impl.TabAtom{loaded(0), loaded(1), cameIn(0)}, []int{3, 2, 1, 0}, []int{4, 5, 6}},
		{"the second that is loaded", tabOf(register(3), loaded(1), register(1)), []impl.TabAtom{register(0), register(2), loaded(0), cameIn(0)}, []int{3, 2, 4, 0}, []int{5, 1, 6}},
		{"the first that is loaded, and comes in", tabOf(cameIn(0), loaded(0)), []impl.TabAtom{register(0), register(1), register(2), register(3), loaded(1)}, []int{2, 3, 4, 5}, []int{1, 6, 0}},
		{"others that are loaded, and come in", tabOf(cameIn(1), loaded(5), cameIn(199)), []impl.TabAtom{register(0), register(1), register(2), register(3), loaded(0), loaded(1), cameIn(0)}, []int{3, 4, 5, 6}, []int{7, 8, 9}},
		{"what is reckoned", tabOf(register(0), did(impl.OpXor, impl.PolAtom(0), impl.PolConst(3))), []impl.TabAtom{register(1), register(2), register(3), loaded(0), loaded(1), cameIn(0)}, []int{0, 2, 3, 4}, []int{5, 6, 7}},
		{"all of them", tabOf(loaded(1), cameIn(0), register(1), register(0), loaded(0), register(3), register(2)), nil, []int{3, 2, 6, 5}, []int{4, 0, 1}},
	} {
		at := func(r int) impl.TrmPoly { return atom(c.regs[r]) }
		all := sumsOf(at(0), at(1), at(2), at(3))
		want := goes20(sumsOf(atom(c.set[0]), atom(c.set[1]), atom(c.set[2]), at(3)), loadEvent(0, word(9), all), loadEvent(1, word(9), all), inEvent(1), outEvent(2, at(3)))
		holdSight(t, c.what, c.tab, b, with(c.tab, c.more...), want)
		holdSight(t, c.what+", once more", with(c.tab, c.more...), b, with(c.tab, c.more...), want)
	}
}

// As many atoms as there may be, and as many behind them as code may put.
func TestP82HalfOfAllAtoms(t *testing.T) {
	var hundred impl.TabTab
	for k := 100; k < 200; k++ {
		hundred = with(hundred, loaded(k))
	}
	b := codeOf(slices.Repeat(opsOf(letsIn(1)), 48)...)
	want := with(hundred, register(0), register(1), register(2), register(3))
	seen := goes20(sumsOf(impl.PolAtom(100), impl.PolAtom(101), impl.PolAtom(102), impl.PolAtom(103)))
	for k := range 48 {
		want = with(want, cameIn(k))
		seen.Events = append(seen.Events, inEvent(1))
	}
	holdSight(t, "a hundred, and all that code may put", hundred, b, want, seen)
	if len(want.Atoms) != 152 || !impl.TabOk(want) {
		t.Fatalf("there are %d", len(want.Atoms))
	}
	holdSight(t, "more than half, the code's own", want, b, noTab, noSym)
	holdSight(t, "more than half", with(hundred, register(0)), b, noTab, noSym)
	// What is reckoned of the last ones puts the last atoms that there may be.
	ops := opsOf(gets(0), gets(1))
	for len(ops) < 48 {
		ops = append(ops, reckons(impl.OpXor, len(ops)-2, len(ops)-1))
	}
	for many, fits := range map[int]bool{98: true, 99: true, 100: true, 101: false, 102: false} {
		for _, start := range []impl.TabTab{noTab, base(), tabOf(register(3))} {
			tab := filledUp(start, many)
			for _, code := range []impl.IrBlock{codeOf(), b, codeOf(ops...), ended(codeOf(ops...), impl.EndWord, 47, 0, 0)} {
				got, s := impl.SymRun(tab, code)
				second, wanted := wantedSight(tab, code)
				if !sameTab(got, second) || !sameSym(s, wanted) || fits != (len(s.Regs) == 4) || fits != (len(got.Atoms) >= many) {
					t.Fatalf("with %d atoms: %v, %+v", many, got, s)
				}
			}
		}
	}
}

// anyStart is atoms that code may begin with: SymNew's, none, or any, in any order.
func (d *dice) anyStart() impl.TabTab {
	switch d.below(5) {
	case 0, 1:
		return fourRegisters()
	case 2:
		return noTab
	case 3:
		tab, many := d.anyTab(20), d.of(40, 80, 99, 100)
		for k := 0; len(tab.Atoms) < many; k++ {
			if a := cameIn(k); !slices.ContainsFunc(tab.Atoms, func(b impl.TabAtom) bool { return sameAtom(a, b) }) {
				tab = with(tab, a)
			}
		}
		return tab
	}
	return d.anyTab(d.of(3, 10, 30))
}

// anySeen is a piece of code that is ok: of instructions, or any; some hardly load and store, so that they are gone through whole.
func (d *dice) anySeen() impl.IrBlock {
	switch d.below(4) {
	case 0:
		return impl.BlkLower(d.anyPiece())
	case 1:
		return d.anyBlock(impl.IrConst, impl.IrGet, impl.IrGet, impl.IrDo, impl.IrDo, impl.IrDo, impl.IrIn, impl.IrOut, impl.IrSet)
	case 2:
		return d.anyBlock(impl.IrConst, impl.IrConst, impl.IrGet, impl.IrDo, impl.IrDo, impl.IrLoad, impl.IrStore, impl.IrIn, impl.IrOut, impl.IrSet)
	}
	return d.anyBlock(allKinds...)
}

// toldMachine is what a machine at a piece of code is behind it by what was seen alone: event by event, with the words that were loaded and came in so far; and at which event it is left, or -1.
func toldMachine(tab impl.TabTab, s impl.SymSym, b impl.IrBlock, before impl.MchMach) (impl.MchMach, int) {
	m := apart(before)
	w := world{regs: before.Regs}
	come := func(list ...impl.TrmPoly) []int {
		vals := w.vals(tab)
		var out []int
		for _, p := range list {
			out = append(out, impl.PolEval(p, vals))
		}
		return out
	}
	for which, e := range s.Events {
		both := come(e.X, e.Y)
		x, y := both[0], both[1]
		reaches := e.Kind == impl.IrLoad || e.Kind == impl.IrStore
		switch {
		case reaches && x > 63:
			m.Regs, m.Halt, m.Pc, m.Count = come(e.Regs...), impl.HaltReach, b.Pc+e.At, m.Count+e.At
			return m, which
		case e.Kind == impl.IrLoad:
			w.loads = append(w.loads, m.Mem[x])
		case e.Kind == impl.IrStore:
			m.Mem[x] = y
			if x > b.Pc+e.At && x < b.Pc+b.Len {
				m.Regs, m.Pc, m.Count = come(e.Regs...), b.Pc+e.At+1, m.Count+e.At+1
				return m, which
			}
		case e.Kind == impl.IrIn:
			next := append(slices.Clone(m.Ins), 0)
			w.ins, m.Ins = append(w.ins, next[0]), m.Ins[min(1, len(m.Ins)):]
		case e.Kind == impl.IrOut:
			m.Outs = append(m.Outs, x)
		}
	}
	both := come(s.X, s.Y)
	m.Regs, m.Count, m.Pc = come(s.Regs...), m.Count+b.Len, s.K
	switch {
	case s.End == impl.EndWord:
		m.Pc = both[0]
	case s.End == impl.EndSame && both[0] != both[1], s.End == impl.EndLess && both[0] >= both[1]:
		m.Pc = b.Pc + b.Len
	}
	return m, -1
}

// reachingOps are the places of the operations of code that reach out.
func reachingOps(b impl.IrBlock) []int {
	var out []int
	for place, o := range b.Ops {
		if o.Kind >= 4 && o.Kind <= 7 {
			out = append(out, place)
		}
	}
	return out
}

// holdSeen fails unless what is seen of code is what it does to a machine at it; it says how it is left.
func holdSeen(t *testing.T, what string, tab impl.TabTab, b impl.IrBlock, m impl.MchMach) string {
	t.Helper()
	got, s := impl.SymRun(tab, b)
	x, ok := impl.IrRun(b, m)
	told, left := toldMachine(got, s, b, m)
	if !ok || !sameMachine(x, told) {
		t.Fatalf("%s: %+v of %+v leads to\n%+v, but is seen to lead to\n%+v", what, b, m, x, told)
	}
	switch {
	case left < 0:
		return "whole"
	case x.Halt == impl.HaltNone:
		return "over"
	case s.Events[left].Kind == impl.IrLoad:
		return "missed by a load"
	}
	return "missed by a store"
}

// holdSeenOneByOne fails unless each event that a machine comes to is what the words of its operation are there, all ahead of it being gone through by IrRun.
func holdSeenOneByOne(t *testing.T, tab impl.TabTab, b impl.IrBlock, m impl.MchMach) {
	t.Helper()
	got, s := impl.SymRun(tab, b)
	w := world{regs: m.Regs}
	last := firstLeft(b, m)
	comes := slices.Clone(m.Ins)
	for which, place := range reachingOps(b) {
		if place > last {
			return
		}
		o, e, vals := b.Ops[place], s.Events[which], w.vals(got)
		if kindRows[o.Kind].x && impl.PolEval(e.X, vals) != wordOf(t, b, place, o.X, m) {
			t.Fatalf("%+v of %+v: X of event %d comes to %d", b, m, which, impl.PolEval(e.X, vals))
		}
		if kindRows[o.Kind].y && impl.PolEval(e.Y, vals) != wordOf(t, b, place, o.Y, m) {
			t.Fatalf("%+v of %+v: Y of event %d comes to %d", b, m, which, impl.PolEval(e.Y, vals))
		}
		ahead := ended(b, impl.EndGo, 0, 0, 0)
		ahead.Ops = b.Ops[:place]
		x, _ := impl.IrRun(ahead, m)
		for r, p := range e.Regs {
			if impl.PolEval(p, vals) != x.Regs[r] {
				t.Fatalf("%+v of %+v: register %d beside event %d comes to %d, not %d", b, m, r, which, impl.PolEval(p, vals), x.Regs[r])
			}
		}
		switch {
		case place == last:
			return
		case o.Kind == impl.IrLoad:
			w.loads = append(w.loads, wordOf(t, b, place+1, place, m))
		case o.Kind == impl.IrIn && len(comes) > 0:
			w.ins, comes = append(w.ins, comes[0]), comes[1:]
		case o.Kind == impl.IrIn:
			w.ins = append(w.ins, 0)
		}
	}
}

func TestP3WhatIsSeenIsWhatItDoes(t *testing.T) {
	d := dice(333000111)
	seen := map[string]int{}
	ends := map[[2]int]int{}
	for range 5000 {
		b, tab := d.anySeen(), d.anyStart()
		for range 4 {
			m := d.anyAt(b)
			how := holdSeen(t, "any code", tab, b, m)
			seen[how]++
			if how == "whole" {
				_, s := impl.SymRun(tab, b)
				ends[[2]int{b.End, s.End}]++
			}
		}
	}
	for _, how := range []string{"whole", "over", "missed by a load", "missed by a store"} {
		if seen[how] < 1000 {
			t.Fatalf("seen: %v", seen)
		}
	}
	for _, kind := range [][2]int{{1, 1}, {2, 1}, {2, 2}, {3, 1}, {3, 3}, {4, 1}, {4, 4}} {
		if ends[kind] < 200 {
			t.Fatalf("Ends: %v", ends)
		}
	}
}

func TestP3EventByEvent(t *testing.T) {
	d := dice(330033003)
	for range 6000 {
		b := d.anySeen()
		holdSeenOneByOne(t, d.anyStart(), b, d.anyAt(b))
	}
}

// A machine in whose words its instructions stand, and that does them one by one, is what is seen of their code.
func TestP3BesideInstructions(t *testing.T) {
	d := dice(330000033)
	seen := map[string]int{}
	for range 6000 {
		pc, list := d.anyPiece()
		b := impl.BlkLower(pc, list)
		m := d.anyThere(pc, list)
		how := holdSeen(t, "instructions", fourRegisters(), b, m)
		seen[how]++
		got, s := impl.SymRun(fourRegisters(), b)
		told, _ := toldMachine(got, s, b, m)
		steps := told.Count - m.Count
		if told.Halt != impl.HaltNone {
			steps++
		}
		holdMachine(t, "step by step", told, impl.MchRun(m, nil, steps))
	}
	for _, how := range []string{"whole", "over", "missed by a load", "missed by a store"} {
		if seen[how] < 200 {
			t.Fatalf("seen: %v", seen)
		}
	}
}

// Where code is left, by hand: at each place, for each instruction, at each address, with registers set ahead and behind.
func TestP3WhereItIsLeft(t *testing.T) {
	reachPlaces(func(pc, long, at int) {
		for _, store := range []bool{false, true} {
			b := reaching(pc, long, at, store)
			m := standing(b)
			for address := range 70 {
				m.Regs[1] = address
				want := "whole"
				switch {
				case address > 63 && store:
					want = "missed by a store"
				case address > 63:
					want = "missed by a load"
				case store && pc+at < address && address < pc+long:
					want = "over"
				}
				if how := holdSeen(t, "where it is left", fourRegisters(), b, m); how != want {
					t.Fatalf("at address %d of %+v: %s, not %s", address, b, how, want)
				}
			}
		}
	})
}

func TestP3AMachineByHand(t *testing.T) {
	// A register is set ahead of a load and behind it; the load's address is that register's first word, twice.
	b := codeOf(gets(0), reckons(impl.OpAdd, 0, 0), sets(1, 1), loads(1, 1), sets(2, 3), letsIn(1), reckons(impl.OpXor, 3, 5), letsOut(6, 2))
	b = ended(b, impl.EndLess, 3, 5, 40)
	tab, s := impl.SymRun(noTab, b)
	xor := did(impl.OpXor, impl.PolAtom(4), impl.PolAtom(5))
	double := sumOf(part(2, 0))
	if !sameTab(tab, with(fourRegisters(), loaded(0), cameIn(0), xor)) {
		t.Fatalf("atoms are %v", tab)
	}
	holdSym(t, "by hand", s, impl.SymSym{
		Events: []impl.SymEvent{loadEvent(1, double, sumsOf(impl.PolAtom(0), double, impl.PolAtom(2), impl.PolAtom(3))), inEvent(1), outEvent(2, impl.PolAtom(6))},
		Regs:   sumsOf(impl.PolAtom(0), double, impl.PolAtom(4), impl.PolAtom(3)),
		End:    impl.EndLess, X: impl.PolAtom(4), Y: impl.PolAtom(5), K: 40,
	})
	m := goesOn(nil, nil)
	m.Mem[14] = 10
	told, left := toldMachine(tab, s, b, m)
	if left >= 0 {
		t.Fatalf("it is left at event %d", left)
	}
	holdMachine(t, "gone through whole", told, turned(m, func(m *impl.MchMach) {
		m.Regs, m.Ins, m.Outs, m.Pc, m.Count = []int{7, 14, 10, 10}, []int{12}, []int{13, 1}, 40, 103
	}))
	m.Mem[14] = 11
	told, _ = toldMachine(tab, s, b, m)
	holdMachine(t, "gone on behind it", told, turned(m, func(m *impl.MchMach) {
		m.Regs, m.Ins, m.Outs, m.Pc, m.Count = []int{7, 14, 11, 10}, []int{12}, []int{13, 0}, 8, 103
	}))
	m.Regs[0] = 32
	told, left = toldMachine(tab, s, b, m)
	if left != 0 {
		t.Fatalf("it is left at event %d", left)
	}
	holdMachine(t, "left at the load", told, turned(m, func(m *impl.MchMach) {
		m.Regs, m.Pc, m.Count, m.Halt = []int{32, 64, 65535, 10}, 6, 101, impl.HaltReach
	}))
}

func TestP70EachThatReachesOut(t *testing.T) {
	d := dice(707070707)
	kinds := map[int]int{}
	for range 10000 {
		b := d.anySeen()
		tab, s := impl.SymRun(d.anyStart(), b)
		places := reachingOps(b)
		if len(s.Events) != len(places) || len(s.Events) != impl.IrEvents(b) {
			t.Fatalf("%+v has %d events", b, len(s.Events))
		}
		for which, place := range places {
			o, e := b.Ops[place], s.Events[which]
			many := 0
			if o.Kind == impl.IrLoad || o.Kind == impl.IrStore {
				many = 4
			}
			if e.Kind != o.Kind || e.At != o.At || len(e.Regs) != many {
				t.Fatalf("event %d of %+v is %+v", which, b, e)
			}
			if !kindRows[o.Kind].x && len(e.X.Monos) > 0 || !kindRows[o.Kind].y && len(e.Y.Monos) > 0 {
				t.Fatalf("event %d of %+v has what it has not: %+v", which, b, e)
			}
			for _, p := range append(sumsOf(e.X, e.Y), e.Regs...) {
				if !sumStands(p, len(tab.Atoms)) {
					t.Fatalf("event %d of %+v has the sum %v of %d atoms", which, b, p, len(tab.Atoms))
				}
			}
			kinds[o.Kind]++
		}
		if len(s.Regs) != 4 {
			t.Fatalf("%+v leaves %d registers", b, len(s.Regs))
		}
		for _, p := range append(sumsOf(s.X, s.Y), s.Regs...) {
			if !sumStands(p, len(tab.Atoms)) {
				t.Fatalf("%+v has the sum %v of %d atoms", b, p, len(tab.Atoms))
			}
		}
	}
	for kind := 4; kind <= 7; kind++ {
		if kinds[kind] < 1000 {
			t.Fatalf("kinds: %v", kinds)
		}
	}
}

func TestP70TheSecondTelling(t *testing.T) {
	d := dice(700070007)
	for range 4000 {
		b, tab := d.anySeen(), d.anyStart()
		want, wanted := wantedSight(tab, b)
		holdSight(t, "any code", tab, b, want, wanted)
	}
}

func TestP82AtomsThatAreThereStay(t *testing.T) {
	d := dice(828282821)
	again, tooMany, most := 0, 0, 0
	for range 6000 {
		b, tab := d.anySeen(), d.anyStart()
		got, s := impl.SymRun(tab, b)
		if !impl.TabOk(got) || len(got.Atoms) < len(tab.Atoms) || !sameTab(tabOf(got.Atoms[:len(tab.Atoms)]...), tab) {
			t.Fatalf("atoms that were there: %v, then %v", tab, got)
		}
		more := len(got.Atoms) - len(tab.Atoms)
		if more > len(b.Ops)+4 {
			t.Fatalf("%+v puts %d atoms", b, more)
		}
		most = max(most, more)
		if len(got.Atoms) > 100 {
			tooMany++
			holdSight(t, "more than half of all", got, b, noTab, noSym)
			continue
		}
		again++
		holdSight(t, "once more", got, b, got, s)
		holdSight(t, "from the beginning, once more", tab, b, got, s)
		// What another piece of code has put between makes no difference.
		if between, _ := impl.SymRun(got, d.anySeen()); len(between.Atoms) <= 100 {
			holdSight(t, "with others behind", between, b, between, s)
		}
	}
	if again < 2000 || tooMany < 300 || most < 20 {
		t.Fatalf("%d are seen once more, %d have too many atoms, and one puts %d at most", again, tooMany, most)
	}
}

// spansOfSums are those of all lists of sums.
func spansOfSums(list []impl.TrmPoly) []span {
	out := spanOf(list)
	for _, p := range list[:cap(list)] {
		out = append(out, spansOfSum(p)...)
	}
	return out
}

// spansOfSym are those of all lists of what is seen.
func spansOfSym(s impl.SymSym) []span {
	out := slices.Concat(spanOf(s.Events), spansOfSums(s.Regs), spansOfSum(s.X), spansOfSum(s.Y))
	for _, e := range s.Events[:cap(s.Events)] {
		out = slices.Concat(out, spansOfSum(e.X), spansOfSum(e.Y), spansOfSums(e.Regs))
	}
	return out
}

// lentSums are sums whose lists have spare room, which a careless hand would write into.
func lentSums(list []impl.TrmPoly) []impl.TrmPoly {
	out := lentList(list, sumOf(part(7001, 7002)), sumOf(part(7003)))
	for at, p := range out {
		out[at] = lentSum(p)
	}
	return out
}

// lentSym is what is seen, with spare room in each list.
func lentSym(s impl.SymSym) impl.SymSym {
	s.Events = lentList(s.Events, impl.SymEvent{Kind: 7001, Regs: sumsOf(sumOf(part(7002)))}, impl.SymEvent{At: 7003})
	for at, e := range s.Events {
		e.X, e.Y, e.Regs = lentSum(e.X), lentSum(e.Y), lentSums(e.Regs)
		s.Events[at] = e
	}
	s.X, s.Y, s.Regs = lentSum(s.X), lentSum(s.Y), lentSums(s.Regs)
	return s
}

// wholeSums are copies of sums with all that their lists have room for.
func wholeSums(list []impl.TrmPoly) []impl.TrmPoly {
	out := slices.Clone(list[:cap(list)])
	for at, p := range out {
		out[at] = wholeSum(p)
	}
	return out
}

// wholeSym is a copy of what is seen with all that its lists have room for.
func wholeSym(s impl.SymSym) impl.SymSym {
	s.Events = slices.Clone(s.Events[:cap(s.Events)])
	for at, e := range s.Events {
		e.X, e.Y, e.Regs = wholeSum(e.X), wholeSum(e.Y), wholeSums(e.Regs)
		s.Events[at] = e
	}
	s.X, s.Y, s.Regs = wholeSum(s.X), wholeSum(s.Y), wholeSums(s.Regs)
	return s
}

// spoilSums writes over all that sums have room for.
func spoilSums(list []impl.TrmPoly) {
	for at, p := range list[:cap(list)] {
		for _, atoms := range atomLists(p) {
			for k := range atoms {
				atoms[k] = -9
			}
		}
		for k := range p.Monos[:cap(p.Monos)] {
			p.Monos[:cap(p.Monos)][k].Coef = -9
		}
		list[:cap(list)][at] = nothing
	}
}

// spoilSym writes over all of what is seen.
func spoilSym(s impl.SymSym) {
	for at, e := range s.Events[:cap(s.Events)] {
		spoilSums(sumsOf(e.X, e.Y))
		spoilSums(e.Regs)
		s.Events[:cap(s.Events)][at] = impl.SymEvent{Kind: -9}
	}
	spoilSums(s.Regs)
	spoilSums(sumsOf(s.X, s.Y))
}

// spoilTab writes over all of some atoms.
func spoilTab(tab impl.TabTab) {
	for at, a := range tab.Atoms[:cap(tab.Atoms)] {
		spoilSums(sumsOf(a.X, a.Y))
		tab.Atoms[:cap(tab.Atoms)][at] = impl.TabAtom{Kind: -9}
	}
}

func TestP82NothingIsWrittenIntoOrShared(t *testing.T) {
	d := dice(829829829)
	for round := range 4000 {
		tab, b := lentTab(d.anyStart()), lentCode(d.anySeen())
		switch round % 16 {
		case 0:
			tab = lentTab(with(tab, d.anyAtomAtAll()))
		case 1:
			b.End = 9
		case 2:
			tab = lentTab(filledUp(base(), 101))
		}
		want, wanted := wantedSight(tab, b)
		whole, ops := wholeTab(tab), slices.Clone(b.Ops[:cap(b.Ops)])
		one, oneSym := impl.SymRun(tab, b)
		two, twoSym := impl.SymRun(tab, b)
		if !sameTab(wholeTab(tab), whole) || !slices.Equal(b.Ops[:cap(b.Ops)], ops) {
			t.Fatalf("what was given is written into: %v, %v", whole, ops)
		}
		first, second := append(spansOfTab(one), spansOfSym(oneSym)...), append(spansOfTab(two), spansOfSym(twoSym)...)
		given := append(spansOfTab(tab), spanOf(b.Ops)...)
		holdSpans(t, "SymRun", first, append(given, second...))
		holdSpans(t, "SymRun", second, append(given, first...))
		spoilTab(one)
		spoilSym(oneSym)
		if !sameTab(two, want) || !sameSym(twoSym, wanted) {
			t.Fatalf("behind an answer that was written into: %v, %+v", two, twoSym)
		}
		holdSight(t, "nothing is kept", tab, b, want, wanted)
		runtime.KeepAlive([]any{one, oneSym, two, twoSym, tab, b})
	}
}

// The same sum in many places: X, Y and registers of events, registers behind, and both of End.
func TestP70OneSumInManyPlaces(t *testing.T) {
	b := codeOf(gets(0), gets(1), reckons(impl.OpAdd, 0, 1), sets(0, 2), sets(1, 2), loads(2, 0), stores(2, 2, 0), letsOut(2, 1), loads(2, 1), sets(2, 5), sets(3, 5), stores(5, 5, 2), letsOut(5, 2), reckons(impl.OpAnd, 5, 2))
	for _, end := range [][4]int{{impl.EndWord, 2, 0, 0}, {impl.EndWord, 5, 0, 0}, {impl.EndSame, 5, 2, 20}, {impl.EndLess, 2, 5, 20}, {impl.EndSame, 2, 2, 20}} {
		code := ended(b, end[0], end[1], end[2], end[3])
		for _, tab := range []impl.TabTab{noTab, fourRegisters(), with(fourRegisters(), loaded(1), did(impl.OpAnd, sumOf(part(1, 0), part(1, 1)), sumOf(part(1, 0), part(1, 1))))} {
			got, s := impl.SymRun(tab, code)
			holdSpans(t, "one sum in many places", append(spansOfTab(got), spansOfSym(s)...), spansOfTab(tab))
			want, wanted := wantedSight(tab, code)
			both := sumOf(part(1, 0), part(1, 1))
			if !sameSum(s.Events[0].X, both) || !sameSum(s.Events[0].Regs[0], both) || !sameSum(s.Events[1].Y, both) || !sameSum(s.Regs[1], both) {
				t.Fatalf("the same sum: %+v", s)
			}
			// A sum that is written into turns nothing else.
			s.Events[0].Regs[0].Monos[0].Atoms[0], s.Events[0].Regs[0].Monos[1].Coef = -9, -9
			s.Events[0].Regs[0] = both
			holdSym(t, "one sum that is written into", s, wanted)
			if !sameTab(got, want) {
				t.Fatalf("atoms are %v, not %v", got, want)
			}
			runtime.KeepAlive([]any{got, s, tab})
		}
	}
}

func TestP37NothingIsWrittenIntoOrShared(t *testing.T) {
	d := dice(379379379)
	for round := range 4000 {
		x, y := d.sumPair()
		switch round % 4 {
		case 0:
			x = y
		case 1:
			x, y = impl.PolConst(d.below(3)), impl.PolConst(d.below(3))
		}
		_, plain := impl.SymRun(d.anyStart(), d.anySeen())
		if round%5 == 0 {
			plain = spoiltSym()
		}
		if round%16 == 0 {
			x = d.anySumAtAll()
		}
		s := lentSym(withEnd(plain, d.of(1, 2, 3, 4, 3, 4, 0, 5), x, y, d.anyWord()))
		whole, want := wholeSym(s), wantedEnd(wholePlain(s), 8)
		one, two := impl.SymEnd(s, 8), impl.SymEnd(s, 8)
		if !sameSym(wholeSym(s), whole) {
			t.Fatalf("what was given is written into: %+v, then %+v", whole, s)
		}
		holdSpans(t, "SymEnd", spansOfSym(one), append(spansOfSym(s), spansOfSym(two)...))
		holdSpans(t, "SymEnd", spansOfSym(two), append(spansOfSym(s), spansOfSym(one)...))
		spoilSym(one)
		holdSym(t, "behind an answer that was written into", two, want)
		holdSym(t, "nothing is kept", impl.SymEnd(s, 8), want)
		runtime.KeepAlive([]any{s, one, two})
	}
}

// wholePlain is a copy of what is seen, without its spare room.
func wholePlain(s impl.SymSym) impl.SymSym {
	var events []impl.SymEvent
	for _, e := range s.Events {
		events = append(events, impl.SymEvent{Kind: e.Kind, At: e.At, X: apartSum(e.X), Y: apartSum(e.Y), Regs: plainSums(e.Regs)})
	}
	return impl.SymSym{Events: events, Regs: plainSums(s.Regs), End: s.End, X: apartSum(s.X), Y: apartSum(s.Y), K: s.K}
}

func plainSums(list []impl.TrmPoly) []impl.TrmPoly {
	var out []impl.TrmPoly
	for _, p := range list {
		out = append(out, apartSum(p))
	}
	return out
}

// What is given may be one and the same list in many places; the answer has lists of its own.
func TestP37ListsOverEachOther(t *testing.T) {
	parts := []impl.TrmMono{part(2), part(3, 0), part(5, 1), part(7, 0, 0), part(9, 0, 1, 1)}
	p, q := impl.TrmPoly{Monos: parts[:4]}, impl.TrmPoly{Monos: parts[1:]}
	regs := sumsOf(p, q, p, q)
	event := impl.SymEvent{Kind: impl.IrStore, At: 1, X: p, Y: p, Regs: regs}
	s := impl.SymSym{Events: []impl.SymEvent{event, event, {Kind: impl.IrOut, X: q, Regs: regs[1:3]}}, Regs: regs}
	for _, end := range allEnds()[:6] {
		for _, pair := range [][2]impl.TrmPoly{{p, p}, {p, q}, {q, p}, {q, q}} {
			given := withEnd(s, end, pair[0], pair[1], 20)
			whole := wholePlain(given)
			got := impl.SymEnd(given, 8)
			holdSym(t, "lists over each other", got, wantedEnd(given, 8))
			holdSpans(t, "SymEnd", spansOfSym(got), spansOfSym(given))
			if !sameSym(given, whole) {
				t.Fatalf("what was given is written into: %+v, then %+v", whole, given)
			}
			runtime.KeepAlive([]any{given, got})
		}
	}
}
