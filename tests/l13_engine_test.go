package tests

import (
	"fmt"
	"math"
	"runtime"
	"slices"
	"testing"
	"time"

	"loop.example/latimer/impl"
)

// The signatures that the document gives; another one would not compile here.
var (
	_ func(impl.MchMach) impl.EngEng                                 = impl.EngNew
	_ func(impl.EngEng) bool                                         = impl.EngOk
	_ func(impl.EngEng, []int, int, impl.EngAsk) (impl.EngEng, bool) = impl.EngTurn
	_ func(impl.EngEng, []int, int, []impl.EngAsk) impl.EngEng       = impl.EngRun
	_                                                                = impl.EngEng{Mach: impl.MchMach{}, Cache: []impl.CacEntry{}, Certs: []impl.CerPair{}}
	_                                                                = impl.EngAsk{Own: true, Bytes: []byte{0}}
)

var ownHand = impl.EngAsk{Own: true}

// gives is an ask whose bytes are those of a piece of code.
func gives(b impl.IrBlock) impl.EngAsk { return impl.EngAsk{Bytes: impl.IrBytes(b)} }

func asksOf(list ...impl.EngAsk) []impl.EngAsk { return list }

func irqsAt(list ...int) []int { return list }

func engineOf(m impl.MchMach, kept []impl.CacEntry, certs []impl.CerPair) impl.EngEng {
	return impl.EngEng{Mach: m, Cache: kept, Certs: certs}
}

// withMach is an engine with another machine.
func withMach(e impl.EngEng, m impl.MchMach) impl.EngEng { return engineOf(m, e.Cache, e.Certs) }

func sameEngine(a, b impl.EngEng) bool {
	return sameMachine(a.Mach, b.Mach) && sameKept(a.Cache, b.Cache) && samePairs(a.Certs, b.Certs)
}

// holdEngine fails unless an engine is the wanted one.
func holdEngine(t *testing.T, what string, got, want impl.EngEng) {
	t.Helper()
	if !sameEngine(got, want) {
		t.Fatalf("%s:\n got %+v\nwant %+v", what, got, want)
	}
}

// marked is a piece of code that may stand for another one, and is neither it nor what our own hand makes of it: a word more, that nobody uses.
func marked(b impl.IrBlock) impl.IrBlock {
	return turnedCode(b, func(b *impl.IrBlock) { b.Ops = append(b.Ops, constant(77)) })
}

// wantedMach is what the document asks of MchOk.
func wantedMach(m impl.MchMach) bool {
	for _, n := range slices.Concat(m.Regs, m.Mem, m.Ins, m.Outs, []int{m.Pc, m.Save}) {
		if n < 0 || n > 65535 {
			return false
		}
	}
	return len(m.Regs) == 4 && len(m.Mem) == 64 && m.Halt >= 0 && m.Halt <= 4 && m.Count >= 0 && m.Count <= 1000000
}

// wantedEngine is what the document asks of EngOk.
func wantedEngine(e impl.EngEng) bool {
	return wantedMach(e.Mach) && wantedKept(e.Cache, e.Mach.Mem) && wantedPairs(e.Certs)
}

// wantedAsked is what the document asks of an engine that asks for a piece of code of instructions.
func wantedAsked(e impl.EngEng, list []impl.InsIns, ask impl.EngAsk) impl.EngEng {
	lower := wantedLower(e.Mach.Pc, list)
	made, read := wantedAll(lower), true
	if !ask.Own {
		made, read = wantedRead(ask.Bytes)
	}
	there := slices.ContainsFunc(e.Certs, func(p impl.CerPair) bool { return samePair(p, pairOf(lower, made)) })
	if !read || !there && !wantedStand(lower, made) {
		e.Cache = wantedMore(e.Cache, impl.CacEntry{Words: impl.BlkWords(list), Block: lower})
		return e
	}
	e.Cache = wantedMore(e.Cache, impl.CacEntry{Words: impl.BlkWords(list), Block: made})
	if !there {
		e.Certs = wantedMorePairs(e.Certs, pairOf(lower, made))
	}
	return e
}

// wantedGoing is what the document asks of EngTurn of an engine that is ok.
func wantedGoing(e impl.EngEng, irqs []int, left int, ask impl.EngAsk) (impl.EngEng, bool) {
	m := e.Mach
	if m.Halt != 0 || left < 1 || m.Count == 1000000 {
		return e, false
	}
	comes, asked, plainly := slices.Contains(irqs, m.Count), false, true
	if list := wantedFind(m); !(m.Let && (m.Waits || comes)) {
		if asked = wantedPlace(e.Cache, m.Pc) < 0 && len(list) > 0; asked {
			e = wantedAsked(e, list, ask)
		}
		if place := wantedPlace(e.Cache, m.Pc); place >= 0 {
			b := e.Cache[place].Block
			plainly = b.Len > left || m.Count+b.Len > 1000000
			for at := 1; at < b.Len; at++ {
				plainly = plainly || slices.Contains(irqs, m.Count+at)
			}
			if !plainly {
				e.Mach = wantedPass(b, m)
				e.Mach.Waits = m.Waits || comes
			}
		}
	}
	if plainly {
		e.Mach = wantedStep(m, comes)
	}
	e.Cache = wantedDrop(e.Cache, e.Mach.Mem)
	return e, asked
}

// wantedTurn is what the document asks of EngTurn.
func wantedTurn(e impl.EngEng, irqs []int, left int, ask impl.EngAsk) (impl.EngEng, bool) {
	if !wantedEngine(e) {
		return impl.EngEng{}, false
	}
	return wantedGoing(e, irqs, left, ask)
}

// wantedTurns is what the document asks of EngRun, and how many turns it takes, and how many of them ask.
func wantedTurns(e impl.EngEng, irqs []int, n int, asks []impl.EngAsk) (impl.EngEng, int, int) {
	if n > 400 || !wantedEngine(e) {
		return impl.EngEng{}, 0, 0
	}
	turns, asked := 0, 0
	for to := e.Mach.Count + n; e.Mach.Count < to && e.Mach.Halt == 0 && e.Mach.Count < 1000000; turns++ {
		ask := ownHand
		if asked < len(asks) {
			ask = asks[asked]
		}
		next, did := wantedGoing(e, irqs, to-e.Mach.Count, ask)
		if did {
			asked++
		}
		e = next
	}
	return e, turns, asked
}

// holdFits fails unless an engine is ok, and keeps no more than it may.
func holdFits(t *testing.T, what string, e impl.EngEng) {
	t.Helper()
	if !impl.EngOk(e) || !wantedEngine(e) || len(e.Cache) > 4 || len(e.Certs) > 3 {
		t.Fatalf("%s: is not ok: %+v", what, e)
	}
}

// holdFurther fails unless an engine that is ok has, by a turn, done as many instructions as it may, one at least, or stands still; and its machine is MchRun of so many.
func holdFurther(t *testing.T, what string, e, x impl.EngEng, irqs []int, left int) {
	t.Helper()
	holdFits(t, what, x)
	if e.Mach.Halt != impl.HaltNone || e.Mach.Count == impl.MchMost || left < 1 {
		holdEngine(t, what+": nothing to do", x, e)
		return
	}
	done := x.Mach.Count - e.Mach.Count
	steps := done
	if x.Mach.Halt > impl.HaltStop {
		// The step that does not find what it needs is not done.
		steps++
	}
	if done < 0 || done > left || done == 0 && x.Mach.Halt == impl.HaltNone || done > impl.IrMaxLen {
		t.Fatalf("%s: of %d left %d are done of %+v", what, left, done, e)
	}
	holdMachine(t, what+": MchRun", x.Mach, impl.MchRun(e.Mach, irqs, steps))
	holdMachine(t, what+": steps", x.Mach, wantedRun(e.Mach, irqs, steps))
}

// holdTurn fails unless EngTurn is as the document asks; of an engine that is ok it comes further.
func holdTurn(t *testing.T, what string, e impl.EngEng, irqs []int, left int, ask impl.EngAsk) (impl.EngEng, bool) {
	t.Helper()
	want, wantAsked := wantedTurn(e, irqs, left, ask)
	got, asked := impl.EngTurn(e, irqs, left, ask)
	if asked != wantAsked || !sameEngine(got, want) {
		t.Fatalf("%s: %d left, interrupts %v, %+v, of\n%+v\n got %v %+v\nwant %v %+v", what, left, irqs, ask, e, asked, got, wantAsked, want)
	}
	if wantedEngine(e) {
		holdFurther(t, what, e, got, irqs, left)
	}
	return got, asked
}

// holdTurnIs fails unless EngTurn is as it is told by hand, and as the document asks.
func holdTurnIs(t *testing.T, what string, e impl.EngEng, irqs []int, left int, ask impl.EngAsk, want impl.EngEng, wantAsked bool) {
	t.Helper()
	got, asked := holdTurn(t, what, e, irqs, left, ask)
	if asked != wantAsked || !sameEngine(got, want) {
		t.Fatalf("%s: %d left, interrupts %v, %+v, of\n%+v\n got %v %+v\nwant %v %+v", what, left, irqs, ask, e, asked, got, wantAsked, want)
	}
}

// holdWhole fails unless EngRun is as the document asks; of an engine that is ok its machine is MchRun of the engine's, and it is ok.
func holdWhole(t *testing.T, what string, e impl.EngEng, irqs []int, n int, asks []impl.EngAsk) impl.EngEng {
	t.Helper()
	want, _, _ := wantedTurns(e, irqs, n, asks)
	got := impl.EngRun(e, irqs, n, asks)
	if !sameEngine(got, want) {
		t.Fatalf("%s: %d to do, interrupts %v, asks %+v, of\n%+v\n got %+v\nwant %+v", what, n, irqs, asks, e, got, want)
	}
	if wantedEngine(e) && n <= impl.MchMany {
		holdMachine(t, what+": MchRun", got.Mach, impl.MchRun(e.Mach, irqs, n))
		holdFits(t, what, got)
	}
	return got
}

// holdNoEngine fails unless an engine is answered as one that is not ok.
func holdNoEngine(t *testing.T, what string, e impl.EngEng) {
	t.Helper()
	if impl.EngOk(e) || wantedEngine(e) {
		t.Fatalf("%s: is not ok, but EngOk is %v of %+v", what, impl.EngOk(e), e)
	}
	for _, left := range []int{math.MinInt, 0, 1, 100, math.MaxInt} {
		for _, ask := range asksOf(ownHand, impl.EngAsk{}) {
			if got, asked := impl.EngTurn(e, irqsAt(100), left, ask); asked || !sameEngine(got, impl.EngEng{}) {
				t.Fatalf("%s: EngTurn, with %d left: %v %+v", what, left, asked, got)
			}
		}
	}
	for _, n := range []int{math.MinInt, -1, 0, 1, 10, impl.MchMany, impl.MchMany + 1, math.MaxInt} {
		for _, asks := range [][]impl.EngAsk{nil, asksOf(ownHand, impl.EngAsk{})} {
			if got := impl.EngRun(e, irqsAt(100), n, asks); !sameEngine(got, impl.EngEng{}) {
				t.Fatalf("%s: EngRun of %d: %+v", what, n, got)
			}
		}
	}
}

// holdOkEngine fails unless an engine is answered as one that is ok, and EngRun of none leaves it as it is.
func holdOkEngine(t *testing.T, what string, e impl.EngEng) {
	t.Helper()
	holdFits(t, what, e)
	for _, n := range []int{math.MinInt, -1, 0} {
		holdEngine(t, what+": none to do", impl.EngRun(e, irqsAt(e.Mach.Count), n, asksOf(impl.EngAsk{})), e)
	}
}

// badMachines are machines that are not ok, one thing wrong in each.
func badMachines() map[string]impl.MchMach {
	base := goesOn(fourLines(), nil)
	out := map[string]impl.MchMach{"nothing": {}}
	for what, turn := range map[string]func(m *impl.MchMach){
		"a register too few":  func(m *impl.MchMach) { m.Regs = m.Regs[:3] },
		"a register too many": func(m *impl.MchMach) { m.Regs = append(m.Regs, 0) },
		"a word too few":      func(m *impl.MchMach) { m.Mem = m.Mem[:63] },
		"a word too many":     func(m *impl.MchMach) { m.Mem = append(m.Mem, 0) },
		"halt below":          func(m *impl.MchMach) { m.Halt = -1 },
		"halt past":           func(m *impl.MchMach) { m.Halt = impl.HaltPlace + 1 },
		"count below":         func(m *impl.MchMach) { m.Count = -1 },
		"count past":          func(m *impl.MchMach) { m.Count = impl.MchMost + 1 },
		"place below":         func(m *impl.MchMach) { m.Pc = -1 },
		"place past":          func(m *impl.MchMach) { m.Pc = 65536 },
		"saved place below":   func(m *impl.MchMach) { m.Save = -1 },
		"saved place past":    func(m *impl.MchMach) { m.Save = 65536 },
		"register no word":    func(m *impl.MchMach) { m.Regs[3] = 65536 },
		"word below":          func(m *impl.MchMach) { m.Mem[40] = -1 },
		"in no word":          func(m *impl.MchMach) { m.Ins = []int{1, 65536} },
		"out no word":         func(m *impl.MchMach) { m.Outs = []int{-1} },
	} {
		out[what] = turned(base, turn)
	}
	return out
}

// fourLines are instructions from place 5 on of the machine of goesOn that go on at 10.
func fourLines() []string { return []string{"set a 1", "add b b a", "out b", "go d"} }

// fourCodes are what their code is, and what our own hand makes of it.
func fourCodes() (impl.IrBlock, impl.IrBlock) {
	lower := impl.IrBlock{Pc: 5, Len: 4, End: impl.EndWord, X: 8, Ops: opsOf(constant(1), sets(0, 0), gets(1), gets(0), reckons(impl.OpAdd, 2, 3), sets(1, 4), gets(1), letsOut(6, 2), gets(3))}
	made := impl.IrBlock{Pc: 5, Len: 4, End: impl.EndWord, X: 6, Ops: opsOf(constant(1), sets(0, 0), gets(1), reckons(impl.OpAdd, 2, 0), sets(1, 3), letsOut(3, 2), gets(3))}
	return lower, made
}

// fourMachine is a machine that stands at fourLines, and what it is when all of them are done, and the first one alone, and the first at the vector.
func fourMachine() (m, whole, first, vector impl.MchMach) {
	m = goesOn(fourLines(), []string{"set c 9", "return"})
	whole = turned(m, func(m *impl.MchMach) {
		m.Regs, m.Outs, m.Pc, m.Count = []int{1, 301, 65535, 10}, []int{13, 301}, 10, 104
	})
	first = turned(m, func(m *impl.MchMach) { m.Regs[0], m.Pc, m.Count = 1, 6, 101 })
	vector = turned(m, func(m *impl.MchMach) { m.Regs[2], m.Pc, m.Save, m.Count = 9, 49, 5, 101 })
	return m, whole, first, vector
}

// fourKeptBy is what is kept for fourLines by some code.
func fourKeptBy(b impl.IrBlock) impl.CacEntry {
	return impl.CacEntry{Words: wordsOf(fourLines()...), Block: b}
}

func TestP55ANewEngine(t *testing.T) {
	for what, m := range map[string]impl.MchMach{
		"noughts":             impl.MchNew(nil, nil),
		"words":               impl.MchNew(wordsOf(fourLines()...), []int{1, 2}),
		"in the midst":        goesOn(fourLines(), nil),
		"standing still":      turned(goesOn(fourLines(), nil), func(m *impl.MchMach) { m.Halt = impl.HaltPlace }),
		"at its end":          turned(goesOn(fourLines(), nil), func(m *impl.MchMach) { m.Count = impl.MchMost }),
		"at no place":         turned(goesOn(fourLines(), nil), func(m *impl.MchMach) { m.Pc, m.Save = 65535, 65535 }),
		"an interrupt waits":  turned(goesOn(fourLines(), nil), func(m *impl.MchMach) { m.Waits, m.Let = true, true }),
		"much went out":       turned(goesOn(fourLines(), nil), func(m *impl.MchMach) { m.Ins, m.Outs = mixedWords(5000), mixedWords(5000) }),
		"nothing in, and out": turned(goesOn(fourLines(), nil), func(m *impl.MchMach) { m.Ins, m.Outs = nil, []int{} }),
	} {
		e := impl.EngNew(m)
		holdEngine(t, what, e, engineOf(m, nil, nil))
		holdOkEngine(t, what, e)
	}
	for what, m := range badMachines() {
		if impl.MchOk(m) {
			t.Fatalf("%s: is ok", what)
		}
		holdEngine(t, what, impl.EngNew(m), impl.EngEng{})
		holdNoEngine(t, what, impl.EngNew(m))
		holdNoEngine(t, what+", as it is", engineOf(m, nil, nil))
	}
	d := dice(555555551)
	for range 3000 {
		m := d.anyMachine()
		holdEngine(t, "any", impl.EngNew(m), engineOf(m, nil, nil))
		holdOkEngine(t, "any", impl.EngNew(m))
		m.Regs[d.below(4)] = d.of(-1, 65536, math.MinInt, math.MaxInt)
		holdEngine(t, "any, a register no word", impl.EngNew(m), impl.EngEng{})
	}
}

// fullEngine is one that keeps as much as may be.
func fullEngine() impl.EngEng {
	m := goesOn(nil, nil)
	for _, e := range fourKept() {
		copy(m.Mem[e.Block.Pc:], e.Words)
	}
	m.Pc = 20
	return engineOf(m, fourKept(), rightPairs()[:3])
}

func TestP55WhatIsAnEngine(t *testing.T) {
	full := fullEngine()
	holdOkEngine(t, "as much as may be", full)
	for what, m := range badMachines() {
		holdNoEngine(t, what, withMach(full, m))
	}
	kept := map[string][]impl.CacEntry{
		"one more than may be":     append(fourKept(), keptFor(10, "out a")),
		"two at one place":         listed(fourKept()[0], fourKept()[0]),
		"two at one place, apart":  listed(fourKept()[0], fourKept()[1], moved(keptFor(20, "add a b b"), 20)),
		"words that are not there": listed(keptFor(20, "add a b b", "load c a 3", "store c b 8")),
		"a place further":          listed(moved(fourKept()[0], 21)),
		"no words":                 listed(withCode(impl.CacEntry{}, fourKept()[0].Block)),
		"code of fewer words":      listed(impl.CacEntry{Words: fourKept()[0].Words[:2], Block: fourKept()[0].Block}),
		"nothing as code":          listed(withCode(fourKept()[0], impl.IrBlock{})),
		"other code":               listed(withCode(fourKept()[0], impl.BlkLower(20, insOf("add a b c", "load c a 3", "store c b 7")))),
		"code of another place":    listed(withCode(fourKept()[0], turnedCode(fourKept()[0].Block, func(b *impl.IrBlock) { b.Pc = 19 }))),
		"nothing":                  make([]impl.CacEntry, 1),
		"a great many":             make([]impl.CacEntry, 100000),
	}
	for _, lines := range [][]string{{"stop"}, {"out a", "stop"}, {"go a", "out a"}} {
		kept["words that are no piece of code: "+lines[0]] = listed(impl.CacEntry{Words: wordsOf(lines...), Block: turnedCode(codeOf(), func(b *impl.IrBlock) { b.Len = len(lines) })})
	}
	for what, b := range badCodes() {
		kept["code that is not ok: "+what] = listed(withCode(keptFor(5, "add a b b", "in c", "out d"), b))
	}
	for what, list := range kept {
		mem := put(full.Mach.Mem, 10, 57344)
		for _, e := range list {
			if len(e.Words) == 2 || e.Block.Pc == 5 {
				copy(mem[5:], e.Words)
			}
		}
		m := turned(full.Mach, func(m *impl.MchMach) { m.Mem = mem })
		holdNoEngine(t, what, engineOf(m, list, full.Certs))
		holdNoEngine(t, what+", without pairs", engineOf(m, list, nil))
		holdOkEngine(t, what+": without it", engineOf(m, nil, full.Certs))
	}
	holdNoEngine(t, "one pair more than may be", engineOf(full.Mach, full.Cache, rightPairs()))
	for what, p := range wrongPairs() {
		holdNoEngine(t, what, engineOf(full.Mach, full.Cache, pairs(p)))
		holdNoEngine(t, what+", behind others", engineOf(full.Mach, nil, append(rightPairs()[:2:2], p)))
	}
	// A word that is written over, wherever something that is kept has it.
	for place := range full.Mach.Mem {
		m := turned(full.Mach, func(m *impl.MchMach) { m.Mem[place] ^= 256 })
		if place >= 20 && place < 23 || place == 0 || place >= 56 || place == 40 || place == 41 {
			holdNoEngine(t, "a word written over", withMach(full, m))
		} else {
			holdOkEngine(t, "another word written over", withMach(full, m))
		}
	}
}

func TestP76WhatStandsStill(t *testing.T) {
	base := goesOn(fourLines(), []string{"set c 9"})
	kept := listed(fourKeptBy(impl.BlkLower(5, insOf(fourLines()...))))
	for flags := range 8 {
		m := turned(base, func(m *impl.MchMach) { m.Let, m.Waits = flags&1 > 0, flags&2 > 0 })
		e := engineOf(m, kept[:flags>>2], rightPairs()[:flags&3])
		for what, turn := range map[string]func(m *impl.MchMach){
			"stopped":                 func(m *impl.MchMach) { m.Halt = impl.HaltStop },
			"no word":                 func(m *impl.MchMach) { m.Halt = impl.HaltWord },
			"no address":              func(m *impl.MchMach) { m.Halt = impl.HaltReach },
			"no place":                func(m *impl.MchMach) { m.Halt = impl.HaltPlace },
			"at its end":              func(m *impl.MchMach) { m.Count = impl.MchMost },
			"stopped, at its end":     func(m *impl.MchMach) { m.Halt, m.Count = impl.HaltStop, impl.MchMost },
			"at its end, at no place": func(m *impl.MchMach) { m.Pc, m.Count = 64, impl.MchMost },
		} {
			still := withMach(e, turned(m, turn))
			for _, irqs := range [][]int{nil, {still.Mach.Count}, {still.Mach.Count + 1}} {
				for _, left := range []int{math.MinInt, -1, 0, 1, 4, impl.MchMany, math.MaxInt} {
					holdTurnIs(t, what, still, irqs, left, ownHand, still, false)
				}
				for _, n := range []int{math.MinInt, -1, 0, 1, 4, impl.MchMany - 1, impl.MchMany} {
					holdEngine(t, what, impl.EngRun(still, irqs, n, asksOf(impl.EngAsk{})), still)
				}
				for _, n := range []int{impl.MchMany + 1, math.MaxInt} {
					holdEngine(t, what+": too many", impl.EngRun(still, irqs, n, nil), impl.EngEng{})
				}
			}
		}
		for _, left := range []int{0, -1, -100, math.MinInt, math.MinInt + 1} {
			for _, irqs := range [][]int{nil, {100}, {101}} {
				holdTurnIs(t, "nothing left", e, irqs, left, ownHand, e, false)
				holdTurnIs(t, "nothing left", e, irqs, left, impl.EngAsk{}, e, false)
				holdEngine(t, "none to do", impl.EngRun(e, irqs, left, nil), e)
			}
		}
	}
}

func TestP56OurOwnHand(t *testing.T) {
	m, whole, first, _ := fourMachine()
	lower, made := fourCodes()
	want := engineOf(whole, listed(fourKeptBy(made)), pairs(pairOf(lower, made)))
	for _, ask := range asksOf(ownHand, impl.EngAsk{Own: true, Bytes: []byte{}}, impl.EngAsk{Own: true, Bytes: []byte{1}}, impl.EngAsk{Own: true, Bytes: impl.IrBytes(lower)}, gives(made)) {
		holdTurnIs(t, "our own hand", impl.EngNew(m), nil, 100, ask, want, true)
		holdTurnIs(t, "our own hand, one left", impl.EngNew(m), nil, 1, ask, withMach(want, first), true)
	}
	d := dice(565656561)
	long := 0
	for range 3000 {
		e := d.anyEngine()
		list := impl.BlkFind(e.Mach)
		x, asked := holdTurn(t, "any", e, d.anyIrqs(e), d.of(1, 2, 8, 400), impl.EngAsk{Own: true, Bytes: d.anyBytes()})
		if !asked {
			continue
		}
		own := impl.CacEntry{Words: impl.BlkWords(list), Block: impl.OptAll(impl.BlkLower(e.Mach.Pc, list))}
		if place := impl.CacFind(x.Cache, e.Mach.Pc); place >= 0 && !sameEntry(x.Cache[place], own) {
			t.Fatalf("what is kept is not our own hand's: %+v, not %+v", x.Cache[place], own)
		} else if place >= 0 {
			long++
		}
		if !impl.CerHas(x.Certs, impl.BlkLower(e.Mach.Pc, list), own.Block) {
			t.Fatalf("what our own hand made is no pair: %+v", x)
		}
	}
	if long < 1000 {
		t.Fatalf("only %d are kept", long)
	}
}

func TestP7HowManyAreLeft(t *testing.T) {
	m, whole, first, _ := fourMachine()
	lower, made := fourCodes()
	for _, c := range []struct {
		what string
		kept impl.IrBlock
		ask  impl.EngAsk
	}{{"our own hand's", made, ownHand}, {"as it is", lower, impl.EngAsk{}}, {"somebody's", marked(lower), gives(marked(lower))}} {
		certs := pairs(pairOf(lower, c.kept))
		if c.what == "as it is" {
			certs = nil
		}
		for left := 1; left < 12; left++ {
			x := first
			if left >= 4 {
				x = whole
			}
			want := engineOf(x, listed(fourKeptBy(c.kept)), certs)
			holdTurnIs(t, c.what+", asked for", impl.EngNew(m), nil, left, c.ask, want, true)
			holdTurnIs(t, c.what+", kept", withMach(want, m), nil, left, impl.EngAsk{}, want, false)
		}
		holdTurnIs(t, "many left", impl.EngNew(m), nil, math.MaxInt, c.ask, engineOf(whole, listed(fourKeptBy(c.kept)), certs), true)
	}
	// Each length, with as many left, one more and one fewer.
	lines := []string{"out a", "out b", "out c", "out d", "in a", "in b", "add a a a", "sub b b a"}
	for many := 1; many <= 8; many++ {
		m := goesOn(lines[:many], nil)
		for left := 1; left < 12; left++ {
			x, asked := holdTurn(t, "each length", impl.EngNew(m), nil, left, ownHand)
			if done := x.Mach.Count - 100; !asked || left >= many && done != many || left < many && done != 1 {
				t.Fatalf("of %d instructions with %d left %d are done, %v", many, left, done, asked)
			}
			y, again := holdTurn(t, "each length, kept", withMach(x, m), nil, left, impl.EngAsk{})
			if again || !sameEngine(x, y) {
				t.Fatalf("kept, it is asked for: %v, or does otherwise: %+v", again, y)
			}
		}
	}
}

func TestP7AheadOfTheLastCount(t *testing.T) {
	m, whole, first, _ := fourMachine()
	lower, made := fourCodes()
	kept, certs := listed(fourKeptBy(made)), pairs(pairOf(lower, made))
	at := func(m impl.MchMach, off int) impl.MchMach {
		return turned(m, func(m *impl.MchMach) { m.Count += off })
	}
	for ahead := 0; ahead < 10; ahead++ {
		off := impl.MchMost - ahead - 100
		e := impl.EngNew(at(m, off))
		for _, left := range []int{4, 400, math.MaxInt} {
			switch {
			case ahead == 0:
				holdTurnIs(t, "at its end", e, nil, left, ownHand, e, false)
			case ahead < 4:
				holdTurnIs(t, "no room for all", e, nil, left, ownHand, engineOf(at(first, off), kept, certs), true)
			default:
				holdTurnIs(t, "room for all", e, nil, left, ownHand, engineOf(at(whole, off), kept, certs), true)
			}
			x := holdWhole(t, "up to its end", e, nil, min(left, 400), nil)
			if done := x.Mach.Count - e.Mach.Count; done != min(ahead, 4) {
				t.Fatalf("%d ahead of its end %d are done", ahead, done)
			}
		}
	}
	// Round and round, up to the very end.
	round := impl.MchNew(wordsOf("out a", "add a a b", "same a a 0"), nil)
	for ahead := range 30 {
		round.Count = impl.MchMost - ahead
		x := holdWhole(t, "round and round", impl.EngNew(round), nil, impl.MchMany, nil)
		if x.Mach.Count != impl.MchMost || x.Mach.Halt != impl.HaltNone || len(x.Mach.Outs) != (ahead+2)/3 {
			t.Fatalf("%d ahead of its end: %+v", ahead, x.Mach)
		}
		holdEngine(t, "and then it stands still", impl.EngRun(x, nil, impl.MchMany, nil), x)
	}
}

// An interrupt, at each place about the code, let in or not, while one waits or not.
func TestP6AnInterruptInTheMidst(t *testing.T) {
	m, whole, first, vector := fourMachine()
	lower, made := fourCodes()
	kept, certs := listed(fourKeptBy(made)), pairs(pairOf(lower, made))
	with := func(m impl.MchMach, let, waits bool) impl.MchMach { m.Let, m.Waits = let, waits; return m }
	for _, c := range []struct {
		what       string
		irqs       []int
		let, waits bool
		want       impl.MchMach
		kept       bool
	}{
		{"none", nil, false, false, with(whole, false, false), true},
		{"none, but it would be let in", nil, true, false, with(whole, true, false), true},
		{"one waits", nil, false, true, with(whole, false, true), true},
		{"one waits, and is let in", nil, true, true, with(vector, false, false), false},
		{"earlier", irqsAt(99, 0, -1), true, false, with(whole, true, false), true},
		{"now", irqsAt(100), false, false, with(whole, false, true), true},
		{"now, and is let in", irqsAt(100), true, false, with(vector, false, false), false},
		{"now, and one waits", irqsAt(100), false, true, with(whole, false, true), true},
		{"now, and one waits, and is let in", irqsAt(100), true, true, with(vector, false, false), false},
		{"ahead of the second", irqsAt(101), false, false, with(first, false, false), true},
		{"ahead of the second, and would be let in", irqsAt(101), true, false, with(first, true, false), true},
		{"ahead of the second, while one waits", irqsAt(101), false, true, with(first, false, true), true},
		{"ahead of the second, while one waits, and is let in", irqsAt(101), true, true, with(vector, false, false), false},
		{"ahead of the third", irqsAt(102), false, false, with(first, false, false), true},
		{"ahead of the third, and would be let in", irqsAt(102), true, false, with(first, true, false), true},
		{"ahead of the last", irqsAt(103), false, false, with(first, false, false), true},
		{"ahead of the last, and would be let in", irqsAt(103), true, false, with(first, true, false), true},
		{"ahead of the last, while one waits", irqsAt(103), false, true, with(first, false, true), true},
		{"just behind", irqsAt(104), false, false, with(whole, false, false), true},
		{"just behind, and would be let in", irqsAt(104), true, false, with(whole, true, false), true},
		{"much later", irqsAt(105, 1000000, math.MaxInt, math.MinInt), true, false, with(whole, true, false), true},
		{"now, and ahead of the third", irqsAt(102, 100), false, false, with(first, false, true), true},
		{"now, and just behind", irqsAt(104, 100), false, false, with(whole, false, true), true},
		{"just behind, and ahead of the last", irqsAt(104, 103), true, false, with(first, true, false), true},
		{"now, twice", irqsAt(100, 100), false, false, with(whole, false, true), true},
	} {
		e := impl.EngNew(with(m, c.let, c.waits))
		want := engineOf(c.want, nil, nil)
		if c.kept {
			want = engineOf(c.want, kept, certs)
		}
		holdTurnIs(t, c.what, e, c.irqs, 100, ownHand, want, c.kept)
		holdTurnIs(t, c.what+", kept", withMach(engineOf(m, kept, nil), e.Mach), c.irqs, 100, ownHand, engineOf(c.want, kept, nil), false)
	}
}

// Of code of each length an interrupt at each Count about it.
func TestP6AnInterruptAtEachPlace(t *testing.T) {
	lines := []string{"out a", "add a a b", "in c", "out d", "in a", "load b d 0", "store d d 20", "less b a 5"}
	for many := 1; many <= 8; many++ {
		for off := -2; off < many+3; off++ {
			for flags := range 8 {
				m := goesOn(lines[8-many:], []string{"out b", "xor b b a", "return"})
				m.Let, m.Waits = flags&1 > 0, flags&2 > 0
				e := impl.EngNew(m)
				if flags&4 > 0 {
					e.Cache = listed(keptFor(5, lines[8-many:]...))
				}
				x, asked := holdTurn(t, "an interrupt", e, irqsAt(100+off), 50, ownHand)
				in := m.Let && (m.Waits || off == 0)
				done := many
				if in || off > 0 && off < many {
					done = 1
				}
				if x.Mach.Count != 100+done || asked != (!in && flags&4 == 0) || x.Mach.Waits != (!in && (m.Waits || off == 0)) {
					t.Fatalf("%d instructions, an interrupt at %d, %d: %d are done, asked %v, waits %v", many, off, flags, x.Mach.Count-100, asked, x.Mach.Waits)
				}
				for _, n := range []int{1, many - 1, many, many + 1, 30} {
					holdWhole(t, "an interrupt", e, irqsAt(100+off), n, nil)
				}
			}
		}
	}
}

// Where nothing is found it goes plainly, and does not ask; what is kept stays, unless it is written over.
func TestP7WhereNothingIsFound(t *testing.T) {
	for _, lines := range [][]string{{"stop", "out a"}, {"let", "out a"}, {"keep", "out a"}, {"return", "out a"}, nil} {
		m := goesOn(lines, nil)
		for flags := range 8 {
			m.Let, m.Waits = flags&1 > 0, flags&2 > 0
			kept := listed(keptFor(20, "in a", "out a"))
			e := engineOf(turned(m, func(m *impl.MchMach) { copy(m.Mem[20:], kept[0].Words) }), kept, rightPairs()[:2])
			irqs := irqsAt(100 + flags>>2)
			want := withMach(e, wantedStep(e.Mach, flags>>2 == 0))
			for _, ask := range asksOf(ownHand, impl.EngAsk{}) {
				holdTurnIs(t, "nothing is found", e, irqs, 9, ask, want, false)
			}
			holdWhole(t, "nothing is found", e, irqs, 9, nil)
		}
	}
	for _, place := range []int{64, 65, 300, 65535} {
		m := turned(goesOn(nil, nil), func(m *impl.MchMach) { m.Pc = place })
		want := turned(m, func(m *impl.MchMach) { m.Halt = impl.HaltPlace })
		holdTurnIs(t, "there is no such place", impl.EngNew(m), nil, 1, ownHand, engineOf(want, nil, nil), false)
	}
	last := at(goesOn(nil, nil), 63, "set a 1")
	x, asked := holdTurn(t, "the last place", impl.EngNew(last), nil, 9, ownHand)
	if !asked || x.Mach.Pc != 64 || x.Mach.Count != 101 || len(x.Cache) != 1 {
		t.Fatalf("the last place: %v %+v", asked, x)
	}
}

func TestP78WhatIsGiven(t *testing.T) {
	m, whole, _, _ := fourMachine()
	lower, made := fourCodes()
	plain := engineOf(whole, listed(fourKeptBy(lower)), nil)
	w := impl.IrBytes(made)
	for what, w := range map[string][]byte{
		"none":                      nil,
		"no bytes":                  {},
		"one":                       {1},
		"a head, not whole":         w[:6],
		"the last one is missing":   w[:len(w)-1],
		"the first one is missing":  w[1:],
		"one more":                  append(slices.Clone(w), 0),
		"an operation that is none": append(slices.Clone(w), 0, 0, 0, 0, 0, 0),
		"another place":             put(w, 0, 6),
		"another place, not there":  put(w, 0, 62),
		"another length":            put(w, 1, 3),
		"a greater length":          put(w, 1, 5),
		"no End":                    put(w, 2, 0),
		"another End":               impl.IrBytes(ended(made, impl.EndGo, 0, 0, 10)),
		"another register goes on":  impl.IrBytes(withOp(ended(made, impl.EndWord, 2, 0, 0), 7, gets(2))),
		"a word that is not 1":      put(w, 11, 2),
		"another register is set":   put(w, 17, 2),
		"another instruction":       put(w, 7+6*5+5, 3),
		"something else goes out":   put(w, 7+6*5+1, 2),
		"nothing is done":           impl.IrBytes(impl.IrBlock{Pc: 5, Len: 4, End: impl.EndGo, K: 9}),
		"other instructions":        impl.IrBytes(impl.BlkLower(5, insOf("set a 1", "add b b a", "out c", "go d"))),
		"those of the next place":   impl.IrBytes(impl.BlkLower(6, insOf(fourLines()[1:]...))),
		"a text":                    []byte("code"),
		"a great many":              slices.Repeat([]byte{5, 4, 1}, 100000),
	} {
		for _, certs := range [][]impl.CerPair{nil, rightPairs()[:1], rightPairs()[:3]} {
			e := engineOf(m, nil, certs)
			holdTurnIs(t, what, e, nil, 100, impl.EngAsk{Bytes: w}, engineOf(whole, plain.Cache, certs), true)
		}
	}
	for what, b := range map[string]impl.IrBlock{
		"as it is":                lower,
		"our own hand's":          made,
		"a word more":             marked(lower),
		"ours, and a word more":   marked(made),
		"a sum in another order":  turnedCode(made, func(b *impl.IrBlock) { b.Ops[3].X, b.Ops[3].Y = 0, 2 }),
		"set later":               {Pc: 5, Len: 4, End: impl.EndWord, X: 4, Ops: opsOf(constant(1), gets(1), reckons(impl.OpAdd, 1, 0), letsOut(2, 2), gets(3), sets(1, 2), sets(0, 0))},
		"set twice":               {Pc: 5, Len: 4, End: impl.EndWord, X: 4, Ops: opsOf(constant(1), gets(1), reckons(impl.OpAdd, 1, 0), letsOut(2, 2), gets(3), sets(1, 0), sets(1, 2), sets(0, 0))},
		"as many as there may be": turnedCode(lower, func(b *impl.IrBlock) { b.Ops = append(b.Ops, slices.Repeat(opsOf(constant(9)), 48-len(b.Ops))...) }),
	} {
		holdTurnIs(t, what, impl.EngNew(m), nil, 100, gives(b), engineOf(whole, listed(fourKeptBy(b)), pairs(pairOf(lower, b))), true)
	}
}

// Each byte turned: what is kept is what the bytes say, if that may stand for the code, and else the code.
func TestP78OneByteTurned(t *testing.T) {
	for _, lines := range [][]string{fourLines(), {"load a d 0", "add a a b", "store a d 9", "in c", "less a c 5"}} {
		m := goesOn(lines, nil)
		lower := impl.BlkLower(5, insOf(lines...))
		none, may, mayNot := 0, 0, 0
		for _, b := range []impl.IrBlock{lower, impl.OptAll(lower), marked(lower)} {
			w := impl.IrBytes(b)
			for place, old := range w {
				for _, n := range []byte{0, 1, 2, 3, old + 1, old - 1, old ^ 128, 255} {
					ask := impl.EngAsk{Bytes: put(w, place, n)}
					x, asked := holdTurn(t, "a byte turned", impl.EngNew(m), nil, 100, ask)
					said, read := impl.IrRead(ask.Bytes)
					kept := x.Cache[0].Block
					switch {
					case !asked:
						t.Fatalf("it is not asked for: %+v", x)
					case read && impl.ChkSame(lower, said):
						if may++; !sameBlock(kept, said) || !impl.CerHas(x.Certs, lower, said) {
							t.Fatalf("it may stand for it, but what is kept is %+v, not %+v", kept, said)
						}
					case !sameBlock(kept, lower) || len(x.Certs) > 0:
						t.Fatalf("it may not stand for it, but what is kept is %+v, not %+v", kept, lower)
					case read:
						mayNot++
					default:
						none++
					}
				}
			}
		}
		if none < 300 || may < 50 || mayNot < 100 {
			t.Fatalf("only %d are none, %d may stand for it, and %d may not", none, may, mayNot)
		}
	}
}

// Whoever lies: any bytes for any engine.
func TestP78AnyLiar(t *testing.T) {
	d := dice(787878781)
	none, may, mayNot, there := 0, 0, 0, 0
	for range 4000 {
		e := d.anyEngine()
		ask := d.anyAsk(e)
		ask.Own = false
		list := impl.BlkFind(e.Mach)
		lower := impl.BlkLower(e.Mach.Pc, list)
		said, read := impl.IrRead(ask.Bytes)
		x, asked := holdTurn(t, "any", e, nil, 8, ask)
		if !asked {
			continue
		}
		want := lower
		switch had := impl.CerHas(e.Certs, lower, said); {
		case !read:
			none++
		case !impl.ChkSame(lower, said):
			mayNot++
		default:
			may++
			want = said
			if had {
				there++
			}
			if !impl.CerHas(x.Certs, lower, said) || had && !samePairs(e.Certs, x.Certs) {
				t.Fatalf("pairs were %+v, and are %+v", e.Certs, x.Certs)
			}
		}
		if place := impl.CacFind(x.Cache, e.Mach.Pc); place >= 0 && !sameEntry(x.Cache[place], impl.CacEntry{Words: impl.BlkWords(list), Block: want}) {
			t.Fatalf("what is kept is %+v, not %+v", x.Cache[place], want)
		}
		if sameBlock(want, lower) && !sameBlock(said, lower) && !samePairs(e.Certs, x.Certs) {
			t.Fatalf("pairs were %+v, and are %+v", e.Certs, x.Certs)
		}
	}
	if none < 300 || may < 300 || mayNot < 300 || there < 50 {
		t.Fatalf("only %d are none, %d may stand for it, %d of these were there, and %d may not", none, may, there, mayNot)
	}
}

// A pair that is there already, and no room for one more; no room for one more piece of code.
func TestP77PairsAndRoom(t *testing.T) {
	m, whole, _, _ := fourMachine()
	lower, made := fourCodes()
	r, ours := rightPairs(), pairOf(lower, made)
	back, mark := pairOf(made, lower), pairOf(lower, marked(lower))
	for _, c := range []struct {
		what      string
		ask       impl.EngAsk
		had, have []impl.CerPair
		kept      impl.IrBlock
	}{
		{"none", ownHand, nil, pairs(ours), made},
		{"it alone", ownHand, pairs(ours), pairs(ours), made},
		{"it alone, by bytes", gives(made), pairs(ours), pairs(ours), made},
		{"it first", ownHand, pairs(ours, r[0]), pairs(ours, r[0]), made},
		{"it first of as many as may be", ownHand, pairs(ours, r[0], r[1]), pairs(ours, r[0], r[1]), made},
		{"it last of as many as may be", gives(made), pairs(r[0], r[1], ours), pairs(r[0], r[1], ours), made},
		{"it twice", ownHand, pairs(ours, r[0], ours), pairs(ours, r[0], ours), made},
		{"one other", ownHand, pairs(r[0]), pairs(r[0], ours), made},
		{"two others", ownHand, pairs(r[0], r[1]), pairs(r[0], r[1], ours), made},
		{"as many others as may be", ownHand, pairs(r[0], r[1], r[2]), pairs(r[1], r[2], ours), made},
		{"as many others as may be, by bytes", gives(marked(lower)), pairs(r[0], r[1], r[2]), pairs(r[1], r[2], mark), marked(lower)},
		{"it the other way round", ownHand, pairs(back), pairs(back, ours), made},
		{"another hand's", ownHand, pairs(mark), pairs(mark, ours), made},
		{"ours, but another hand makes it", gives(marked(lower)), pairs(ours), pairs(ours, mark), marked(lower)},
		{"it with itself", gives(lower), pairs(ours), pairs(ours, pairOf(lower, lower)), lower},
		{"it with itself, there", gives(lower), pairs(pairOf(lower, lower)), pairs(pairOf(lower, lower)), lower},
		{"there, but the bytes are none", impl.EngAsk{Bytes: impl.IrBytes(made)[1:]}, pairs(ours), pairs(ours), lower},
		{"there, but the bytes lie", impl.EngAsk{Bytes: put(impl.IrBytes(made), 11, 2)}, pairs(ours, r[0], r[1]), pairs(ours, r[0], r[1]), lower},
	} {
		holdTurnIs(t, c.what, engineOf(m, nil, c.had), nil, 50, c.ask, engineOf(whole, listed(fourKeptBy(c.kept)), c.have), true)
	}
	others := listed(keptFor(20, "in a", "out a"), keptFor(30, "in b"), keptFor(40, "in c", "go d"), keptFor(60, "in d"))
	ourKept := fourKeptBy(made)
	for many := range 5 {
		e := engineOf(turned(m, func(m *impl.MchMach) {
			for _, o := range others {
				copy(m.Mem[o.Block.Pc:], o.Words)
			}
		}), others[:many], nil)
		x, _ := holdTurn(t, "so many others", e, nil, 50, ownHand)
		if want := append(others[max(0, many-3):many:many], ourKept); !sameKept(x.Cache, want) {
			t.Fatalf("beside %d others what is kept is\n%+v, not\n%+v", many, x.Cache, want)
		}
	}
}

// With the pairs that are there behind a turn, or a run, the same asks lead to the same code as with none.
func TestP77WithPairsAndWithout(t *testing.T) {
	d := dice(777777771)
	asks, there := 0, 0
	for range 500 {
		e := d.anyEngine()
		irqs, left, ask := d.anyIrqs(e), d.of(1, 4, 8, 100), d.anyAsk(e)
		x, asked := holdTurn(t, "any", e, irqs, left, ask)
		with, askedWith := holdTurn(t, "with the pairs", engineOf(e.Mach, e.Cache, x.Certs), irqs, left, ask)
		without, askedWithout := holdTurn(t, "without", engineOf(e.Mach, e.Cache, nil), irqs, left, ask)
		if askedWith != asked || askedWithout != asked || !sameKept(with.Cache, without.Cache) || !sameKept(with.Cache, x.Cache) || !sameMachine(with.Mach, without.Mach) {
			t.Fatalf("with the pairs\n%v %+v\nand without\n%v %+v", askedWith, with, askedWithout, without)
		}
		if asked {
			asks++
			if len(x.Certs) > 0 && samePairs(with.Certs, x.Certs) {
				there++
			}
		}
		list, n := d.anyAsks(e, irqs, 40), d.below(41)
		y := impl.EngRun(e, irqs, n, list)
		pairsOf := [][]impl.CerPair{nil, x.Certs, y.Certs, rightPairs()[:3]}
		for _, certs := range pairsOf {
			if z := impl.EngRun(engineOf(e.Mach, e.Cache, certs), irqs, n, list); !sameKept(y.Cache, z.Cache) || !sameMachine(y.Mach, z.Mach) {
				t.Fatalf("with the pairs %+v\n%+v\nand with others\n%+v", certs, y, z)
			}
		}
	}
	if asks < 250 || there < 150 {
		t.Fatalf("only %d ask, and of %d the pair is there", asks, there)
	}
}

// What is kept is not asked for again: an engine that is put back at its place.
func TestP75BackAtItsPlace(t *testing.T) {
	d := dice(757575751)
	stays, gone := 0, 0
	for range 3000 {
		e := d.anyEngine()
		irqs := d.anyIrqs(e)
		x, asked := holdTurn(t, "any", e, irqs, d.of(1, 4, 8, 100), d.anyAsk(e))
		if !asked {
			continue
		}
		m := x.Mach
		m.Pc, m.Halt, m.Count, m.Waits = e.Mach.Pc, impl.HaltNone, e.Mach.Count, false
		again, askedAgain := holdTurn(t, "back at its place", withMach(x, m), nil, d.of(1, 4, 8, 100), d.anyAsk(e))
		place := impl.CacFind(x.Cache, e.Mach.Pc)
		if askedAgain != (place < 0 && len(impl.BlkFind(m)) > 0) {
			t.Fatalf("it is kept at %d, and asked for: %v, by %+v", place, askedAgain, m)
		}
		if place < 0 {
			gone++
			continue
		}
		stays++
		if !samePairs(again.Certs, x.Certs) {
			t.Fatalf("pairs were %+v, and are %+v", x.Certs, again.Certs)
		}
	}
	if stays < 1000 || gone < 50 {
		t.Fatalf("only %d are kept, and %d are not", stays, gone)
	}
	// Round and round it is asked for once, whoever is asked.
	round := impl.EngNew(impl.MchNew(wordsOf("out a", "add a a b", "same a a 0"), nil))
	for _, ask := range asksOf(ownHand, impl.EngAsk{}, gives(marked(impl.BlkLower(0, insOf("out a", "add a a b", "same a a 0"))))) {
		e := round
		for turn := range 50 {
			x, asked := holdTurn(t, "round and round", e, nil, 9, ask)
			if asked != (turn == 0) || x.Mach.Count != 3*turn+3 {
				t.Fatalf("turn %d: %v %+v", turn, asked, x.Mach)
			}
			e = x
		}
	}
}

// Code that writes: over itself, ahead and behind, over other code that is kept, and past its own.
func TestP8WrittenOver(t *testing.T) {
	other, more := keptFor(20, "in a", "out a"), keptFor(30, "in b")
	for _, c := range []struct {
		what  string
		lines []string
		reg   int // what a is
		with  int // what d is
		left  int
		place int
		done  int
		kept  []int
	}{
		{"what is next", []string{"store d a 0", "out b", "out c", "in b"}, 6, 4, 50, 6, 1, []int{20, 30}},
		{"what is last", []string{"store d a 0", "out b", "out c", "in b"}, 8, 4, 50, 6, 1, []int{20, 30}},
		{"what is last, by the one ahead of it", []string{"out b", "out c", "store d a 0", "in b"}, 8, 4, 50, 8, 3, []int{20, 30}},
		{"itself", []string{"out b", "out c", "store d a 0", "in b"}, 7, 4, 50, 9, 4, []int{20, 30}},
		{"itself, the first", []string{"store d a 0", "out b", "out c", "in b"}, 5, 4, 50, 9, 4, []int{20, 30}},
		{"what is ahead", []string{"out b", "out c", "store d a 0", "in b"}, 5, 4, 50, 9, 4, []int{20, 30}},
		{"what is just ahead", []string{"out b", "out c", "store d a 0", "in b"}, 6, 4, 50, 9, 4, []int{20, 30}},
		{"by the last one", []string{"out b", "out c", "in b", "store d a 0"}, 8, 4, 50, 9, 4, []int{20, 30}},
		{"what is just behind its own", []string{"store d a 4", "out b", "out c", "in b"}, 5, 4, 50, 9, 4, []int{20, 30, 5}},
		{"what is ahead of its own", []string{"out b", "store d a 0", "out c", "in b"}, 4, 4, 50, 9, 4, []int{20, 30, 5}},
		{"the first word of another one", []string{"out b", "store d a 0", "out c", "in b"}, 20, 4, 50, 9, 4, []int{30, 5}},
		{"the last word of another one", []string{"out b", "store d a 0", "out c", "in b"}, 21, 4, 50, 9, 4, []int{30, 5}},
		{"the word behind another one", []string{"out b", "store d a 0", "out c", "in b"}, 22, 4, 50, 9, 4, []int{20, 30, 5}},
		{"the only word of another one", []string{"out b", "store d a 0", "out c", "in b"}, 30, 4, 50, 9, 4, []int{20, 5}},
		{"the same word of another one", []string{"out b", "store d a 0", "out c", "in b"}, 20, other.Words[0], 50, 9, 4, []int{20, 30, 5}},
		{"the same word of its own, ahead", []string{"out b", "store d a 0", "out c", "in b"}, 5, wordsOf("out b")[0], 50, 9, 4, []int{20, 30, 5}},
		{"the same word of its own, behind", []string{"out b", "store d a 0", "out c", "in b"}, 7, wordsOf("out c")[0], 50, 7, 2, []int{20, 30, 5}},
		{"two of others", []string{"store d a 0", "store d a 10", "out c", "in b"}, 20, 4, 50, 9, 4, []int{5}},
		{"another one, and itself", []string{"store d a 15", "store d a 0", "out c", "in b"}, 5, 4, 50, 9, 4, []int{30}},
		{"another one, and then none", []string{"store d a 0", "store d a 64", "out c", "in b"}, 20, 4, 50, 6, 1, []int{30, 5}},
		{"nothing, as there is no such address", []string{"out b", "store d a 0", "out c", "in b"}, 64, 4, 50, 6, 1, []int{20, 30, 5}},
		{"plainly, another one", []string{"store d a 0", "out b", "out c", "in b"}, 20, 4, 3, 6, 1, []int{30, 5}},
		{"plainly, itself", []string{"store d a 0", "out b", "out c", "in b"}, 5, 4, 3, 6, 1, []int{20, 30}},
		{"plainly, what is behind", []string{"store d a 0", "out b", "out c", "in b"}, 8, 4, 1, 6, 1, []int{20, 30}},
		{"plainly, past its own", []string{"store d a 0", "out b", "out c", "in b"}, 9, 4, 2, 6, 1, []int{20, 30, 5}},
	} {
		m := turned(goesOn(c.lines, nil), func(m *impl.MchMach) {
			m.Regs[0], m.Regs[3] = c.reg, c.with
			copy(m.Mem[20:], other.Words)
			copy(m.Mem[30:], more.Words)
		})
		for _, ask := range asksOf(ownHand, impl.EngAsk{}, gives(marked(impl.BlkLower(5, insOf(c.lines...))))) {
			x, asked := holdTurn(t, c.what, engineOf(m, listed(other, more), nil), nil, c.left, ask)
			var places []int
			for _, e := range x.Cache {
				places = append(places, e.Block.Pc)
			}
			if !asked || x.Mach.Pc != c.place || x.Mach.Count != 100+c.done || !slices.Equal(places, c.kept) {
				t.Fatalf("%s: %v, at %d, %d done, kept for %v: %+v", c.what, asked, x.Mach.Pc, x.Mach.Count-100, places, x)
			}
			for n := range 30 {
				holdWhole(t, c.what, engineOf(m, listed(other, more), nil), nil, n, asksOf(ask, ask))
			}
		}
	}
	// What an interrupt's own code writes over is kept no more, and so is what a piece of code that was kept writes over.
	m := turned(goesOn([]string{"out b"}, []string{"store d a 0", "return"}), func(m *impl.MchMach) {
		m.Regs[0], m.Regs[3], m.Let = 20, 4, true
		copy(m.Mem[20:], other.Words)
		copy(m.Mem[30:], more.Words)
	})
	x, asked := holdTurn(t, "an interrupt's code", engineOf(m, listed(other, more), nil), irqsAt(100), 50, ownHand)
	if asked || !sameKept(x.Cache, listed(more)) {
		t.Fatalf("an interrupt's code: %v %+v", asked, x)
	}
	m.Let, m.Pc = false, impl.MchVector
	self := keptFor(impl.MchVector, "store d a 0")
	x, asked = holdTurn(t, "code that is kept", engineOf(m, listed(other, self, more), nil), nil, 50, ownHand)
	if asked || !sameKept(x.Cache, listed(self, more)) {
		t.Fatalf("code that is kept: %v %+v", asked, x)
	}
}

// exampleMachine is that of the document's example, which writes over its own code.
func exampleMachine() impl.MchMach {
	return impl.MchNew(wordsOf("set a 3", "set b 1", "out a", "sub a a b", "load d c 8", "store d b 1", "less c a 2", "stop", "out b"), nil)
}

func TestP6TheExample(t *testing.T) {
	m := exampleMachine()
	later := impl.MchRun(m, nil, 7)
	lower := impl.BlkLower(2, impl.BlkFind(later))
	words := wordsOf("out b", "sub a a b", "load d c 8", "store d b 1", "less c a 2")
	for _, c := range []struct {
		n, halt, place, done int
		regs, outs           []int
	}{
		{40, impl.HaltStop, 8, 18, []int{0, 1, 0, 58368}, []int{3, 1, 1}},
		{12, impl.HaltNone, 2, 12, []int{1, 1, 0, 58368}, []int{3, 1}},
		{400, impl.HaltStop, 8, 18, []int{0, 1, 0, 58368}, []int{3, 1, 1}},
	} {
		for _, a := range []struct {
			asks []impl.EngAsk
			want impl.IrBlock
		}{
			{nil, impl.OptAll(lower)},
			{asksOf(impl.EngAsk{}), impl.OptAll(lower)},
			{asksOf(impl.EngAsk{}, impl.EngAsk{}), lower},
			{asksOf(ownHand, gives(marked(lower))), marked(lower)},
			{asksOf(gives(marked(lower)), ownHand), impl.OptAll(lower)},
			{asksOf(gives(marked(lower)), gives(lower), ownHand), lower},
			{asksOf(ownHand, gives(marked(lower)), impl.EngAsk{}, gives(lower)), marked(lower)},
			{slices.Repeat(asksOf(gives(marked(lower))), 1000), marked(lower)},
		} {
			x := holdWhole(t, "the example", impl.EngNew(m), nil, c.n, a.asks)
			if !sameKept(x.Cache, listed(impl.CacEntry{Words: words, Block: a.want})) {
				t.Fatalf("kept is %+v, not %+v", x.Cache, a.want)
			}
			if !slices.Equal(x.Mach.Regs, c.regs) || !slices.Equal(x.Mach.Outs, c.outs) || x.Mach.Halt != c.halt || x.Mach.Pc != c.place || x.Mach.Count != c.done {
				t.Fatalf("%d to do: %+v", c.n, x.Mach)
			}
		}
	}
	if len(impl.OptAll(lower).Ops) != 13 || len(lower.Ops) == 13 {
		t.Fatalf("our own hand makes %+v", impl.OptAll(lower))
	}
}

// Asks are used up in order, one for each time that it is asked for, by no other turn.
func TestP53AsksInOrder(t *testing.T) {
	// Four pieces: at 0, which goes round to 2, at 4, and at 10; between them the one at 2 is gone through again and again, an interrupt that is not let in comes, and one instruction that is no piece of code.
	m := impl.MchNew(wordsOf("set a 3", "set b 1", "sub a a b", "less c a 2", "keep", "set d 10", "go d"), nil)
	copy(m.Mem[10:], wordsOf("out b", "stop"))
	places := []int{0, 2, 5, 10}
	var lowered []impl.IrBlock
	for _, pc := range places {
		lowered = append(lowered, impl.BlkLower(pc, impl.BlkFind(turned(m, func(m *impl.MchMach) { m.Pc = pc }))))
	}
	for _, irqs := range [][]int{nil, {1}, {3, 5}, {0, 4, 6}, {1, 2, 3, 4, 5, 6, 7, 8, 9, 10, 11, 12, 13}} {
		e := impl.EngNew(m)
		_, turns, asked := wantedTurns(e, irqs, 100, nil)
		if irqs == nil && (asked != 4 || turns < 7) {
			t.Fatalf("in %d turns it is asked for %d times", turns, asked)
		}
		// One number each: which of the four are somebody's, which lie, and which our own hand makes.
		for number := range 256 {
			if irqs != nil && number%7 != 3 {
				continue
			}
			for many := range 6 {
				var asks []impl.EngAsk
				want := make([]impl.IrBlock, 4)
				for at := range 4 {
					ask, kept := ownHand, impl.OptAll(lowered[at])
					switch number >> (2 * at) & 3 {
					case 1:
						ask, kept = gives(marked(lowered[at])), marked(lowered[at])
					case 2:
						ask, kept = gives(marked(lowered[(at+1)%4])), lowered[at]
					case 3:
						ask, kept = impl.EngAsk{}, lowered[at]
					}
					if at >= many {
						kept = impl.OptAll(lowered[at])
					} else {
						asks = append(asks, ask)
					}
					want[at] = kept
				}
				if many > 4 {
					asks = append(asks, ownHand, impl.EngAsk{}, gives(marked(lowered[0])))
				}
				x := holdWhole(t, "in order", e, irqs, 100, asks)
				if irqs != nil {
					continue
				}
				for at, pc := range places {
					place := impl.CacFind(x.Cache, pc)
					if place < 0 || !sameBlock(x.Cache[place].Block, want[at]) {
						t.Fatalf("asks %+v: for %d is kept\n%+v, not\n%+v", asks, pc, x.Cache, want[at])
					}
				}
			}
		}
	}
}

// With other asks the machine is the same.
func TestP53WithOtherAsks(t *testing.T) {
	d := dice(535353531)
	other := 0
	for range 150 {
		e := d.anyEngine()
		irqs, n := d.anyIrqs(e), d.of(5, 30, 100, 400)
		plain := impl.EngRun(e, irqs, n, nil)
		var lists [][]impl.EngAsk
		for range 3 {
			lists = append(lists, d.anyAsks(e, irqs, n))
		}
		lists = append(lists, slices.Repeat(asksOf(impl.EngAsk{}), n), d.anyAsks(d.anyEngine(), nil, n))
		for _, asks := range lists {
			x := impl.EngRun(e, irqs, n, asks)
			holdMachine(t, "with other asks", x.Mach, plain.Mach)
			holdFits(t, "with other asks", x)
			if !sameKept(x.Cache, plain.Cache) {
				other++
			}
		}
	}
	if other < 200 {
		t.Fatalf("only %d keep something else", other)
	}
}

// How many there are to do: each number up to as many as there may be, beside MchRun.
func TestP6EachNumber(t *testing.T) {
	d := dice(666666661)
	round := impl.MchNew(wordsOf("add a a b", "out a", "set b 3", "store a d 20", "load c d 20", "less a b 0", "in c", "xor d d d", "same a c 0", "same d d 0"), []int{1, 2, 3})
	engines := []impl.EngEng{impl.EngNew(round), impl.EngNew(exampleMachine()), impl.EngNew(d.busyMachine())}
	for _, e := range engines {
		for n := -1; n <= impl.MchMany; n++ {
			holdWhole(t, "without interrupts", e, nil, n, nil)
		}
		for _, n := range []int{-2, -400, math.MinInt, math.MinInt + 1} {
			holdEngine(t, "below 0", holdWhole(t, "below 0", e, nil, n, nil), e)
		}
		for _, n := range []int{impl.MchMany + 1, impl.MchMany + 2, 1000000, math.MaxInt, math.MaxInt - 100} {
			holdEngine(t, "too many", holdWhole(t, "too many", e, nil, n, nil), impl.EngEng{})
		}
	}
	if x := impl.EngRun(engines[0], nil, impl.MchMany, nil); x.Mach.Count != impl.MchMany || x.Mach.Halt != impl.HaltNone {
		t.Fatalf("round and round: %+v", x.Mach)
	}
}

// An interrupt at each Count, and at each two, let in and not.
func TestP6InterruptsAtEachCount(t *testing.T) {
	main := wordsOf("let", "add a a b", "set b 2", "out a", "store a d 30", "in c", "less a c 1", "sub a a b", "keep", "out c", "let", "same d d 1")
	m := impl.MchNew(main, []int{9, 8, 7})
	copy(m.Mem[impl.MchVector:], wordsOf("out b", "add b b b", "load c d 30", "return"))
	for first := -1; first <= 60; first++ {
		x := holdWhole(t, "one", impl.EngNew(m), irqsAt(first), 60, nil)
		if in := slices.Contains(x.Mach.Outs, 0) || x.Mach.Save != 0; first > 0 && first < 30 && !in {
			t.Fatalf("an interrupt at %d is not seen: %+v", first, x.Mach)
		}
		for second := first + 1; second <= 60; second += 1 + (first+4)%5 {
			holdWhole(t, "two", impl.EngNew(m), irqsAt(second, first), 60, nil)
		}
	}
	d := dice(676761616)
	for range 15 {
		e := d.anyEngine()
		for off := range 50 {
			holdWhole(t, "any engine", e, irqsAt(e.Mach.Count+off), 50, nil)
		}
		holdWhole(t, "always", e, irqsFrom(e.Mach.Count, 50), 50, nil)
	}
}

// irqsFrom are so many interrupts, one ahead of each instruction.
func irqsFrom(first, many int) []int {
	var out []int
	for at := range many {
		out = append(out, first+at)
	}
	return out
}

// A run in two parts, at every cut, whatever is kept between.
func TestP54EveryCut(t *testing.T) {
	d := dice(545454541)
	engines := []impl.EngEng{impl.EngNew(exampleMachine())}
	for range 15 {
		engines = append(engines, d.anyEngine())
	}
	for _, e := range engines {
		irqs, n := d.anyIrqs(e), d.of(20, 40, 60)
		whole := impl.EngRun(e, irqs, n, d.anyAsks(e, irqs, n))
		asks := d.anyAsks(e, irqs, n)
		for cut := 0; cut <= n; cut++ {
			first := impl.EngRun(e, irqs, cut, asks)
			both := impl.EngRun(first, irqs, n-cut, d.anyAsks(first, irqs, n-cut))
			holdMachine(t, "in two parts", both.Mach, whole.Mach)
			holdFits(t, "in two parts", both)
			// Whatever is kept between: nothing, or other pieces of code.
			bare := impl.EngRun(impl.EngNew(first.Mach), irqs, n-cut, nil)
			holdMachine(t, "in two parts, with nothing kept between", bare.Mach, whole.Mach)
			others := engineOf(first.Mach, d.anyKept(first.Mach.Mem, 4), rightPairs()[:d.below(4)])
			holdMachine(t, "in two parts, with something else kept between", impl.EngRun(others, irqs, n-cut, nil).Mach, whole.Mach)
		}
	}
}

// Whatever the engine, the asks and the interrupts: turn by turn, and all at once.
func TestP6WhateverHappens(t *testing.T) {
	d := dice(606060611)
	seen := map[string]int{}
	for range 350 {
		e := d.anyEngine()
		irqs, n := d.anyIrqs(e), d.of(3, 20, 60, 60, 150, 400)
		asks := d.anyAsks(e, irqs, n)
		x := holdWhole(t, "all at once", e, irqs, n, asks)
		seen[fmt.Sprint("halt ", x.Mach.Halt)]++
		y, used := e, 0
		for to := e.Mach.Count + n; y.Mach.Count < to && y.Mach.Halt == impl.HaltNone && y.Mach.Count < impl.MchMost; {
			ask := ownHand
			if used < len(asks) {
				ask = asks[used]
			}
			next, asked := impl.EngTurn(y, irqs, to-y.Mach.Count, ask)
			if asked {
				used++
				seen["asked"]++
			}
			d.tally(seen, y, next, asked)
			y = next
		}
		holdEngine(t, "turn by turn", y, x)
		if used > len(asks) {
			seen["more than there are"]++
		} else if used < len(asks) {
			seen["fewer than there are"]++
		}
	}
	for _, what := range []string{"halt 0", "halt 1", "halt 2", "halt 3", "halt 4", "asked", "by code", "plainly", "left", "let in", "dropped", "full", "more than there are", "fewer than there are"} {
		if seen[what] < 20 {
			t.Errorf("%s: only %d; %v", what, seen[what], seen)
		}
	}
}

// tally counts what a turn of an engine was.
func (d *dice) tally(seen map[string]int, e, x impl.EngEng, asked bool) {
	done := x.Mach.Count - e.Mach.Count
	if done > 1 {
		seen["by code"]++
	} else {
		seen["plainly"]++
	}
	long := len(impl.BlkFind(e.Mach))
	if place := impl.CacFind(e.Cache, e.Mach.Pc); place >= 0 {
		long = e.Cache[place].Block.Len
	}
	if done > 1 && done < long && x.Mach.Halt == impl.HaltNone {
		seen["left"]++
	}
	if e.Mach.Let && !x.Mach.Let && x.Mach.Save == e.Mach.Pc {
		seen["let in"]++
	}
	if len(x.Cache) < len(e.Cache) {
		seen["dropped"]++
	}
	if asked && len(e.Cache) == impl.CacMost {
		seen["full"]++
	}
}

// An engine that keeps nothing, and to which nobody gives anything.
func TestP85NothingKeptAndNothingGiven(t *testing.T) {
	d := dice(858585851)
	for range 800 {
		m := d.anyMachine()
		if d.below(2) == 0 {
			m = d.busyMachine()
		}
		n := d.of(0, 1, 7, 60, impl.MchMany)
		x := impl.EngRun(impl.EngNew(m), nil, n, nil)
		holdMachine(t, "nothing kept, nothing given", x.Mach, impl.MchRun(m, nil, n))
		holdFits(t, "nothing kept, nothing given", x)
		for _, asks := range [][]impl.EngAsk{{}, asksOf(ownHand)} {
			holdEngine(t, "as with our own hand", impl.EngRun(impl.EngNew(m), []int{}, n, asks), x)
		}
		if x.Mach.Halt != impl.HaltNone {
			for _, more := range []int{-1, 0, 1, 50, impl.MchMany} {
				holdEngine(t, "it stands still", impl.EngRun(x, d.anyIrqs(x), more, asksOf(impl.EngAsk{})), x)
			}
		}
	}
}

// Behind a run from any engine that is ok it is ok; from one that is not there is nothing.
func TestP8OkBehindEachRun(t *testing.T) {
	d := dice(888888881)
	full, over, bad := 0, 0, 0
	for range 500 {
		e := d.anyEngine()
		irqs := d.anyIrqs(e)
		for _, n := range []int{1, d.below(20), d.below(401)} {
			x := holdWhole(t, "any", e, irqs, n, d.anyAsks(e, irqs, n))
			for _, k := range x.Cache {
				if !wantedOne(k, x.Mach.Mem) {
					t.Fatalf("%+v is stale beside %v", k, x.Mach.Mem)
				}
			}
			if len(x.Cache) == 4 {
				full++
			}
			for _, k := range e.Cache {
				if !wordsStand(k, x.Mach.Mem) {
					over++
				}
			}
		}
		if len(e.Cache) > 0 {
			lies := e
			lies.Cache, lies.Mach.Mem = d.anyTurned(e.Cache, e.Mach.Mem)
			if !wantedEngine(lies) {
				bad++
				holdNoEngine(t, "one thing turned", lies)
			}
		}
		if certs := append(slices.Clone(e.Certs), d.anyPair()); !wantedPairs(certs) {
			bad++
			holdNoEngine(t, "a pair more", engineOf(e.Mach, e.Cache, certs))
		}
	}
	if full < 200 || over < 40 || bad < 200 {
		t.Fatalf("only %d keep as much as may be, %d that were kept are written over, and %d are not ok", full, over, bad)
	}
}

// busyCode is a word of a machine that goes on for long: registers c and d stay small, addresses and places are there, and a holds mostly words that say instructions.
func (d *dice) busyCode() int {
	i := impl.InsIns{Op: d.of(1, 2, 3, 4, 5, 6, 7, 8, 9, 9, 9, 10, 10, 11, 12, 12, 14, 15), D: 1, A: d.below(4), K: d.below(64)}
	switch i.Op {
	case impl.InsMove:
		i.K = 0
	case impl.InsShift:
		i.K %= 16
	case impl.InsAdd, impl.InsSub, impl.InsMul, impl.InsAnd, impl.InsXor:
		i.K %= 4
	case impl.InsLoad, impl.InsStore:
		i.D, i.A, i.K = d.of(0, 0, 0, 1), 2+d.below(2), d.below(60)
	case impl.InsSame, impl.InsLess:
		i.D = d.below(4)
	case impl.InsOut, impl.InsIn:
		i.A, i.K = 0, 0
	case impl.InsSet:
		i.A = 0
	}
	if d.below(15) == 0 {
		i = impl.InsIns{K: d.of(impl.StopLet, impl.StopLet, impl.StopReturn, impl.StopKeep)}
	}
	return impl.InsPut(i)
}

// busyMachine is a machine that goes round and round, and writes its own words over each other.
func (d *dice) busyMachine() impl.MchMach {
	m := d.goingMachine()
	m.Mem = d.anyList(impl.MchSize, d.busyCode)
	m.Mem[63] = wordsOf("same c c 0")[0]
	m.Regs = []int{d.busyCode(), d.anyWord(), d.below(3), d.below(3)}
	m.Ins = d.anyList(d.below(8), d.busyCode)
	m.Pc, m.Save = d.below(impl.MchSize), d.below(impl.MchSize)
	// Here and there it writes over what is near.
	for at := 2; at < 60; at++ {
		if d.below(14) == 0 {
			m.Mem[at] = impl.InsPut(impl.InsIns{Op: impl.InsStore, D: d.of(0, 0, 0, 1), A: 2 + d.below(2), K: at - 2 + d.below(7)})
		}
	}
	return m
}

// anyEngine is an engine that is ok, with some things kept, and some pairs.
func (d *dice) anyEngine() impl.EngEng {
	m := d.busyMachine()
	if d.below(3) == 0 {
		m = d.anyMachine()
	}
	if d.below(20) == 0 {
		m.Count = impl.MchMost - d.below(40)
	}
	e := impl.EngNew(m)
	if d.below(2) == 0 {
		e.Cache = d.anyKept(m.Mem, d.below(5))
	}
	for range d.of(0, 0, 1, 2, 3) {
		list := impl.BlkFind(m)
		if lower := impl.BlkLower(m.Pc, list); len(list) > 0 && d.below(2) == 0 {
			if other := d.otherHands(lower); impl.ChkSame(lower, other) {
				e.Certs = append(e.Certs, pairOf(lower, other))
			}
			continue
		}
		b := d.anyOwn()
		e.Certs = append(e.Certs, pairOf(b, impl.OptAll(b)))
	}
	return e
}

// anyIrqs are some interrupts, mostly soon.
func (d *dice) anyIrqs(e impl.EngEng) []int {
	return d.anyList(d.of(0, 0, 1, 2, 5, 20), func() int { return e.Mach.Count + d.of(d.below(9), d.below(60), d.below(400)-5) })
}

// anyAsk is an ask for what an engine would ask for: by our own hand, by somebody who is right, or mostly, or never.
func (d *dice) anyAsk(e impl.EngEng) impl.EngAsk {
	list := impl.BlkFind(e.Mach)
	if len(list) == 0 {
		return impl.EngAsk{Own: d.below(2) == 0, Bytes: d.anyBytes()}
	}
	lower := impl.BlkLower(e.Mach.Pc, list)
	switch d.below(10) {
	case 0:
		return ownHand
	case 1:
		return gives(lower)
	case 2:
		return gives(marked(lower))
	case 3:
		return impl.EngAsk{Bytes: d.turnedBytes(impl.IrBytes(impl.OptAll(lower)))}
	case 4:
		return impl.EngAsk{Bytes: d.turnedBytes(impl.IrBytes(lower))}
	case 5:
		return impl.EngAsk{Bytes: d.anyBytes()}
	case 6:
		return gives(impl.OptAll(lower))
	case 7:
		for _, p := range e.Certs {
			if sameBlock(p.Base, lower) {
				return gives(p.Made)
			}
		}
	}
	return gives(d.otherHands(lower))
}

// anyAsks are asks for what an engine will ask for, as far as there are any; some are missing, or stand elsewhere, or are more than it will ask for.
func (d *dice) anyAsks(e impl.EngEng, irqs []int, n int) []impl.EngAsk {
	var out []impl.EngAsk
	for to := e.Mach.Count + n; e.Mach.Count < to && e.Mach.Halt == impl.HaltNone && e.Mach.Count < impl.MchMost; {
		ask := d.anyAsk(e)
		next, asked := wantedGoing(e, irqs, to-e.Mach.Count, ask)
		if asked {
			out = append(out, ask)
		}
		e = next
	}
	switch d.below(6) {
	case 0:
		return out[:d.below(len(out)+1)]
	case 1:
		return append(out, ownHand, impl.EngAsk{}, d.anyAsk(e))
	case 2:
		if len(out) > 0 {
			return out[1:]
		}
	}
	return out
}

// lentEngine is an engine whose lists have spare room, which a careless hand would write into.
func lentEngine(e impl.EngEng) impl.EngEng {
	return engineOf(lent(e.Mach), lentKept(e.Cache), lentPairs(e.Certs))
}

func lentAsks(list []impl.EngAsk) []impl.EngAsk {
	out := lentList(list, ownHand, impl.EngAsk{Bytes: []byte{7, 7}})
	for at := range out {
		out[at].Bytes = lentList(out[at].Bytes, 7, 8, 9)
	}
	return out
}

// spansOfEngine is where all lists of an engine lie.
func spansOfEngine(e impl.EngEng) []span {
	out := slices.Concat(spansOfKept(e.Cache...), spansOfPairs(e.Certs...))
	// The lists themselves, whose spare room the variadic call would not tell.
	out = append(out, spanOf(e.Cache)...)
	out = append(out, spanOf(e.Certs)...)
	for _, list := range listsOf(e.Mach) {
		out = append(out, spanOf(list)...)
	}
	return out
}

// spansOfAnswer are those of an answer, each list told once.
func spansOfAnswer(e impl.EngEng) []span {
	out := slices.Concat(spansOfKept(e.Cache...), spansOfPairs(e.Certs...))
	for _, list := range listsOf(e.Mach) {
		out = append(out, spanOf(list)...)
	}
	return out
}

// wholeEngine is a copy of all that an engine has, the spare room of each list as well.
func wholeEngine(e impl.EngEng) impl.EngEng {
	lists := held(listsOf(e.Mach))
	m := e.Mach
	m.Regs, m.Mem, m.Ins, m.Outs = lists[0], lists[1], lists[2], lists[3]
	return engineOf(m, wholeKept(e.Cache), wholePairs(e.Certs))
}

// apartEngine is a copy of an engine that shares nothing with it.
func apartEngine(e impl.EngEng) impl.EngEng {
	return engineOf(apart(e.Mach), apartKept(e.Cache), apartPairs(e.Certs))
}

func spoilEngine(e impl.EngEng) {
	for _, list := range listsOf(e.Mach) {
		spoil(list, -77)
	}
	spoilKept(e.Cache)
	spoilPairs(e.Certs)
}

// wholeAsks is a copy of asks, with all their spare room.
func wholeAsks(list []impl.EngAsk) []impl.EngAsk {
	out := slices.Clone(list[:cap(list)])
	for at := range out {
		out[at].Bytes = slices.Clone(out[at].Bytes[:cap(out[at].Bytes)])
	}
	return out
}

func sameAsks(a, b []impl.EngAsk) bool {
	return slices.EqualFunc(a, b, func(x, y impl.EngAsk) bool { return x.Own == y.Own && slices.Equal(x.Bytes, y.Bytes) })
}

func spansOfAsks(list []impl.EngAsk) []span {
	out := spanOf(list)
	for _, ask := range list[:cap(list)] {
		out = append(out, spanOf(ask.Bytes)...)
	}
	return out
}

func TestP6NothingIsWrittenIntoOrShared(t *testing.T) {
	d := dice(616263646)
	for round := range 1200 {
		plain := d.anyEngine()
		if round%10 == 0 {
			plain.Mach.Halt = d.below(5)
		}
		n := d.of(-1, 0, 1, 4, 30, 60)
		irqs := lentList(d.anyIrqs(plain), 7001, 7002)
		ask, asks := lentAsks(asksOf(d.anyAsk(plain))), lentAsks(d.anyAsks(plain, irqs, n))
		e := lentEngine(plain)
		if round%5 == 0 && len(e.Cache) > 1 {
			// What is given may share memory within itself; what is told may not.
			e.Cache[0].Words = e.Mach.Mem[e.Cache[0].Block.Pc:][:len(e.Cache[0].Words)]
			e.Mach.Ins, e.Mach.Outs = e.Mach.Mem[10:12], e.Mach.Mem[11:20]
			if len(e.Certs) > 0 {
				e.Certs[0] = pairOf(e.Cache[0].Block, e.Cache[0].Block)
			}
			plain = apartEngine(e)
		}
		before, asksBefore, askBefore, irqsBefore := wholeEngine(e), wholeAsks(asks), wholeAsks(ask), slices.Clone(irqs[:cap(irqs)])
		given := slices.Concat(spansOfEngine(e), spanOf(irqs), spansOfAsks(asks), spansOfAsks(ask))
		wantTurn, wantAsked := wantedTurn(plain, irqs, n, ask[0])
		wantRun, _, _ := wantedTurns(plain, irqs, n, asks)
		wants := []impl.EngEng{wantTurn, wantRun, engineOf(plain.Mach, nil, nil), plain}
		for at := range wants {
			wants[at] = apartEngine(wants[at])
		}
		answers := func() []impl.EngEng {
			turn, asked := impl.EngTurn(e, irqs, n, ask[0])
			if asked != wantAsked {
				t.Fatalf("asked for: %v", asked)
			}
			return []impl.EngEng{turn, impl.EngRun(e, irqs, n, asks), impl.EngNew(e.Mach), impl.EngRun(e, irqs, 0, asks)}
		}
		first, second := answers(), answers()
		for at := range first {
			holdEngine(t, "an answer", first[at], wants[at])
			holdSpans(t, "an answer", spansOfAnswer(first[at]), slices.Concat(given, spansOfAnswer(second[at])))
			spoilEngine(first[at])
		}
		if !impl.EngOk(e) || !sameEngine(wholeEngine(e), before) || !sameAsks(wholeAsks(asks), asksBefore) || !sameAsks(wholeAsks(ask), askBefore) || !slices.Equal(irqs[:cap(irqs)], irqsBefore) {
			t.Fatalf("what was given was\n%+v\nand is now\n%+v", before, e)
		}
		runtime.KeepAlive(e)
		spoilEngine(e)
		spoil(irqs, -77)
		for _, list := range [][]impl.EngAsk{ask, asks} {
			for _, a := range list {
				spoil(a.Bytes, 77)
			}
			spoil(list, impl.EngAsk{})
		}
		for at := range second {
			holdEngine(t, "an answer behind what was given is written into", second[at], wants[at])
		}
	}
}

// Who offers asks is gone when a call answers, however many are not used; and a great many take no longer.
func TestP53NobodyIsLeftBehind(t *testing.T) {
	e := impl.EngNew(exampleMachine())
	many := slices.Repeat(asksOf(impl.EngAsk{}), 2000000)
	still := turned(e.Mach, func(m *impl.MchMach) { m.Halt = impl.HaltStop })
	begun := runtime.NumGoroutine()
	for round := range 300 {
		list := many[:len(many)-round]
		holdMachine(t, "a great many asks", impl.EngRun(e, nil, 5+round%390, list).Mach, impl.MchRun(e.Mach, nil, 5+round%390))
		impl.EngRun(withMach(e, still), nil, 400, list)
		impl.EngRun(e, nil, 0, list)
		impl.EngRun(e, nil, -1, list)
		impl.EngRun(e, nil, 401, list)
		impl.EngTurn(e, nil, 5, ownHand)
		impl.EngTurn(withMach(e, still), nil, 5, ownHand)
		impl.EngTurn(impl.EngEng{}, nil, 5, ownHand)
	}
	// One that has done all that it does may need a moment to be gone.
	for range 1000 {
		if runtime.NumGoroutine() <= begun {
			return
		}
		time.Sleep(time.Millisecond)
	}
	t.Fatalf("there were %d, and are %d", begun, runtime.NumGoroutine())
}

// What is answered hangs on what is given alone: many at once, and again and again.
func TestP53ManyAtOnce(t *testing.T) {
	d := dice(535300001)
	type one struct {
		e    impl.EngEng
		irqs []int
		asks []impl.EngAsk
		want impl.EngEng
	}
	var list []one
	for range 40 {
		e := d.anyEngine()
		irqs := d.anyIrqs(e)
		asks := d.anyAsks(e, irqs, 60)
		want, _, _ := wantedTurns(e, irqs, 60, asks)
		list = append(list, one{e, irqs, asks, want})
	}
	answers := make(chan string)
	for range 8 {
		go func() {
			for _, c := range list {
				if got := impl.EngRun(c.e, c.irqs, 60, c.asks); !sameEngine(got, c.want) {
					answers <- fmt.Sprintf("%+v, not %+v", got, c.want)
					return
				}
			}
			answers <- ""
		}()
	}
	for range 8 {
		if wrong := <-answers; wrong != "" {
			t.Error(wrong)
		}
	}
}
