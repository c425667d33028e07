package tests

import (
	"math"
	"slices"
	"testing"

	"loop.example/latimer/impl"
)

// The signatures that the document gives; another one would not compile here.
var (
	_ func(impl.IrBlock) bool                               = impl.IrOk
	_ func(impl.IrBlock, impl.MchMach) (impl.MchMach, bool) = impl.IrRun
	_ func(impl.IrBlock) int                                = impl.IrEvents
)

func constant(k int) impl.IrOp           { return impl.IrOp{Kind: impl.IrConst, K: k} }
func gets(register int) impl.IrOp        { return impl.IrOp{Kind: impl.IrGet, K: register} }
func reckons(op, x, y int) impl.IrOp     { return impl.IrOp{Kind: impl.IrDo, K: op, X: x, Y: y} }
func loads(x, at int) impl.IrOp          { return impl.IrOp{Kind: impl.IrLoad, X: x, At: at} }
func stores(x, y, at int) impl.IrOp      { return impl.IrOp{Kind: impl.IrStore, X: x, Y: y, At: at} }
func letsIn(at int) impl.IrOp            { return impl.IrOp{Kind: impl.IrIn, At: at} }
func letsOut(x, at int) impl.IrOp        { return impl.IrOp{Kind: impl.IrOut, X: x, At: at} }
func sets(register, x int) impl.IrOp     { return impl.IrOp{Kind: impl.IrSet, K: register, X: x} }
func opsOf(ops ...impl.IrOp) []impl.IrOp { return ops }

// irRow is a line of the document's tables: what a Kind, or an End, has, from where to where its K is (0, if it has none), and whether it makes a word.
type irRow struct {
	x, y, at    bool
	least, most int
	word        bool
}

var kindRows = map[int]irRow{
	1: {most: 65535, word: true},
	2: {most: 3, word: true},
	3: {x: true, y: true, least: 1, most: 5, word: true},
	4: {x: true, at: true, word: true},
	5: {x: true, y: true, at: true},
	6: {at: true, word: true},
	7: {x: true, at: true},
	8: {x: true, most: 3},
}

var endRows = map[int]irRow{
	1: {most: 65535},
	2: {x: true},
	3: {x: true, y: true, most: 65535},
	4: {x: true, y: true, most: 65535},
}

// wantedHas says whether an operation behind others, of so many instructions, is as its line says.
func wantedHas(row irRow, o impl.IrOp, ahead []impl.IrOp, long int) bool {
	made := func(has bool, place int) bool {
		if !has {
			return place == 0
		}
		return place >= 0 && place < len(ahead) && kindRows[ahead[place].Kind].word
	}
	if o.At != 0 && (!row.at || o.At < 0 || o.At >= long) {
		return false
	}
	return made(row.x, o.X) && made(row.y, o.Y) && o.K >= row.least && o.K <= row.most
}

// wantedCode is what the document asks of IrOk.
func wantedCode(b impl.IrBlock) bool {
	if b.Len < 1 || b.Len > 8 || b.Pc < 0 || b.Pc > 64-b.Len || len(b.Ops) > 48 {
		return false
	}
	for place, o := range b.Ops {
		row, there := kindRows[o.Kind]
		if !there || !wantedHas(row, o, b.Ops[:place], b.Len) {
			return false
		}
	}
	row, there := endRows[b.End]
	return there && wantedHas(row, impl.IrOp{X: b.X, Y: b.Y, K: b.K}, b.Ops, b.Len)
}

// wantedPass is what the document asks of IrRun of a piece of code that is ok, and a machine that goes through it.
func wantedPass(b impl.IrBlock, before impl.MchMach) impl.MchMach {
	m := apart(before)
	words := make([]int, len(b.Ops)+1)
	for place, o := range b.Ops {
		x, y := words[o.X], words[o.Y]
		switch o.Kind {
		case 1:
			words[place] = o.K
		case 2:
			words[place] = m.Regs[o.K]
		case 3:
			words[place] = reckoned(o.K, x, y)
		case 4, 5:
			if x > 63 {
				m.Halt, m.Pc, m.Count = 3, b.Pc+o.At, m.Count+o.At
				return m
			}
			if o.Kind == 4 {
				words[place] = m.Mem[x]
				break
			}
			m.Mem[x] = y
			if x > b.Pc+o.At && x < b.Pc+b.Len {
				m.Pc, m.Count = b.Pc+o.At+1, m.Count+o.At+1
				return m
			}
		case 6:
			if len(m.Ins) > 0 {
				words[place], m.Ins = m.Ins[0], m.Ins[1:]
			}
		case 7:
			m.Outs = append(m.Outs, x)
		case 8:
			m.Regs[o.K] = x
		}
	}
	x, y := words[b.X], words[b.Y]
	m.Pc, m.Count = b.K, m.Count+b.Len
	if b.End == 2 {
		m.Pc = x
	} else if b.End == 3 && x != y || b.End == 4 && x >= y {
		m.Pc = b.Pc + b.Len
	}
	return m
}

// holdRun fails unless IrRun answers a machine and whether it was gone through as wanted.
func holdRun(t *testing.T, what string, b impl.IrBlock, m, want impl.MchMach, wantOk bool) {
	t.Helper()
	got, ok := impl.IrRun(b, m)
	if ok != wantOk || !sameMachine(got, want) {
		t.Fatalf("%s: %+v of %+v:\n got %v %+v\nwant %v %+v", what, b, m, ok, got, wantOk, want)
	}
}

// codeOf is a piece of code for the three instructions from place 5 on, that goes on at 20.
func codeOf(ops ...impl.IrOp) impl.IrBlock {
	return impl.IrBlock{Pc: 5, Len: 3, Ops: ops, End: impl.EndGo, K: 20}
}

// turnedCode is a piece of code with a change, the code itself being left as it is.
func turnedCode(b impl.IrBlock, turn func(b *impl.IrBlock)) impl.IrBlock {
	b.Ops = slices.Clone(b.Ops)
	turn(&b)
	return b
}

// ended is a piece of code with another End.
func ended(b impl.IrBlock, end, x, y, k int) impl.IrBlock {
	b.End, b.X, b.Y, b.K = end, x, y, k
	return b
}

// eachKind is a piece of code with one operation of each Kind, at the place of its number less 1, that loads and stores at address 9.
func eachKind() impl.IrBlock {
	b := codeOf(constant(9), gets(1), reckons(impl.OpAdd, 0, 1), loads(0, 1), stores(0, 3, 2), letsIn(0), letsOut(5, 1), sets(3, 2))
	return ended(b, impl.EndLess, 3, 5, 20)
}

// standing is the machine of goesOn at the place of a piece of code, or, where that is no place, as it is.
func standing(b impl.IrBlock) impl.MchMach {
	m := goesOn(nil, nil)
	if impl.WrdOk(b.Pc) {
		m.Pc = b.Pc
	}
	return m
}

// holdNoCode fails unless a piece of code is answered as one that is not ok.
func holdNoCode(t *testing.T, what string, b impl.IrBlock) {
	t.Helper()
	if impl.IrOk(b) {
		t.Fatalf("%s: %+v is not ok, but IrOk is true", what, b)
	}
	m := standing(b)
	for _, x := range []impl.MchMach{
		m, {}, impl.MchNew(nil, nil),
		turned(m, func(m *impl.MchMach) { m.Halt = impl.HaltStop }),
		turned(m, func(m *impl.MchMach) { m.Count = impl.MchMost }),
		turned(m, func(m *impl.MchMach) { m.Regs = nil }),
	} {
		holdRun(t, what, b, x, impl.MchMach{}, false)
	}
}

// holdCode fails unless a piece of code is ok, and is gone through as wanted.
func holdCode(t *testing.T, what string, b impl.IrBlock) {
	t.Helper()
	if !impl.IrOk(b) || !wantedCode(b) {
		t.Fatalf("%s: %+v is ok, but IrOk is %v", what, b, impl.IrOk(b))
	}
	m := standing(b)
	holdRun(t, what, b, m, wantedPass(b, m), true)
}

func TestOperationNumbers(t *testing.T) {
	got := []int{impl.IrConst, impl.IrGet, impl.IrDo, impl.IrLoad, impl.IrStore, impl.IrIn, impl.IrOut, impl.IrSet, impl.EndGo, impl.EndWord, impl.EndSame, impl.EndLess, impl.IrMaxLen, impl.IrMaxOps}
	want := []int{1, 2, 3, 4, 5, 6, 7, 8, 1, 2, 3, 4, 8, 48}
	for i := range want {
		if got[i] != want[i] {
			t.Errorf("constant %d of chapter 6 is %d, not %d", i, got[i], want[i])
		}
	}
}

// manyOps are so many operations that are ok one behind another.
func manyOps(many int) []impl.IrOp {
	out := make([]impl.IrOp, 0, many)
	for len(out) < many {
		switch place := len(out); place % 4 {
		case 0:
			out = append(out, constant(place))
		case 1:
			out = append(out, reckons(impl.OpMul, place-1, 0))
		case 2:
			out = append(out, letsOut(place-1, 0))
		case 3:
			out = append(out, sets(place%impl.InsRegs, place-2))
		}
	}
	return out
}

func TestP32WhatIsCode(t *testing.T) {
	holdCode(t, "each Kind", eachKind())
	holdCode(t, "no operations", codeOf())
	holdCode(t, "an empty list of them", impl.IrBlock{Len: 1, Ops: []impl.IrOp{}, End: impl.EndGo})
	for _, many := range []int{1, 2, 47, 48} {
		holdCode(t, "many operations", codeOf(manyOps(many)...))
	}
	for long := 1; long <= 8; long++ {
		for _, pc := range []int{0, 1, 63 - long, 64 - long} {
			b := impl.IrBlock{Pc: pc, Len: long, Ops: opsOf(constant(0), letsIn(0), letsOut(1, long-1), loads(0, long-1)), End: impl.EndSame, X: 0, Y: 3, K: 65535}
			holdCode(t, "a place at its ends", b)
		}
	}
	for _, k := range []int{0, 1, 63, 64, 65534, 65535} {
		holdCode(t, "any word", ended(codeOf(constant(k), sets(0, 0)), impl.EndGo, 0, 0, k))
	}
	// The last one, and the first one, are as good as any other.
	last := opsOf(constant(3), stores(0, 0, 0), letsIn(2))
	holdCode(t, "End of the last one", ended(codeOf(last...), impl.EndWord, 2, 0, 0))
	holdCode(t, "End of the first one", ended(codeOf(last...), impl.EndSame, 0, 0, 0))
	holdCode(t, "the one ahead", codeOf(constant(3), reckons(impl.OpXor, 0, 0), reckons(impl.OpXor, 1, 1), loads(2, 0), stores(3, 3, 2)))
	holdCode(t, "instructions in any order", codeOf(constant(30), loads(0, 2), stores(0, 1, 0), letsIn(1), letsOut(3, 0)))
}

func TestP32WhatIsNoCode(t *testing.T) {
	base := eachKind()
	holdNoCode(t, "nothing", impl.IrBlock{})
	for what, turn := range map[string]func(b *impl.IrBlock){
		"Len 0":               func(b *impl.IrBlock) { *b = impl.IrBlock{Pc: 5, End: impl.EndGo, K: 20} },
		"Len below 0":         func(b *impl.IrBlock) { b.Len = -1 },
		"Len too great":       func(b *impl.IrBlock) { b.Len = impl.IrMaxLen + 1 },
		"least Len":           func(b *impl.IrBlock) { b.Len = math.MinInt },
		"most Len":            func(b *impl.IrBlock) { b.Len = math.MaxInt },
		"Pc below 0":          func(b *impl.IrBlock) { b.Pc = -1 },
		"Pc too great":        func(b *impl.IrBlock) { b.Pc = impl.MchSize - b.Len + 1 },
		"Pc at the last word": func(b *impl.IrBlock) { b.Pc = impl.MchSize - 1 },
		"Pc past the words":   func(b *impl.IrBlock) { b.Pc = impl.MchSize },
		"Pc at the end":       func(b *impl.IrBlock) { b.Pc = impl.WrdMany - 1 },
		"least Pc":            func(b *impl.IrBlock) { b.Pc = math.MinInt },
		"most Pc":             func(b *impl.IrBlock) { b.Pc = math.MaxInt },
		"most of both":        func(b *impl.IrBlock) { b.Pc, b.Len = math.MaxInt, math.MaxInt },
		"both undone":         func(b *impl.IrBlock) { b.Pc, b.Len = math.MaxInt-7, 8 },
		"49 operations":       func(b *impl.IrBlock) { *b = codeOf(manyOps(49)...) },
		"400 operations":      func(b *impl.IrBlock) { *b = codeOf(slices.Repeat(opsOf(constant(1)), 400)...) },
		"End 0":               func(b *impl.IrBlock) { b.End = 0 },
		"End 0, with nothing": func(b *impl.IrBlock) { *b = ended(*b, 0, 0, 0, 0) },
		"End too great":       func(b *impl.IrBlock) { b.End = impl.EndLess + 1 },
		"End below 0":         func(b *impl.IrBlock) { b.End = -1 },
		"least End":           func(b *impl.IrBlock) { b.End = math.MinInt },
		"most End":            func(b *impl.IrBlock) { b.End = math.MaxInt },
		"first one not ok":    func(b *impl.IrBlock) { b.Ops[0].At = 1 },
		"last one not ok":     func(b *impl.IrBlock) { b.Ops[7].At = 1 },
		"an empty operation":  func(b *impl.IrBlock) { b.Ops = append(b.Ops, impl.IrOp{}) },
		"shorter than its At": func(b *impl.IrBlock) { b.Len = 2 },
	} {
		holdNoCode(t, what, turnedCode(base, turn))
	}
	for long := 1; long <= 8; long++ {
		for _, pc := range []int{-1, 64 - long + 1, 64, 65535} {
			holdNoCode(t, "a place past its ends", impl.IrBlock{Pc: pc, Len: long, End: impl.EndGo})
		}
	}
}

// irFields are the fields of an operation; the first three are those of an End, too.
var irFields = []struct {
	name string
	of   func(o *impl.IrOp) *int
	has  func(row irRow) bool
}{
	{"X", func(o *impl.IrOp) *int { return &o.X }, func(row irRow) bool { return row.x }},
	{"Y", func(o *impl.IrOp) *int { return &o.Y }, func(row irRow) bool { return row.y }},
	{"K", func(o *impl.IrOp) *int { return &o.K }, func(row irRow) bool { return row.most > 0 }},
	{"At", func(o *impl.IrOp) *int { return &o.At }, func(row irRow) bool { return row.at }},
}

// fieldNumbers are what a field is tried with: small numbers, and those about the ends of all that is counted.
func fieldNumbers() []int {
	out := []int{255, 256, 65534, 65535, 65536, 65537, 131072, 1<<32 - 1, 1 << 33}
	for n := -9; n <= 70; n++ {
		out = append(out, n)
	}
	return append(out, extremes...)
}

// aheadOfIt are operations of each Kind but IrDo; behind them stands what is tried, at place 7, and behind that words again.
func aheadOfIt() []impl.IrOp {
	return opsOf(constant(9), gets(1), letsIn(0), loads(0, 0), stores(0, 1, 0), letsOut(2, 0), sets(3, 1))
}

// least is an operation of a Kind, or of an End, with as little as it may have, behind aheadOfIt.
func least(kind int, row irRow) impl.IrOp {
	return impl.IrOp{Kind: kind, K: row.least}
}

// Each field of each Kind alone, with each number: it is ok just with those that the document's table lists.
func TestP32EachFieldOfEachKind(t *testing.T) {
	for kind, row := range kindRows {
		for _, f := range irFields {
			good := 0
			for _, n := range fieldNumbers() {
				o := least(kind, row)
				*f.of(&o) = n
				b := codeOf(slices.Concat(aheadOfIt(), opsOf(o, constant(1), gets(0)))...)
				fine := n == 0
				switch {
				case f.has(row) && (f.name == "X" || f.name == "Y"):
					fine = 0 <= n && n <= 3
				case f.has(row) && f.name == "K":
					fine = row.least <= n && n <= row.most
				case f.has(row):
					fine = 0 <= n && n <= 2
				}
				if !fine {
					holdNoCode(t, f.name, b)
					continue
				}
				good++
				holdCode(t, f.name, b)
			}
			if good == 0 || good == 1 && f.has(row) {
				t.Fatalf("Kind %d: %s is ok with %d numbers alone", kind, f.name, good)
			}
		}
	}
}

// Each field of each End alone, with each number, behind ten operations of which the last makes a word.
func TestP32EachFieldOfEachEnd(t *testing.T) {
	ops := append(aheadOfIt(), reckons(impl.OpAdd, 0, 1), sets(2, 7), constant(5))
	for end, row := range endRows {
		for _, f := range irFields[:3] {
			for _, n := range fieldNumbers() {
				o := least(0, row)
				*f.of(&o) = n
				b := ended(codeOf(ops...), end, o.X, o.Y, o.K)
				fine := n == 0
				if f.has(row) && f.name == "K" {
					fine = 0 <= n && n <= 65535
				} else if f.has(row) {
					fine = slices.Contains([]int{0, 1, 2, 3, 7, 9}, n)
				}
				if fine {
					holdCode(t, f.name, b)
				} else {
					holdNoCode(t, f.name, b)
				}
			}
		}
	}
	for end, row := range endRows {
		if row.x {
			holdNoCode(t, "End of no operation at all", ended(codeOf(), end, 0, 0, 0))
			holdNoCode(t, "End of a first one that makes no word", ended(codeOf(impl.IrOp{}), end, 0, 0, 0))
		}
	}
}

func TestP32KindsPastTheirEnds(t *testing.T) {
	for _, kind := range append([]int{0, 9, 10, -1, -8}, extremes...) {
		for place := range 8 {
			holdNoCode(t, "a Kind", turnedCode(eachKind(), func(b *impl.IrBlock) { b.Ops[place].Kind = kind }))
			holdNoCode(t, "a Kind, with nothing", turnedCode(eachKind(), func(b *impl.IrBlock) { b.Ops[place] = impl.IrOp{Kind: kind} }))
		}
		holdNoCode(t, "an End", ended(eachKind(), kind, 0, 0, 0))
		holdNoCode(t, "an End, with all", ended(eachKind(), kind, 3, 5, 20))
	}
	for _, end := range []int{5, 6, 8} {
		holdNoCode(t, "a Kind as End", ended(eachKind(), end, 0, 0, 0))
	}
}

// What an operation is of is made ahead of it, wherever that is in the code.
func TestP32OfWhatIsMadeAhead(t *testing.T) {
	for kind, row := range kindRows {
		if !row.x {
			continue
		}
		for _, f := range irFields[:2] {
			if !f.has(row) {
				continue
			}
			for place := 1; place <= 4; place++ {
				for _, n := range []int{-1, place, place + 1, 4, 5} {
					if n < place && n >= 0 {
						continue
					}
					ops := slices.Repeat(opsOf(constant(9)), 6)
					ops[place] = least(kind, row)
					holdCode(t, "of the first", codeOf(slices.Clone(ops)...))
					*f.of(&ops[place]) = n
					holdNoCode(t, "of what is not ahead", codeOf(ops...))
				}
			}
			first := least(kind, row)
			holdNoCode(t, "the first, of itself", codeOf(first, constant(9)))
			for other, made := range kindRows {
				ops := opsOf(constant(9), least(other, made), least(kind, row))
				*f.of(&ops[2]) = 1
				if made.word {
					holdCode(t, "of a word", codeOf(ops...))
				} else {
					holdNoCode(t, "of no word", codeOf(ops...))
				}
			}
		}
	}
}

// Any code, with one number turned, is ok just if the document says so.
func TestP32OneNumberTurned(t *testing.T) {
	d := dice(20261117)
	good, bad := 0, 0
	for range 40000 {
		b := d.anyBlock(allKinds...)
		if !impl.IrOk(b) || !wantedCode(b) {
			t.Fatalf("%+v is ok", b)
		}
		numbers := []*int{&b.Pc, &b.Len, &b.End, &b.X, &b.Y, &b.K}
		if len(b.Ops) > 0 {
			o := &b.Ops[d.below(len(b.Ops))]
			numbers = append(numbers, &o.Kind, &o.X, &o.Y, &o.K, &o.At)
		}
		*numbers[d.below(len(numbers))] = d.of(d.below(10)-1, d.below(66)-1, d.anyWord(), 65536, math.MinInt, math.MaxInt)
		if !wantedCode(b) {
			holdNoCode(t, "a number turned", b)
			bad++
			continue
		}
		holdCode(t, "a number turned", b)
		good++
	}
	if good < 3000 || bad < 3000 {
		t.Fatalf("only %d are ok, and %d are not", good, bad)
	}
}

var allKinds = []int{impl.IrConst, impl.IrGet, impl.IrDo, impl.IrLoad, impl.IrStore, impl.IrIn, impl.IrOut, impl.IrSet}

// anyBlock is a piece of code that is ok, of some Kinds; those that need words have them, often addresses about its own place.
func (d *dice) anyBlock(kinds ...int) impl.IrBlock {
	b := impl.IrBlock{Len: 1 + d.below(8)}
	b.Pc = d.of(0, 64-b.Len, d.below(65-b.Len), d.below(65-b.Len))
	var made, addresses []int
	inOrder, last := d.below(3) > 0, 0
	for range d.of(0, 1, 3, 6, 10, 16, 24, 48) {
		o := impl.IrOp{Kind: d.of(kinds...)}
		if kindRows[o.Kind].x && len(made) == 0 {
			o.Kind = impl.IrConst
		}
		row := kindRows[o.Kind]
		if row.x {
			o.X = made[max(0, len(made)-1-d.below(4))]
		}
		if row.at && row.x && len(addresses) > 0 && d.below(4) > 0 {
			o.X = d.of(addresses...)
		}
		if row.y {
			o.Y = d.of(made...)
		}
		o.K = row.least + d.below(row.most-row.least+1)
		if o.Kind == impl.IrConst {
			o.K = d.of(d.below(64), b.Pc+d.below(b.Len+1), b.Pc+d.below(b.Len), d.anyWord())
			if o.K < impl.MchSize {
				addresses = append(addresses, len(b.Ops))
			}
		}
		if row.at {
			o.At = d.below(b.Len)
			if inOrder {
				last = min(b.Len-1, last+d.of(0, 0, 1))
				o.At = last
			}
		}
		if row.word {
			made = append(made, len(b.Ops))
		}
		b.Ops = append(b.Ops, o)
	}
	b.End = 1 + d.below(4)
	if len(made) == 0 {
		b.End = impl.EndGo
	}
	row := endRows[b.End]
	if row.x {
		b.X = d.of(made...)
	}
	if row.y {
		b.Y = d.of(made...)
	}
	if row.most > 0 {
		b.K = d.anyWord()
	}
	return b
}

// anyAt is a machine that goes on, at the place of a piece of code, its registers often addresses.
func (d *dice) anyAt(b impl.IrBlock) impl.MchMach {
	m := d.goingMachine()
	m.Pc = b.Pc
	if d.below(2) == 0 {
		m.Regs = d.anyList(impl.InsRegs, func() int { return d.below(64) })
	}
	if d.below(8) == 0 {
		m.Count = impl.MchMost - b.Len
	}
	return m
}

// leftWhere is how many instructions were done, and whether code was left ahead of its end.
func leftWhere(b impl.IrBlock, m, x impl.MchMach) (int, bool) {
	done := x.Count - m.Count
	return done, x.Halt != impl.HaltNone || done != b.Len
}

func TestP32CodeLeavesAMachine(t *testing.T) {
	d := dice(322332233)
	whole, missed, over := 0, 0, 0
	for range 60000 {
		b := d.anyBlock(allKinds...)
		m := d.anyAt(b)
		x, ok := impl.IrRun(b, m)
		holdRun(t, "any code", b, m, wantedPass(b, m), true)
		if !ok || !impl.MchOk(x) {
			t.Fatalf("%+v leaves %+v as %+v", b, m, x)
		}
		if len(x.Outs) < len(m.Outs) || !slices.Equal(x.Outs[:len(m.Outs)], m.Outs) {
			t.Fatalf("%v went out, and then %v", m.Outs, x.Outs)
		}
		if gone := len(m.Ins) - len(x.Ins); gone < 0 || !slices.Equal(m.Ins[gone:], x.Ins) {
			t.Fatalf("%v was to come in, and then %v", m.Ins, x.Ins)
		}
		if x.Save != m.Save || x.Let != m.Let || x.Waits != m.Waits {
			t.Fatalf("an interrupt is seen: %+v, then %+v", m, x)
		}
		done, left := leftWhere(b, m, x)
		switch {
		case !left:
			whole++
		case done < 0 || done >= b.Len || x.Pc != b.Pc+done:
			t.Fatalf("%+v leaves %+v at no instruction: %+v", b, m, x)
		case x.Halt == impl.HaltReach:
			missed++
		case x.Halt == impl.HaltNone:
			over++
		default:
			t.Fatalf("%+v leaves %+v so: %+v", b, m, x)
		}
	}
	if whole < 5000 || missed < 5000 || over < 5000 {
		t.Fatalf("only %d are gone through whole, %d miss an address, and %d write over what is behind", whole, missed, over)
	}
}

// One operation of each Kind, and more, by hand: what turns beside the place and the count.
func TestP32EachKind(t *testing.T) {
	for what, c := range map[string]struct {
		ops  []impl.IrOp
		turn func(m *impl.MchMach)
	}{
		"none":                        {nil, func(m *impl.MchMach) {}},
		"a word that nobody uses":     {opsOf(constant(99)), func(m *impl.MchMach) {}},
		"a word":                      {opsOf(constant(65535), sets(0, 0)), func(m *impl.MchMach) { m.Regs[0] = 65535 }},
		"nought":                      {opsOf(constant(0), sets(3, 0)), func(m *impl.MchMach) { m.Regs[3] = 0 }},
		"a register":                  {opsOf(gets(2), sets(0, 0)), func(m *impl.MchMach) { m.Regs[0] = 65535 }},
		"each register":               {opsOf(gets(0), gets(1), gets(2), gets(3), letsOut(0, 0), letsOut(1, 0), letsOut(2, 0), letsOut(3, 0)), func(m *impl.MchMach) { m.Outs = []int{13, 7, 300, 65535, 10} }},
		"both turned round":           {opsOf(gets(0), gets(1), sets(0, 1), sets(1, 0)), func(m *impl.MchMach) { m.Regs[0], m.Regs[1] = 300, 7 }},
		"got behind what is set":      {opsOf(gets(0), sets(1, 0), gets(1), sets(2, 2)), func(m *impl.MchMach) { m.Regs[1], m.Regs[2] = 7, 7 }},
		"got ahead of what is set":    {opsOf(gets(1), constant(1), sets(1, 1), sets(2, 0)), func(m *impl.MchMach) { m.Regs[1], m.Regs[2] = 1, 300 }},
		"set twice":                   {opsOf(constant(1), constant(2), sets(1, 0), sets(1, 1)), func(m *impl.MchMach) { m.Regs[1] = 2 }},
		"a sum":                       {opsOf(gets(1), gets(2), reckons(impl.OpAdd, 0, 1), sets(0, 2)), func(m *impl.MchMach) { m.Regs[0] = 299 }},
		"a difference":                {opsOf(gets(0), gets(3), reckons(impl.OpSub, 0, 1), sets(2, 2)), func(m *impl.MchMach) { m.Regs[2] = 65533 }},
		"the other difference":        {opsOf(gets(0), gets(3), reckons(impl.OpSub, 1, 0), sets(2, 2)), func(m *impl.MchMach) { m.Regs[2] = 3 }},
		"a product":                   {opsOf(gets(1), reckons(impl.OpMul, 0, 0), sets(3, 1)), func(m *impl.MchMach) { m.Regs[3] = 24464 }},
		"what both have":              {opsOf(gets(1), gets(0), reckons(impl.OpAnd, 0, 1), sets(0, 2)), func(m *impl.MchMach) { m.Regs[0] = 4 }},
		"what just one has":           {opsOf(gets(0), gets(3), reckons(impl.OpXor, 0, 1), sets(1, 2)), func(m *impl.MchMach) { m.Regs[1] = 13 }},
		"a word that is loaded":       {opsOf(constant(63), loads(0, 2), sets(1, 1)), func(m *impl.MchMach) { m.Regs[1] = noInstruction }},
		"a word that is stored":       {opsOf(gets(3), gets(2), stores(0, 1, 0)), func(m *impl.MchMach) { m.Mem[10] = 65535 }},
		"stored, then loaded":         {opsOf(constant(40), gets(1), stores(0, 1, 0), loads(0, 1), sets(0, 3)), func(m *impl.MchMach) { m.Mem[40], m.Regs[0] = 300, 300 }},
		"loaded, then stored":         {opsOf(constant(40), gets(1), loads(0, 0), stores(0, 1, 1), sets(0, 2)), func(m *impl.MchMach) { m.Mem[40], m.Regs[0] = 300, noInstruction }},
		"stored twice":                {opsOf(constant(40), constant(41), stores(0, 0, 0), stores(0, 1, 1)), func(m *impl.MchMach) { m.Mem[40] = 41 }},
		"stored where it was loaded":  {opsOf(constant(40), constant(50), stores(0, 1, 0), loads(0, 0), stores(3, 0, 1)), func(m *impl.MchMach) { m.Mem[40], m.Mem[50] = 50, 40 }},
		"a word that comes in":        {opsOf(letsIn(0), sets(3, 0)), func(m *impl.MchMach) { m.Regs[3], m.Ins = 11, []int{12} }},
		"one that comes in, unused":   {opsOf(letsIn(2)), func(m *impl.MchMach) { m.Ins = []int{12} }},
		"two that come in":            {opsOf(letsIn(0), letsIn(1), sets(0, 1), sets(1, 0)), func(m *impl.MchMach) { m.Regs[0], m.Regs[1], m.Ins = 12, 11, nil }},
		"one more than comes in":      {opsOf(letsIn(0), letsIn(1), letsIn(2), sets(0, 2)), func(m *impl.MchMach) { m.Regs[0], m.Ins = 0, nil }},
		"a word that goes out":        {opsOf(gets(1), letsOut(0, 1)), func(m *impl.MchMach) { m.Outs = []int{13, 300} }},
		"two that go out":             {opsOf(gets(1), gets(0), letsOut(1, 2), letsOut(0, 0)), func(m *impl.MchMach) { m.Outs = []int{13, 7, 300} }},
		"what comes in goes out":      {opsOf(letsIn(0), letsOut(0, 0), letsIn(1), letsOut(2, 1)), func(m *impl.MchMach) { m.Outs, m.Ins = []int{13, 11, 12}, nil }},
		"of one that was used before": {opsOf(gets(0), reckons(impl.OpAdd, 0, 0), reckons(impl.OpAdd, 1, 0), sets(0, 2), sets(1, 1)), func(m *impl.MchMach) { m.Regs[0], m.Regs[1] = 21, 14 }},
	} {
		m := goesOn(nil, nil)
		want := turned(m, func(m *impl.MchMach) {
			m.Pc, m.Count = 20, 103
			c.turn(m)
		})
		b := codeOf(c.ops...)
		if !impl.IrOk(b) {
			t.Fatalf("%s: it is ok", what)
		}
		holdRun(t, what, b, m, want, true)
	}
}

func TestP32WordsThatComeIn(t *testing.T) {
	b := codeOf(letsIn(0), sets(1, 0), letsOut(0, 1))
	for _, ins := range [][]int{nil, {}, {0}, {65535}, {5}, {5, 6}, {5, 6, 7}} {
		m := turned(goesOn(nil, nil), func(m *impl.MchMach) { m.Ins = ins })
		want := turned(m, func(m *impl.MchMach) {
			m.Pc, m.Count, m.Regs[1], m.Outs = 20, 103, 0, []int{13, 0}
			if len(ins) > 0 {
				m.Regs[1], m.Outs[1], m.Ins = ins[0], ins[0], ins[1:]
			}
		})
		holdRun(t, "a word in", b, m, want, true)
	}
}

// Each End, both ways, at both ends of all places.
func TestP32HowItGoesOn(t *testing.T) {
	for long := 1; long <= 8; long++ {
		for _, pc := range []int{0, 5, 63 - long, 64 - long} {
			for _, pair := range [][2]int{{0, 0}, {0, 1}, {1, 0}, {7, 300}, {300, 7}, {32767, 32768}, {32768, 32767}, {65534, 65535}, {65535, 65534}, {65535, 65535}, {0, 65535}, {65535, 0}} {
				b := impl.IrBlock{Pc: pc, Len: long, Ops: opsOf(constant(1), gets(0), letsOut(1, 0), gets(1))}
				m := standing(b)
				m.Regs[0], m.Regs[1] = pair[0], pair[1]
				goesTo := func(what string, b impl.IrBlock, place int) {
					t.Helper()
					holdRun(t, what, b, m, turned(m, func(m *impl.MchMach) { m.Pc, m.Count, m.Outs = place, 100+long, []int{13, pair[0]} }), true)
				}
				goesTo("EndWord", ended(b, impl.EndWord, 1, 0, 0), pair[0])
				goesTo("EndWord", ended(b, impl.EndWord, 3, 0, 0), pair[1])
				for _, k := range []int{0, 1, pc, pc + long, 63, 64, 256, 65535} {
					goesTo("EndGo", ended(b, impl.EndGo, 0, 0, k), k)
					same, less := pc+long, pc+long
					if pair[0] == pair[1] {
						same = k
					}
					if pair[0] < pair[1] {
						less = k
					}
					goesTo("EndSame", ended(b, impl.EndSame, 1, 3, k), same)
					goesTo("EndSame", ended(b, impl.EndSame, 3, 1, k), same)
					goesTo("EndLess", ended(b, impl.EndLess, 1, 3, k), less)
					goesTo("EndSame of one", ended(b, impl.EndSame, 1, 1, k), k)
					goesTo("EndLess of one", ended(b, impl.EndLess, 1, 1, k), pc+long)
				}
			}
		}
	}
}

// End is of the words that were made, not of what registers are behind the code.
func TestP32EndIsOfWhatWasMade(t *testing.T) {
	b := codeOf(gets(0), constant(40), sets(0, 1), gets(0))
	m := goesOn(nil, nil)
	for _, c := range []struct{ end, x, y, place int }{
		{impl.EndWord, 0, 0, 7}, {impl.EndWord, 1, 0, 40}, {impl.EndWord, 3, 0, 40},
		{impl.EndSame, 0, 3, 8}, {impl.EndSame, 1, 3, 20}, {impl.EndLess, 0, 3, 20}, {impl.EndLess, 3, 0, 8},
	} {
		k := 20
		if c.end == impl.EndWord {
			k = 0
		}
		holdRun(t, "End", ended(b, c.end, c.x, c.y, k), m, turned(m, func(m *impl.MchMach) { m.Pc, m.Count, m.Regs[0] = c.place, 103, 40 }), true)
	}
}

func TestP32OfNoMachine(t *testing.T) {
	b := eachKind()
	base := goesOn(nil, nil)
	for what, turn := range map[string]func(m *impl.MchMach){
		"nothing":             func(m *impl.MchMach) { *m = impl.MchMach{} },
		"a register too few":  func(m *impl.MchMach) { m.Regs = m.Regs[:3] },
		"a register too many": func(m *impl.MchMach) { m.Regs = append(m.Regs, 0) },
		"a word too few":      func(m *impl.MchMach) { m.Mem = m.Mem[:63] },
		"a word too many":     func(m *impl.MchMach) { m.Mem = append(m.Mem, 0) },
		"halt below":          func(m *impl.MchMach) { m.Halt = -1 },
		"halt past":           func(m *impl.MchMach) { m.Halt = impl.HaltPlace + 1 },
		"count below":         func(m *impl.MchMach) { m.Count = -1 },
		"count past":          func(m *impl.MchMach) { m.Count = impl.MchMost + 1 },
		"least count":         func(m *impl.MchMach) { m.Count = math.MinInt },
	} {
		holdRun(t, what, b, turned(base, turn), impl.MchMach{}, false)
	}
	for _, n := range noWords {
		for what, turn := range map[string]func(m *impl.MchMach){
			"a register":         func(m *impl.MchMach) { m.Regs[3] = n },
			"a word":             func(m *impl.MchMach) { m.Mem[63] = n },
			"a place":            func(m *impl.MchMach) { m.Pc = n },
			"a saved place":      func(m *impl.MchMach) { m.Save = n },
			"one to come in":     func(m *impl.MchMach) { m.Ins[1] = n },
			"one that went out":  func(m *impl.MchMach) { m.Outs[0] = n },
			"one that is halted": func(m *impl.MchMach) { m.Halt, m.Regs[0] = impl.HaltStop, n },
		} {
			holdRun(t, what, b, turned(base, turn), impl.MchMach{}, false)
			holdRun(t, what+", without operations", codeOf(), turned(base, turn), impl.MchMach{}, false)
		}
	}
}

// A machine that does not stand at the code, or stands still, is answered as it is.
func TestP32WhoDoesNotGoThrough(t *testing.T) {
	b := eachKind()
	base := turned(goesOn(nil, nil), func(m *impl.MchMach) { m.Let, m.Waits = true, true })
	for halt := impl.HaltStop; halt <= impl.HaltPlace; halt++ {
		m := turned(base, func(m *impl.MchMach) { m.Halt = halt })
		holdRun(t, "halted", b, m, m, false)
		holdRun(t, "halted, without operations", codeOf(), m, m, false)
	}
	for _, pc := range []int{0, 4, 6, 7, 8, 9, 20, 63, 64, 65, 48, 5 + 256, 65535} {
		m := turned(base, func(m *impl.MchMach) { m.Pc = pc })
		holdRun(t, "at another place", b, m, m, false)
		holdRun(t, "at another place, without operations", codeOf(), m, m, false)
	}
	for pc := 0; pc <= impl.MchSize; pc++ {
		at := impl.IrBlock{Pc: min(pc, impl.MchSize-1), Len: 1, End: impl.EndGo, K: 9}
		m := turned(base, func(m *impl.MchMach) { m.Pc = pc })
		if pc == impl.MchSize {
			holdRun(t, "past all words", at, m, m, false)
		} else {
			holdRun(t, "at each place", at, m, turned(m, func(m *impl.MchMach) { m.Pc, m.Count = 9, 101 }), true)
		}
	}
}

func TestP32TheCountAtItsEnd(t *testing.T) {
	for long := 1; long <= impl.IrMaxLen; long++ {
		b := impl.IrBlock{Pc: 5, Len: long, Ops: opsOf(constant(1), sets(0, 0)), End: impl.EndGo, K: 20}
		// Even where the code would be left ahead of its end there must be room for all of it.
		away := turnedCode(b, func(b *impl.IrBlock) { b.Ops = append(b.Ops, constant(64), loads(2, 0)) })
		for _, less := range []int{0, 1, long - 1, long, long + 1, 100} {
			m := turned(goesOn(nil, nil), func(m *impl.MchMach) { m.Count = impl.MchMost - less })
			if less < long {
				holdRun(t, "no room", b, m, m, false)
				holdRun(t, "no room", away, m, m, false)
				continue
			}
			holdRun(t, "room", b, m, turned(m, func(m *impl.MchMach) { m.Regs[0], m.Pc, m.Count = 1, 20, m.Count+long }), true)
			holdRun(t, "room", away, m, turned(m, func(m *impl.MchMach) { m.Regs[0], m.Halt = 1, impl.HaltReach }), true)
		}
	}
}

// Whatever waits, or is let in, is there behind the code, too.
func TestP32NothingIsSampled(t *testing.T) {
	ends := map[string]impl.IrBlock{
		"whole": codeOf(constant(1), sets(0, 0)),
		"left":  codeOf(constant(1), sets(0, 0), constant(7), stores(2, 0, 0)),
		"away":  codeOf(constant(1), sets(0, 0), constant(64), stores(2, 0, 1)),
	}
	places := map[string][3]int{"whole": {20, 103, impl.HaltNone}, "left": {6, 101, impl.HaltNone}, "away": {6, 101, impl.HaltReach}}
	for what, b := range ends {
		for _, let := range []bool{false, true} {
			for _, waits := range []bool{false, true} {
				for _, save := range []int{0, 20, 65535} {
					m := turned(goesOn(nil, nil), func(m *impl.MchMach) { m.Let, m.Waits, m.Save = let, waits, save })
					holdRun(t, what, b, m, turned(m, func(m *impl.MchMach) {
						m.Regs[0], m.Pc, m.Count, m.Halt = 1, places[what][0], places[what][1], places[what][2]
						if what == "left" {
							m.Mem[7] = 1
						}
					}), true)
				}
			}
		}
	}
}

// reaching is code that turns a register, lets a word out and one in, and stores at 40, all ahead of its reach to the address in register b for an instruction, and turns more behind it.
func reaching(pc, long, at int, store bool) impl.IrBlock {
	ops := opsOf(constant(77), sets(0, 0), letsOut(0, 0), letsIn(0), constant(40), stores(4, 3, long-1), gets(1))
	if store {
		ops = append(ops, gets(2), stores(6, 7, at), letsOut(7, at), sets(3, 7))
	} else {
		ops = append(ops, loads(6, at), constant(0), letsOut(7, at), sets(3, 7))
	}
	return impl.IrBlock{Pc: pc, Len: long, Ops: ops, End: impl.EndGo, K: 20}
}

// aheadOfReach turns what reaching has turned ahead of its reach.
func aheadOfReach(m *impl.MchMach) {
	m.Regs[0], m.Outs, m.Ins, m.Mem[40] = 77, []int{13, 77}, []int{12}, 11
}

// reachPlaces goes through places, lengths and instructions, none of which has the address 40 in its code.
func reachPlaces(each func(pc, long, at int)) {
	for _, long := range []int{1, 2, 3, 8} {
		for _, pc := range []int{0, 1, 5, 20, 63 - long, 64 - long} {
			for at := range long {
				each(pc, long, at)
			}
		}
	}
}

var noAddresses = []int{64, 65, 127, 128, 255, 256, 32768, 65472, 65534, 65535}

func TestP65Loads(t *testing.T) {
	reachPlaces(func(pc, long, at int) {
		b := reaching(pc, long, at, false)
		m := standing(b)
		for a := range m.Mem {
			m.Mem[a] = 1000 + a
		}
		for address := range impl.MchSize {
			m.Regs[1] = address
			holdRun(t, "a load", b, m, turned(m, func(m *impl.MchMach) {
				aheadOfReach(m)
				m.Regs[3] = m.Mem[address]
				m.Outs = append(m.Outs, m.Regs[3])
				m.Pc, m.Count = 20, 100+long
			}), true)
		}
		for _, address := range noAddresses {
			m.Regs[1] = address
			holdRun(t, "a load past all words", b, m, turned(m, func(m *impl.MchMach) {
				aheadOfReach(m)
				m.Halt, m.Pc, m.Count = impl.HaltReach, pc+at, 100+at
			}), true)
		}
	})
}

func TestP65Stores(t *testing.T) {
	reachPlaces(func(pc, long, at int) {
		b := reaching(pc, long, at, true)
		m := standing(b)
		for address := range impl.MchSize {
			m.Regs[1] = address
			holdRun(t, "a store", b, m, turned(m, func(m *impl.MchMach) {
				aheadOfReach(m)
				m.Mem[address] = 65535
				if pc+at < address && address < pc+long {
					m.Pc, m.Count = pc+at+1, 100+at+1
					return
				}
				m.Regs[3], m.Outs = 65535, append(m.Outs, 65535)
				m.Pc, m.Count = 20, 100+long
			}), true)
		}
		for _, address := range noAddresses {
			m.Regs[1] = address
			holdRun(t, "a store past all words", b, m, turned(m, func(m *impl.MchMach) {
				aheadOfReach(m)
				m.Halt, m.Pc, m.Count = impl.HaltReach, pc+at, 100+at
			}), true)
		}
	})
}

// Stores about the code itself, by hand: the code stands for the places 5 to 8.
func TestP65OverItsOwnCode(t *testing.T) {
	whole := -1
	for _, c := range []struct{ address, at, left int }{
		{4, 0, whole}, {4, 2, whole}, {5, 0, whole}, {6, 0, 0}, {7, 0, 0}, {8, 0, 0}, {9, 0, whole},
		{5, 1, whole}, {6, 1, whole}, {7, 1, 1}, {8, 1, 1}, {9, 1, whole},
		{6, 2, whole}, {7, 2, whole}, {8, 2, 2}, {9, 2, whole},
		{7, 3, whole}, {8, 3, whole}, {9, 3, whole}, {0, 0, whole}, {63, 0, whole},
	} {
		b := impl.IrBlock{Pc: 5, Len: 4, Ops: opsOf(constant(c.address), constant(9999), stores(0, 1, c.at), sets(2, 1)), End: impl.EndGo, K: 60}
		// The last one is as if nothing was turned: it is left all the same.
		for _, was := range []int{noInstruction, 0, 9999} {
			m := turned(goesOn(nil, nil), func(m *impl.MchMach) { m.Mem[c.address] = was })
			holdRun(t, "a store about the code", b, m, turned(m, func(m *impl.MchMach) {
				m.Mem[c.address] = 9999
				if c.left == whole {
					m.Pc, m.Count, m.Regs[2] = 60, 104, 9999
				} else {
					m.Pc, m.Count = 5+c.left+1, 101+c.left
				}
			}), true)
		}
	}
}

// The first store that writes over what is behind is the one at which it is left, in the order of the operations, not of the instructions.
func TestP65TheFirstOfSeveral(t *testing.T) {
	for _, c := range []struct {
		what        string
		ops         []impl.IrOp
		place, done int
		halt        int
		turn        func(m *impl.MchMach)
	}{
		{"two that write over", opsOf(constant(7), stores(0, 0, 0), stores(0, 0, 1)), 6, 1, 0, func(m *impl.MchMach) { m.Mem[7] = 7 }},
		{"the later instruction first", opsOf(constant(7), stores(0, 0, 1), stores(0, 0, 0)), 7, 2, 0, func(m *impl.MchMach) { m.Mem[7] = 7 }},
		{"one that does not, then one that does", opsOf(constant(6), constant(7), stores(0, 0, 1), stores(1, 1, 1), letsOut(0, 2)), 7, 2, 0, func(m *impl.MchMach) { m.Mem[6], m.Mem[7] = 6, 7 }},
		{"over, ahead of a missed one", opsOf(constant(7), constant(64), stores(0, 0, 0), loads(1, 1)), 6, 1, 0, func(m *impl.MchMach) { m.Mem[7] = 7 }},
		{"missed, ahead of over", opsOf(constant(7), constant(64), loads(1, 1), stores(0, 0, 0)), 6, 1, 3, func(m *impl.MchMach) {}},
		{"missed at the last", opsOf(constant(64), loads(0, 2)), 7, 2, 3, func(m *impl.MchMach) {}},
		{"missed at the first", opsOf(constant(64), letsOut(0, 2), stores(0, 0, 0), letsOut(0, 2)), 5, 0, 3, func(m *impl.MchMach) { m.Outs = []int{13, 64} }},
		{"missed by what was loaded", opsOf(constant(30), constant(500), stores(0, 1, 0), loads(0, 1), loads(3, 1)), 6, 1, 3, func(m *impl.MchMach) { m.Mem[30] = 500 }},
		{"over by what came in", opsOf(letsIn(0), constant(4), reckons(impl.OpSub, 0, 1), stores(2, 2, 0), letsIn(1)), 6, 1, 0, func(m *impl.MchMach) { m.Mem[7], m.Ins = 7, []int{12} }},
	} {
		m := goesOn(nil, nil)
		holdRun(t, c.what, codeOf(c.ops...), m, turned(m, func(m *impl.MchMach) {
			c.turn(m)
			m.Pc, m.Count, m.Halt = c.place, 100+c.done, c.halt
		}), true)
	}
}

// wordOf is the word that stands at a place of code, by going through all ahead of an operation and on at it.
func wordOf(t *testing.T, b impl.IrBlock, ahead, place int, m impl.MchMach) int {
	t.Helper()
	b.Ops = b.Ops[:ahead]
	x, ok := impl.IrRun(ended(b, impl.EndWord, place, 0, 0), m)
	if !ok || x.Halt != impl.HaltNone || x.Count != m.Count+b.Len {
		t.Fatalf("%+v is left by %+v ahead of operation %d", b, m, ahead)
	}
	return x.Pc
}

// firstLeft is the place of the operation at which code is left; as many as there are, if it is not.
func firstLeft(b impl.IrBlock, m impl.MchMach) int {
	for many := 1; many <= len(b.Ops); many++ {
		first := ended(b, impl.EndGo, 0, 0, 0)
		first.Ops = b.Ops[:many]
		x, _ := impl.IrRun(first, m)
		if _, left := leftWhere(b, m, x); left {
			return many - 1
		}
	}
	return len(b.Ops)
}

func TestP65WhoWritesOverItsOwnCodeLeavesIt(t *testing.T) {
	d := dice(656565656)
	over, whole := 0, 0
	for range 15000 {
		b := d.anyBlock(impl.IrConst, impl.IrConst, impl.IrGet, impl.IrDo, impl.IrLoad, impl.IrStore, impl.IrStore, impl.IrIn, impl.IrOut, impl.IrSet)
		m := d.anyAt(b)
		x, _ := impl.IrRun(b, m)
		done, left := leftWhere(b, m, x)
		last := firstLeft(b, m)
		if left != (last < len(b.Ops)) {
			t.Fatalf("%+v is left by %+v: %v, but at operation %d", b, m, left, last)
		}
		for place, o := range b.Ops[:last] {
			if o.Kind != impl.IrStore && o.Kind != impl.IrLoad {
				continue
			}
			address := wordOf(t, b, place, o.X, m)
			if address >= impl.MchSize || o.Kind == impl.IrStore && b.Pc+o.At < address && address < b.Pc+b.Len {
				t.Fatalf("%+v is not left by %+v at operation %d, of address %d", b, m, place, address)
			}
		}
		if !left {
			whole++
			continue
		}
		o := b.Ops[last]
		address := wordOf(t, b, last, o.X, m)
		if x.Halt == impl.HaltReach {
			if address < impl.MchSize || done != o.At || x.Pc != b.Pc+o.At {
				t.Fatalf("%+v is left by %+v as %+v, of address %d", b, m, x, address)
			}
			continue
		}
		over++
		if o.Kind != impl.IrStore || done != o.At+1 || x.Pc != b.Pc+o.At+1 || address < x.Pc || address >= b.Pc+b.Len || x.Mem[address] != wordOf(t, b, last, o.Y, m) {
			t.Fatalf("%+v is left by %+v as %+v, of address %d", b, m, x, address)
		}
	}
	if over < 2000 || whole < 2000 {
		t.Fatalf("only %d write over what is behind, and %d are gone through whole", over, whole)
	}
}

func TestP33CodeThatReachesNowhere(t *testing.T) {
	d := dice(333333331)
	for range 30000 {
		b := d.anyBlock(impl.IrConst, impl.IrGet, impl.IrDo, impl.IrSet)
		m := d.anyAt(b)
		if impl.IrEvents(b) != 0 {
			t.Fatalf("%+v reaches nowhere", b)
		}
		x, ok := impl.IrRun(b, m)
		if want := wantedPass(b, m); !ok || !slices.Equal(x.Regs, want.Regs) || x.Pc != want.Pc {
			t.Fatalf("%+v leaves %+v as %+v, not %+v", b, m, x, want)
		}
		m.Regs, m.Pc, m.Count = x.Regs, x.Pc, m.Count+b.Len
		holdMachine(t, "nothing but registers and the place", x, m)
	}
}

// What reaches out turns what it reaches, and IrEvents tells it: so none of these is code that reaches nowhere.
func TestP33WhatReachesOut(t *testing.T) {
	m := goesOn(nil, nil)
	for what, o := range map[string]impl.IrOp{"a store": stores(0, 1, 0), "a word in": letsIn(0), "a word out": letsOut(0, 0)} {
		b := codeOf(constant(30), constant(31), o)
		x, ok := impl.IrRun(b, m)
		if !ok || impl.IrEvents(b) != 1 || slices.Equal(x.Mem, m.Mem) && slices.Equal(x.Ins, m.Ins) && slices.Equal(x.Outs, m.Outs) {
			t.Fatalf("%s turns nothing: %+v", what, x)
		}
	}
}

// setsOf are the registers that the first operations of code set.
func setsOf(ops []impl.IrOp) map[int]bool {
	out := map[int]bool{}
	for _, o := range ops {
		if o.Kind == impl.IrSet {
			out[o.K] = true
		}
	}
	return out
}

func TestP66CodeThatLooksNowhere(t *testing.T) {
	d := dice(666666661)
	whole, left := 0, 0
	for range 20000 {
		b := d.anyBlock(impl.IrConst, impl.IrConst, impl.IrDo, impl.IrStore, impl.IrOut, impl.IrSet, impl.IrSet)
		one, other := d.anyAt(b), d.anyAt(b)
		x, okX := impl.IrRun(b, one)
		y, okY := impl.IrRun(b, other)
		if !okX || !okY || x.Pc != y.Pc || x.Halt != y.Halt || x.Count-one.Count != y.Count-other.Count {
			t.Fatalf("%+v leads to\n%+v and\n%+v", b, x, y)
		}
		at := firstLeft(b, one)
		if at != firstLeft(b, other) {
			t.Fatalf("%+v is left by one machine at operation %d, and by another one at %d", b, at, firstLeft(b, other))
		}
		if at < len(b.Ops) {
			left++
		} else {
			whole++
		}
		set := setsOf(b.Ops[:at])
		for r := range impl.InsRegs {
			if set[r] && x.Regs[r] != y.Regs[r] || !set[r] && (x.Regs[r] != one.Regs[r] || y.Regs[r] != other.Regs[r]) {
				t.Fatalf("%+v sets register %d to %d, and to %d", b, r, x.Regs[r], y.Regs[r])
			}
		}
		if !slices.Equal(x.Outs[len(one.Outs):], y.Outs[len(other.Outs):]) {
			t.Fatalf("%+v lets out %v, and %v", b, x.Outs, y.Outs)
		}
	}
	if whole < 2000 || left < 2000 {
		t.Fatalf("only %d are gone through whole, and %d are left", whole, left)
	}
}

// By hand: each register is set to what is reckoned of words, and the place is one of them, whatever the machine is.
func TestP66ByHand(t *testing.T) {
	b := impl.IrBlock{Pc: 5, Len: 4, Ops: opsOf(constant(300), constant(7), reckons(impl.OpMul, 0, 1), sets(0, 2), reckons(impl.OpSub, 1, 0), sets(1, 4), reckons(impl.OpXor, 2, 4), sets(2, 6), reckons(impl.OpAnd, 2, 6), sets(3, 8))}
	d := dice(99991)
	for range 200 {
		m := d.anyAt(b)
		for _, c := range []struct{ end, x, y, k, place int }{
			{impl.EndGo, 0, 0, 64, 64}, {impl.EndWord, 2, 0, 0, 2100}, {impl.EndSame, 0, 1, 50, 9}, {impl.EndSame, 0, 0, 50, 50}, {impl.EndLess, 1, 0, 50, 50}, {impl.EndLess, 0, 1, 50, 9},
		} {
			holdRun(t, "words alone", ended(b, c.end, c.x, c.y, c.k), m, turned(m, func(m *impl.MchMach) {
				m.Regs = []int{2100, 65243, 63215, 36}
				m.Pc, m.Count = c.place, m.Count+4
			}), true)
		}
	}
}

func TestP33WhatIsAnEvent(t *testing.T) {
	for _, c := range []struct {
		b    impl.IrBlock
		many int
	}{
		{impl.IrBlock{}, 0},
		{impl.IrBlock{Ops: []impl.IrOp{}}, 0},
		{codeOf(), 0},
		{eachKind(), 4},
		{codeOf(constant(4), gets(0), reckons(impl.OpMul, 0, 1), sets(0, 2)), 0},
		{codeOf(constant(4), loads(0, 0), loads(0, 0), stores(0, 0, 0)), 3},
		{codeOf(letsIn(0), letsOut(0, 0), letsIn(2)), 3},
		{codeOf(slices.Repeat(opsOf(letsIn(0)), 48)...), 48},
		{codeOf(slices.Repeat(opsOf(letsIn(0)), 49)...), 49},
		{codeOf(slices.Repeat(opsOf(letsIn(0), constant(0)), 5000)...), 5000},
		{impl.IrBlock{Pc: -1, Len: -1, End: -1, Ops: opsOf(loads(-1, -1), stores(9, 9, 9), letsIn(70), letsOut(math.MaxInt, math.MinInt), sets(-1, -1))}, 4},
		{impl.IrBlock{X: 4, Y: 5, K: 6, End: 7, Len: 4, Pc: 5, Ops: opsOf(impl.IrOp{X: 4, Y: 5, K: 6, At: 7})}, 0},
	} {
		if got := impl.IrEvents(c.b); got != c.many {
			t.Errorf("%+v has %d events, not %d", c.b, got, c.many)
		}
	}
	for _, kind := range fieldNumbers() {
		many := 0
		if 4 <= kind && kind <= 7 {
			many = 1
		}
		o := impl.IrOp{Kind: kind}
		for _, ops := range [][]impl.IrOp{{o}, {{}, o}, {o, {}}, {constant(1), o, sets(0, 0)}} {
			if got := impl.IrEvents(codeOf(ops...)); got != many {
				t.Errorf("Kind %d in %v: %d events, not %d", kind, ops, got, many)
			}
		}
		if got := impl.IrEvents(codeOf(o, o, o)); got != 3*many {
			t.Errorf("Kind %d thrice: %d events", kind, got)
		}
	}
}

// lentCode is a piece of code whose operations have spare room, which a careless hand would write into.
func lentCode(b impl.IrBlock) impl.IrBlock {
	b.Ops = append(slices.Clone(b.Ops), constant(7001), letsIn(7002), impl.IrOp{})[:len(b.Ops)]
	return b
}

func TestP32NothingIsWrittenIntoOrShared(t *testing.T) {
	d := dice(606060601)
	for round := range 6000 {
		b := lentCode(d.anyBlock(allKinds...))
		plain := d.anyAt(b)
		switch round % 8 {
		case 0:
			plain.Halt = d.below(5)
		case 1:
			plain.Pc = d.anyWord()
		case 2:
			plain.Count = impl.MchMost - d.below(10)
		}
		goes := plain.Halt == impl.HaltNone && plain.Pc == b.Pc && plain.Count <= impl.MchMost-b.Len
		want := plain
		if goes {
			want = wantedPass(b, plain)
		}
		m := lent(plain)
		given := listsOf(m)
		before, ops := held(given), slices.Clone(b.Ops[:cap(b.Ops)])
		impl.IrOk(b)
		impl.IrEvents(b)
		one, okOne := impl.IrRun(b, m)
		two, okTwo := impl.IrRun(b, m)
		for at := range given {
			if !slices.Equal(given[at], before[at]) {
				t.Fatalf("list %d was %v, and now %v", at, before[at], given[at])
			}
		}
		if !slices.Equal(b.Ops[:cap(b.Ops)], ops) {
			t.Fatalf("operations were %v, and now %v", ops, b.Ops)
		}
		if okOne != goes || okTwo != goes {
			t.Fatalf("%+v of %+v: %v, %v, not %v", b, plain, okOne, okTwo, goes)
		}
		holdMachine(t, "an answer", one, want)
		holdApart(t, one, append(slices.Clone(given), listsOf(two)...))
		holdMachine(t, "an answer behind another one that is written into", two, want)
		holdApart(t, two, given)
		holdRun(t, "nothing is kept", b, m, want, goes)
	}
}

// A machine whose lists lie over each other is answered as one whose lists do not.
func TestP32ListsOverEachOther(t *testing.T) {
	d := dice(616161617)
	for range 4000 {
		b := d.anyBlock(allKinds...)
		m := d.anyAt(b)
		m.Regs, m.Ins, m.Outs = m.Mem[10:14], m.Mem[12:15], m.Mem[20:22]
		before := slices.Clone(m.Mem)
		x, ok := impl.IrRun(b, m)
		if !ok || !slices.Equal(m.Mem, before) {
			t.Fatalf("what was given is written into: %v, then %v", before, m.Mem)
		}
		holdMachine(t, "lists over each other", x, wantedPass(b, m))
		holdApart(t, x, [][]int{m.Mem})
	}
}
