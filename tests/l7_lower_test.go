package tests

import (
	"math"
	"runtime"
	"slices"
	"testing"

	"loop.example/latimer/impl"
)

// The signatures that the document gives; another one would not compile here.
var (
	_ func(impl.MchMach) []impl.InsIns      = impl.BlkFind
	_ func(int, []impl.InsIns) bool         = impl.BlkOk
	_ func(int, []impl.InsIns) impl.IrBlock = impl.BlkLower
	_ func([]impl.InsIns) []int             = impl.BlkWords
	_ func([]int) []impl.InsIns             = impl.BlkTake
)

// insOf are the instructions that lines say.
func insOf(lines ...string) []impl.InsIns {
	out := make([]impl.InsIns, len(lines))
	for at, line := range lines {
		i, ok := impl.InsRead(line)
		if !ok {
			panic("no instruction: " + line)
		}
		out[at] = i
	}
	return out
}

// oneOfEach is, by Op, a line of an instruction that may stand in a piece of code.
var oneOfEach = map[int]string{
	1: "set b 200", 2: "move c d", 3: "add a b c", 4: "sub d c b", 5: "mul b b a", 6: "and c a d", 7: "xor a a a", 8: "shift d b 9",
	9: "load b c 70", 10: "store a d 3", 11: "same b d 255", 12: "less d a 0", 13: "go c", 14: "out d", 15: "in b",
}

// endsCode says whether an Op is one of the three that end a piece of code.
func endsCode(op int) bool { return op == 11 || op == 12 || op == 13 }

// wantedPiece is what the document asks of BlkOk.
func wantedPiece(pc int, list []impl.InsIns) bool {
	if len(list) == 0 || len(list) > 8 {
		return false
	}
	for at, i := range list {
		place := float64(pc) + float64(at)
		if !wantedOk(i) || i.Op == 0 || endsCode(i.Op) && at+1 < len(list) || place < 0 || place > 63 {
			return false
		}
	}
	return true
}

// wantedOps is what the document's words ask for an instruction whose first operation stands at a place: its operations.
func wantedOps(i impl.InsIns, from, at int) []impl.IrOp {
	switch i.Op {
	case 1:
		return opsOf(constant(i.K), sets(i.D, from))
	case 2:
		return opsOf(gets(i.A), sets(i.D, from))
	case 3, 4, 5, 6, 7:
		op := map[int]int{3: 1, 4: 2, 5: 3, 6: 4, 7: 5}[i.Op]
		return opsOf(gets(i.A), gets(i.K), reckons(op, from, from+1), sets(i.D, from+2))
	case 8:
		twos := []int{1, 2, 4, 8, 16, 32, 64, 128, 256, 512, 1024, 2048, 4096, 8192, 16384, 32768}
		return opsOf(gets(i.A), constant(twos[i.K]), reckons(3, from, from+1), sets(i.D, from+2))
	case 9:
		return opsOf(gets(i.A), constant(i.K), reckons(1, from, from+1), loads(from+2, at), sets(i.D, from+3))
	case 10:
		return opsOf(gets(i.A), constant(i.K), reckons(1, from, from+1), gets(i.D), stores(from+2, from+3, at))
	case 11, 12:
		return opsOf(gets(i.D), gets(i.A))
	case 13:
		return opsOf(gets(i.A))
	case 14:
		return opsOf(gets(i.D), letsOut(from, at))
	}
	return opsOf(letsIn(at), sets(i.D, from))
}

// wantedLower is what the document asks of BlkLower.
func wantedLower(pc int, list []impl.InsIns) impl.IrBlock {
	if !wantedPiece(pc, list) {
		return impl.IrBlock{}
	}
	b := impl.IrBlock{Pc: pc, Len: len(list), End: 1, K: pc + len(list)}
	for at, i := range list {
		from := len(b.Ops)
		b.Ops = append(b.Ops, wantedOps(i, from, at)...)
		switch i.Op {
		case 11:
			b = ended(b, 3, from, from+1, i.K)
		case 12:
			b = ended(b, 4, from, from+1, i.K)
		case 13:
			b = ended(b, 2, from, 0, 0)
		}
	}
	return b
}

// wantedFind is what the document asks of BlkFind of a machine that is ok.
func wantedFind(m impl.MchMach) []impl.InsIns {
	var out []impl.InsIns
	for place := m.Pc; place < 64 && len(out) < 8; place++ {
		w := m.Mem[place]
		i := impl.InsIns{Op: w / 4096, D: w / 1024 % 4, A: w / 256 % 4, K: w % 256}
		if !wantedOk(i) || i.Op == 0 {
			break
		}
		out = append(out, i)
		if endsCode(i.Op) {
			break
		}
	}
	return out
}

// sameBlock holds two pieces of code against each other; the empty list and the nil list are the same.
func sameBlock(a, b impl.IrBlock) bool {
	return a.Pc == b.Pc && a.Len == b.Len && slices.Equal(a.Ops, b.Ops) && a.End == b.End && a.X == b.X && a.Y == b.Y && a.K == b.K
}

// holdLower fails unless instructions at a place are a piece of code whose operations are the wanted ones.
func holdLower(t *testing.T, what string, pc int, list []impl.InsIns, want impl.IrBlock) {
	t.Helper()
	if !impl.BlkOk(pc, list) {
		t.Fatalf("%s: %v at %d is a piece of code, but BlkOk is false", what, list, pc)
	}
	got := impl.BlkLower(pc, list)
	if !sameBlock(got, want) {
		t.Fatalf("%s: %v at %d:\n got %+v\nwant %+v", what, list, pc, got, want)
	}
	if !impl.IrOk(got) {
		t.Fatalf("%s: %v at %d is not ok as %+v", what, list, pc, got)
	}
}

// holdNoPiece fails unless instructions at a place are answered as no piece of code.
func holdNoPiece(t *testing.T, what string, pc int, list []impl.InsIns) {
	t.Helper()
	if wantedPiece(pc, list) {
		t.Fatalf("%s: %v at %d is a piece of code", what, list, pc)
	}
	if impl.BlkOk(pc, list) {
		t.Fatalf("%s: %v at %d is no piece of code, but BlkOk is true", what, list, pc)
	}
	if got := impl.BlkLower(pc, list); !sameBlock(got, impl.IrBlock{}) {
		t.Fatalf("%s: %v at %d is no piece of code, but BlkLower is %+v", what, list, pc, got)
	}
}

// holdFound fails unless BlkFind of a machine is these instructions.
func holdFound(t *testing.T, what string, m impl.MchMach, want []impl.InsIns) {
	t.Helper()
	if got := impl.BlkFind(m); !slices.Equal(got, want) {
		t.Fatalf("%s: at %d of %v:\n got %v\nwant %v", what, m.Pc, m.Mem, got, want)
	}
}

// eightPlain are eight instructions none of which ends a piece of code.
func eightPlain() []impl.InsIns {
	return insOf("set a 1", "move b a", "load c b 2", "store c a 9", "out b", "in d", "shift d d 1", "xor a d c")
}

// put is a list with another thing at a place, the list itself being left as it is.
func put[T any](list []T, place int, thing T) []T {
	out := slices.Clone(list)
	out[place] = thing
	return out
}

// badInstructions are some that are not ok, one thing wrong in each.
func badInstructions() map[string]impl.InsIns {
	return map[string]impl.InsIns{
		"Op below":              {Op: -1},
		"Op past":               {Op: 16},
		"least Op":              {Op: math.MinInt},
		"most Op":               {Op: math.MaxInt},
		"no such register":      {Op: impl.InsSet, D: 4},
		"register below":        {Op: impl.InsMove, D: 1, A: -1},
		"number past":           {Op: impl.InsSet, K: 256},
		"number below":          {Op: impl.InsLoad, K: -1},
		"K no register":         {Op: impl.InsAdd, K: 4},
		"shift past":            {Op: impl.InsShift, K: 16},
		"shift below":           {Op: impl.InsShift, K: -1},
		"what set has not":      {Op: impl.InsSet, A: 1},
		"what move has not":     {Op: impl.InsMove, K: 1},
		"what out has not":      {Op: impl.InsOut, K: 1},
		"what in has not":       {Op: impl.InsIn, A: 1},
		"what go has not":       {Op: impl.InsGo, D: 1},
		"asks past its numbers": {Op: impl.InsSame, K: 256},
		"stores, least number":  {Op: impl.InsStore, K: math.MinInt},
		"stops, past its kinds": {Op: impl.InsStop, K: 4},
		"stops, with a D":       {Op: impl.InsStop, D: 1},
	}
}

func TestP67WhatIsAPiece(t *testing.T) {
	for op, line := range oneOfEach {
		for long := 1; long <= 8; long++ {
			list := append(eightPlain()[:long-1], insOf(line)...)
			for _, pc := range []int{0, 1, 31, 63 - long, 64 - long} {
				if list[long-1].Op != op {
					t.Fatalf("%s is not of Op %d", line, op)
				}
				holdLower(t, line, pc, list, wantedLower(pc, list))
			}
		}
	}
	for pc := range 64 {
		holdLower(t, "one alone", pc, insOf("go d"), wantedLower(pc, insOf("go d")))
	}
}

func TestP67NoneAndTooMany(t *testing.T) {
	for _, pc := range []int{0, 5, 63, 64, -1, math.MaxInt, math.MinInt} {
		holdNoPiece(t, "none at all", pc, nil)
		holdNoPiece(t, "an empty list", pc, []impl.InsIns{})
		holdNoPiece(t, "nine", pc, append(eightPlain(), insOf("set a 1")...))
		holdNoPiece(t, "nine, the last ends it", pc, append(eightPlain(), insOf("go a")...))
		holdNoPiece(t, "all there are", pc, allInstructions())
	}
	for many := 9; many <= 70; many++ {
		holdNoPiece(t, "too many", 0, slices.Repeat(insOf("set a 1"), many))
		holdNoPiece(t, "too many", 63, slices.Repeat(insOf("set a 1"), many))
	}
}

func TestP67OneThatIsNotOk(t *testing.T) {
	for what, bad := range badInstructions() {
		for long := 1; long <= 8; long++ {
			for place := range long {
				holdNoPiece(t, what, 5, put(eightPlain()[:long], place, bad))
			}
		}
	}
}

func TestP67OneThatStops(t *testing.T) {
	for _, k := range []int{impl.StopAll, impl.StopReturn, impl.StopLet, impl.StopKeep} {
		stops := impl.InsIns{Op: impl.InsStop, K: k}
		for long := 1; long <= 8; long++ {
			for place := range long {
				holdNoPiece(t, "a stop", 5, put(eightPlain()[:long], place, stops))
			}
			holdNoPiece(t, "a stop ahead of what ends it", 5, put(append(eightPlain()[:long-1], insOf("go a")...), max(0, long-2), stops))
		}
	}
}

func TestP67WhatEndsItStandsLast(t *testing.T) {
	for _, line := range []string{"same a b 9", "less b a 200", "go d"} {
		ends := insOf(line)[0]
		for long := 1; long <= 8; long++ {
			for place := range long {
				list := put(eightPlain()[:long], place, ends)
				if place == long-1 {
					holdLower(t, "ended at its end", 5, list, wantedLower(5, list))
					continue
				}
				holdNoPiece(t, "ended ahead of its end", 5, list)
				holdNoPiece(t, "ended twice", 5, put(list, long-1, insOf("less a a 1")[0]))
			}
		}
	}
}

func TestP67PlacesPastTheirEnds(t *testing.T) {
	for long := 1; long <= 8; long++ {
		for _, list := range [][]impl.InsIns{eightPlain()[:long], append(eightPlain()[:long-1], insOf("less a b 3")...)} {
			for _, pc := range []int{0, 64 - long} {
				holdLower(t, "a place at its ends", pc, list, wantedLower(pc, list))
			}
			for _, pc := range []int{-1, -2, -long, -64, 64 - long + 1, 64, 65, 65535, 65536, 1 << 32, -1 << 32, math.MaxInt, math.MaxInt - 1, math.MaxInt - long + 1, math.MinInt, math.MinInt + 1} {
				holdNoPiece(t, "a place past its ends", pc, list)
			}
		}
	}
}

// anyPiece is instructions that are a piece of code at a place; what reaches out is often near: every other one does so by registers that it does not turn.
func (d *dice) anyPiece() (int, []impl.InsIns) {
	apart := d.below(2) == 0
	list := make([]impl.InsIns, d.of(1, 2, 3, 4, 5, 6, 7, 8, 8, 8))
	pc := d.of(0, 64-len(list), d.below(65-len(list)), d.below(65-len(list)))
	for at := range list {
		op := d.of(1, 1, 2, 3, 4, 5, 6, 7, 8, 9, 10, 10, 14, 15)
		if at == len(list)-1 && d.below(2) == 0 {
			op = d.of(11, 12, 13)
		}
		row := insRows[op]
		i := impl.InsIns{Op: op, D: d.below(row.d), A: d.below(row.a), K: d.below(row.k)}
		if row.k == 256 && d.below(3) > 0 {
			i.K = d.of(0, 1, pc+d.below(len(list)+1), pc+d.below(len(list)), d.below(64))
		}
		if apart && (op == impl.InsLoad || op == impl.InsStore) {
			i.A, i.K = 2+i.A%2, d.of(i.K, pc+d.below(len(list)+1), pc+d.below(len(list)))
		}
		if apart && op != impl.InsStore && op != impl.InsOut {
			i.D %= 2
		}
		list[at] = i
	}
	return pc, list
}

// anyThere is a machine that goes on, stands at a place, keeps there the words of instructions, and has no interrupt to let in.
func (d *dice) anyThere(pc int, list []impl.InsIns) impl.MchMach {
	m := d.anyAt(impl.IrBlock{Pc: pc, Len: len(list)})
	if d.below(2) == 0 {
		m.Regs = []int{d.anyWord(), d.below(64), d.of(0, 0, 0, 1), d.of(0, 0, 1, 65535)}
	}
	copy(m.Mem[pc:], impl.BlkWords(list))
	m.Waits = m.Waits && !m.Let
	return m
}

// Any instructions, with one thing turned, are a piece of code just if the document says so.
func TestP67OneThingTurned(t *testing.T) {
	d := dice(676767671)
	good, bad := 0, 0
	for range 40000 {
		pc, list := d.anyPiece()
		holdLower(t, "any piece", pc, list, wantedLower(pc, list))
		i := &list[d.below(len(list))]
		numbers := []*int{&pc, &i.Op, &i.D, &i.A, &i.K}
		*numbers[d.below(len(numbers))] = d.of(d.below(17)-1, d.below(66)-1, d.below(4), 255, 256, math.MinInt, math.MaxInt)
		if wantedPiece(pc, list) {
			good++
			holdLower(t, "a number turned", pc, list, wantedLower(pc, list))
		} else {
			bad++
			holdNoPiece(t, "a number turned", pc, list)
		}
	}
	if good < 3000 || bad < 3000 {
		t.Fatalf("only %d are a piece of code, and %d are not", good, bad)
	}
}

func TestP67EachBeginningAndEachEnd(t *testing.T) {
	d := dice(676700001)
	for range 20000 {
		pc, list := d.anyPiece()
		for k := 1; k <= len(list); k++ {
			if !impl.BlkOk(pc, list[:k]) {
				t.Fatalf("the first %d of %v at %d are no piece of code", k, list, pc)
			}
			if !impl.BlkOk(pc+k-1, list[k-1:]) {
				t.Fatalf("%v at %d is none from the place %d on", list, pc, k-1)
			}
			if k < len(list) && impl.InsEnds(list[k-1].Op) {
				t.Fatalf("%v is ended at %d", list, k-1)
			}
		}
		if impl.BlkOk(pc, list[:0]) || impl.BlkOk(pc+len(list), list[len(list):]) {
			t.Fatalf("none of %v are a piece of code", list)
		}
	}
}

// Each kind of instruction alone, by hand: its operations, and how it goes on, at place 0 and at the last one.
func TestP2EachKindAloneByHand(t *testing.T) {
	for line, c := range map[string]struct {
		ops          []impl.IrOp
		end, x, y, k int
	}{
		"set c 255":   {opsOf(constant(255), sets(2, 0)), 1, 0, 0, -1},
		"set a 0":     {opsOf(constant(0), sets(0, 0)), 1, 0, 0, -1},
		"move b d":    {opsOf(gets(3), sets(1, 0)), 1, 0, 0, -1},
		"move a a":    {opsOf(gets(0), sets(0, 0)), 1, 0, 0, -1},
		"add a b c":   {opsOf(gets(1), gets(2), reckons(impl.OpAdd, 0, 1), sets(0, 2)), 1, 0, 0, -1},
		"sub b c d":   {opsOf(gets(2), gets(3), reckons(impl.OpSub, 0, 1), sets(1, 2)), 1, 0, 0, -1},
		"mul c d a":   {opsOf(gets(3), gets(0), reckons(impl.OpMul, 0, 1), sets(2, 2)), 1, 0, 0, -1},
		"and d a b":   {opsOf(gets(0), gets(1), reckons(impl.OpAnd, 0, 1), sets(3, 2)), 1, 0, 0, -1},
		"xor d d d":   {opsOf(gets(3), gets(3), reckons(impl.OpXor, 0, 1), sets(3, 2)), 1, 0, 0, -1},
		"shift a b 0": {opsOf(gets(1), constant(1), reckons(impl.OpMul, 0, 1), sets(0, 2)), 1, 0, 0, -1},
		"shift c a 1": {opsOf(gets(0), constant(2), reckons(impl.OpMul, 0, 1), sets(2, 2)), 1, 0, 0, -1},
		"shift d c 15": {opsOf(gets(2), constant(32768), reckons(impl.OpMul, 0, 1), sets(3, 2)),
			1, 0, 0, -1},
		"load d a 7": {opsOf(gets(0), constant(7), reckons(impl.OpAdd, 0, 1), loads(2, 0), sets(3, 3)),
			1, 0, 0, -1},
		"load a b 0": {opsOf(gets(1), constant(0), reckons(impl.OpAdd, 0, 1), loads(2, 0), sets(0, 3)),
			1, 0, 0, -1},
		"store d a 255": {opsOf(gets(0), constant(255), reckons(impl.OpAdd, 0, 1), gets(3), stores(2, 3, 0)),
			1, 0, 0, -1},
		"store b b 0": {opsOf(gets(1), constant(0), reckons(impl.OpAdd, 0, 1), gets(1), stores(2, 3, 0)),
			1, 0, 0, -1},
		"same a d 0":   {opsOf(gets(0), gets(3)), 3, 0, 1, 0},
		"same c b 255": {opsOf(gets(2), gets(1)), 3, 0, 1, 255},
		"less d b 64":  {opsOf(gets(3), gets(1)), 4, 0, 1, 64},
		"less a c 9":   {opsOf(gets(0), gets(2)), 4, 0, 1, 9},
		"go d":         {opsOf(gets(3)), 2, 0, 0, 0},
		"go a":         {opsOf(gets(0)), 2, 0, 0, 0},
		"out c":        {opsOf(gets(2), letsOut(0, 0)), 1, 0, 0, -1},
		"in d":         {opsOf(letsIn(0), sets(3, 0)), 1, 0, 0, -1},
	} {
		for _, pc := range []int{0, 1, 40, 62, 63} {
			want := impl.IrBlock{Pc: pc, Len: 1, Ops: c.ops, End: c.end, X: c.x, Y: c.y, K: c.k}
			if c.k < 0 {
				want.K = pc + 1
			}
			holdLower(t, line, pc, insOf(line), want)
		}
	}
}

// Several instructions, by hand: words are those of their own instruction, and what reaches out has its number.
func TestP2SeveralByHand(t *testing.T) {
	for _, c := range []struct {
		what         string
		lines        []string
		ops          []impl.IrOp
		end, x, y, k int
	}{
		{"none ends it", []string{"set a 5", "store a b 6", "in c", "out c"}, opsOf(
			constant(5), sets(0, 0),
			gets(1), constant(6), reckons(impl.OpAdd, 2, 3), gets(0), stores(4, 5, 1),
			letsIn(2), sets(2, 7),
			gets(2), letsOut(9, 3)), 1, 0, 0, -1},
		{"one that asks ends it", []string{"load a d 1", "shift b a 4", "sub b b a", "same b d 77"}, opsOf(
			gets(3), constant(1), reckons(impl.OpAdd, 0, 1), loads(2, 0), sets(0, 3),
			gets(0), constant(16), reckons(impl.OpMul, 5, 6), sets(1, 7),
			gets(1), gets(0), reckons(impl.OpSub, 9, 10), sets(1, 11),
			gets(1), gets(3)), 3, 13, 14, 77},
		{"another one that asks", []string{"out a", "less a b 0"}, opsOf(gets(0), letsOut(0, 0), gets(0), gets(1)), 4, 2, 3, 0},
		{"one that goes ends it", []string{"in a", "in b", "go b"}, opsOf(letsIn(0), sets(0, 0), letsIn(1), sets(1, 2), gets(1)), 2, 4, 0, 0},
		{"one thrice", []string{"out d", "out d", "out d"}, opsOf(gets(3), letsOut(0, 0), gets(3), letsOut(2, 1), gets(3), letsOut(4, 2)), 1, 0, 0, -1},
		{"loads and stores in turn", []string{"load b a 0", "store b a 1", "load c a 2"}, opsOf(
			gets(0), constant(0), reckons(impl.OpAdd, 0, 1), loads(2, 0), sets(1, 3),
			gets(0), constant(1), reckons(impl.OpAdd, 5, 6), gets(1), stores(7, 8, 1),
			gets(0), constant(2), reckons(impl.OpAdd, 10, 11), loads(12, 2), sets(2, 13)), 1, 0, 0, -1},
	} {
		list := insOf(c.lines...)
		for _, pc := range []int{0, 17, 64 - len(list)} {
			want := impl.IrBlock{Pc: pc, Len: len(list), Ops: c.ops, End: c.end, X: c.x, Y: c.y, K: c.k}
			if c.k < 0 {
				want.K = pc + len(list)
			}
			holdLower(t, c.what, pc, list, want)
		}
	}
}

// Each kind first, and last, of two to eight, and what ends it as the last of eight.
func TestP2EachKindFirstAndLast(t *testing.T) {
	for op, line := range oneOfEach {
		one := insOf(line)[0]
		for long := 2; long <= 8; long++ {
			for _, pc := range []int{0, 30, 64 - long} {
				others := eightPlain()[:long-1]
				last := append(slices.Clone(others), one)
				b := impl.BlkLower(pc, last)
				holdLower(t, line, pc, last, wantedLower(pc, last))
				ahead := len(impl.BlkLower(pc, others).Ops)
				if !slices.Equal(b.Ops[ahead:], wantedOps(one, ahead, long-1)) {
					t.Fatalf("%s as the last of %d: %v", line, long, b.Ops[ahead:])
				}
				first := append([]impl.InsIns{one}, others...)
				if endsCode(op) {
					holdNoPiece(t, line, pc, first)
					continue
				}
				holdLower(t, line, pc, first, wantedLower(pc, first))
				if b = impl.BlkLower(pc, first); !slices.Equal(b.Ops[:len(wantedOps(one, 0, 0))], wantedOps(one, 0, 0)) {
					t.Fatalf("%s as the first of %d: %v", line, long, b.Ops)
				}
			}
		}
	}
}

func TestP2TheLastOfEight(t *testing.T) {
	seven := slices.Repeat(insOf("load a b 1"), 7)
	for _, pc := range []int{0, 56} {
		for _, c := range []struct {
			line         string
			end, x, y, k int
		}{
			{"same c d 200", 3, 35, 36, 200}, {"less d c 0", 4, 35, 36, 0}, {"go c", 2, 35, 0, 0}, {"set d 1", 1, 0, 0, pc + 8},
		} {
			b := impl.BlkLower(pc, append(slices.Clone(seven), insOf(c.line)...))
			if b.Pc != pc || b.Len != 8 || b.End != c.end || b.X != c.x || b.Y != c.y || b.K != c.k || b.Ops[33].At != 6 {
				t.Fatalf("%s at %d: %+v", c.line, pc, b)
			}
		}
	}
}

// Where none ends it it goes on behind, at the last place, too, where there are no words any more.
func TestP2HowItGoesOn(t *testing.T) {
	for long := 1; long <= 8; long++ {
		for pc := 0; pc <= 64-long; pc++ {
			list := eightPlain()[:long]
			b := impl.BlkLower(pc, list)
			if b.End != impl.EndGo || b.X != 0 || b.Y != 0 || b.K != pc+long || b.Pc != pc || b.Len != long {
				t.Fatalf("%d at %d go on so: %+v", long, pc, b)
			}
		}
	}
	m := goesOn(nil, nil)
	m.Pc, m.Mem[63] = 63, wordsOf("set a 9")[0]
	b := impl.BlkLower(63, impl.BlkFind(m))
	holdRun(t, "behind the last place", b, m, turned(m, func(m *impl.MchMach) { m.Pc, m.Regs[0], m.Count = 64, 9, 101 }), true)
}

// Each instruction that may stand in a piece of code, alone and behind another one.
func TestP2EveryInstruction(t *testing.T) {
	for _, i := range allInstructions() {
		alone, behind := []impl.InsIns{i}, append(insOf("store d c 0"), i)
		if i.Op == impl.InsStop {
			holdNoPiece(t, "alone", 9, alone)
			holdNoPiece(t, "behind another one", 9, behind)
			continue
		}
		holdLower(t, "alone", 9, alone, wantedLower(9, alone))
		holdLower(t, "behind another one", 9, behind, wantedLower(9, behind))
	}
}

// holdSteps fails unless a machine that goes through a piece of code is what as many steps of its own leave; it tells how many were done, and how it stands.
// The step that misses an address is not done, and so comes on top of those that were.
func holdSteps(t *testing.T, what string, pc int, list []impl.InsIns, m impl.MchMach) (int, int) {
	t.Helper()
	x, ok := impl.IrRun(impl.BlkLower(pc, list), m)
	if !ok {
		t.Fatalf("%s: %v at %d is not gone through by %+v", what, list, pc, m)
	}
	done := x.Count - m.Count
	steps := done
	if x.Halt == impl.HaltReach {
		steps++
	}
	y := m
	for range steps {
		y = impl.MchStep(y, false)
	}
	if !sameMachine(x, y) {
		t.Fatalf("%s: %v at %d by %+v:\n code %+v\nsteps %+v", what, list, pc, m, x, y)
	}
	holdMachine(t, what+": MchRun", impl.MchRun(m, nil, steps), x)
	return done, x.Halt
}

func TestP2CodeDoesWhatItsInstructionsDo(t *testing.T) {
	d := dice(222222229)
	whole, missed, over := 0, 0, 0
	for range 60000 {
		pc, list := d.anyPiece()
		m := d.anyThere(pc, list)
		done, halt := holdSteps(t, "any piece", pc, list, m)
		switch {
		case halt == impl.HaltReach && done < len(list):
			missed++
			if op := list[done].Op; op != impl.InsLoad && op != impl.InsStore {
				t.Fatalf("%v misses an address by its instruction %d", list, done)
			}
		case halt != impl.HaltNone:
			t.Fatalf("%v stands so: %d, with %d done", list, halt, done)
		case done < len(list):
			over++
			if done < 1 || list[done-1].Op != impl.InsStore {
				t.Fatalf("%v is left behind its instruction %d", list, done-1)
			}
		case done == len(list):
			whole++
		default:
			t.Fatalf("of %v %d are done", list, done)
		}
	}
	if whole < 5000 || missed < 5000 || over < 3000 {
		t.Fatalf("only %d are gone through whole, %d miss an address, and %d write over what is behind", whole, missed, over)
	}
}

// What a machine finds at its place is what it goes through, whatever words it keeps.
func TestP2WhatIsFoundIsGoneThrough(t *testing.T) {
	d := dice(222999111)
	found := 0
	for range 40000 {
		m := d.goingMachine()
		m.Waits = m.Waits && !m.Let
		list := impl.BlkFind(m)
		if len(list) == 0 {
			continue
		}
		found++
		holdSteps(t, "what is found", m.Pc, list, m)
	}
	if found < 20000 {
		t.Fatalf("only %d find some", found)
	}
}

// Each kind of instruction alone, first, in the midst and last, with words at the ends in the registers.
func TestP2EachKindBesideSteps(t *testing.T) {
	d := dice(202020207)
	for _, line := range oneOfEach {
		one := insOf(line)
		plain := insOf("set a 3", "out b", "move d c")
		for _, list := range [][]impl.InsIns{one, append(slices.Clone(plain), one...), slices.Concat(one, plain), slices.Concat(plain, one, plain)} {
			for round := range 200 {
				pc := []int{0, 64 - len(list), 20}[round%3]
				if !impl.BlkOk(pc, list) {
					continue
				}
				m := d.anyThere(pc, list)
				if round%2 == 0 {
					m.Regs = d.anyList(impl.InsRegs, func() int { return d.of(0, 1, 32767, 32768, 65534, 65535, 63, 64) })
				}
				holdSteps(t, line, pc, list, m)
			}
		}
	}
}

// A store about its own code, by hand: the code stands at the places 20 to 23, the store is each of its instructions in turn.
func TestP2OverItsOwnCode(t *testing.T) {
	for number := range 4 {
		for address := 15; address <= 28; address++ {
			list := insOf("out a", "out b", "out a", "out b")
			list[number] = impl.InsIns{Op: impl.InsStore, D: 3, A: 2, K: address}
			for _, word := range []int{wordsOf("set b 77")[0], wordsOf("stop")[0], wordsOf("go a")[0], noInstruction, impl.InsPut(list[(number+1)%4])} {
				m := at(goesOn(nil, nil), 20)
				copy(m.Mem[20:], impl.BlkWords(list))
				m.Regs = []int{5, 6, 0, word}
				done, halt := holdSteps(t, "a store about the code", 20, list, m)
				want := 4
				if 20+number < address && address < 24 {
					want = number + 1
				}
				if done != want || halt != impl.HaltNone {
					t.Fatalf("instruction %d stores at %d: %d are done, not %d", number, address, done, want)
				}
				x, _ := impl.IrRun(impl.BlkLower(20, list), m)
				if x.Pc != 20+want || x.Mem[address] != word || len(x.Outs) != len(m.Outs)+want-1 {
					t.Fatalf("instruction %d stores at %d: %+v", number, address, x)
				}
			}
		}
	}
}

// A reach past all words, by hand: the instructions ahead of it are done, and it stands there.
func TestP2WhereItReaches(t *testing.T) {
	for number := range 4 {
		for _, op := range []int{impl.InsLoad, impl.InsStore} {
			for _, c := range []struct{ a, k, address int }{
				{0, 63, 63}, {0, 64, 64}, {63, 0, 63}, {64, 0, 64}, {63, 1, 64}, {0, 255, 255}, {65535, 0, 65535}, {65535, 1, 0}, {65535, 64, 63}, {65535, 65, 64}, {65281, 255, 0}, {65280, 255, 65535}, {32768, 0, 32768},
			} {
				list := insOf("out a", "out b", "out a", "out b")
				list[number] = impl.InsIns{Op: op, D: 3, A: 2, K: c.k}
				m := at(goesOn(nil, nil), 20)
				copy(m.Mem[20:], impl.BlkWords(list))
				m.Regs = []int{5, 6, c.a, 4000}
				done, halt := holdSteps(t, "a reach", 20, list, m)
				if c.address < 64 && (done != 4 || halt != impl.HaltNone) || c.address >= 64 && (done != number || halt != impl.HaltReach) {
					t.Fatalf("instruction %d reaches %d: %d are done, and it stands so: %d", number, c.address, done, halt)
				}
			}
		}
	}
}

// One machine goes through a piece of code with everything, by hand.
func TestP2AMachineByHand(t *testing.T) {
	m := goesOn([]string{"in a", "set b 3", "mul a a b", "store a c 41", "load d c 41", "shift d d 2", "out d", "less b a 50"}, nil)
	list := impl.BlkFind(m)
	want := turned(m, func(m *impl.MchMach) {
		m.Regs, m.Mem[40], m.Ins, m.Outs, m.Pc, m.Count = []int{33, 3, 65535, 132}, 33, []int{12}, []int{13, 132}, 50, 108
	})
	holdRun(t, "everything", impl.BlkLower(5, list), m, want, true)
	holdSteps(t, "everything", 5, list, m)
	m.Ins = []int{0}
	want.Regs, want.Mem[40], want.Ins, want.Outs, want.Pc = []int{0, 3, 65535, 0}, 0, nil, []int{13, 0}, 13
	holdRun(t, "not less", impl.BlkLower(5, list), m, want, true)
	holdSteps(t, "not less", 5, list, m)
}

// An interrupt that waits, and is not let in, is nothing to the code, and neither is that it would be let in.
func TestP2InterruptsThatAreNotThere(t *testing.T) {
	list := insOf("set a 1", "out a", "go b")
	for _, c := range []struct{ let, waits bool }{{false, false}, {true, false}, {false, true}} {
		m := at(goesOn(nil, []string{"set d 5"}), 20, "set a 1", "out a", "go b")
		m.Let, m.Waits = c.let, c.waits
		if done, _ := holdSteps(t, "an interrupt", 20, list, m); done != 3 {
			t.Fatalf("%+v: %d are done", c, done)
		}
	}
}

func TestP34OfNoMachine(t *testing.T) {
	base := goesOn([]string{"set a 1", "go a"}, nil)
	holdFound(t, "a machine", base, insOf("set a 1", "go a"))
	holdFound(t, "nothing", impl.MchMach{}, nil)
	for what, turn := range map[string]func(m *impl.MchMach){
		"a register too few":   func(m *impl.MchMach) { m.Regs = m.Regs[:3] },
		"a register too many":  func(m *impl.MchMach) { m.Regs = append(m.Regs, 0) },
		"a word too few":       func(m *impl.MchMach) { m.Mem = m.Mem[:63] },
		"a word too many":      func(m *impl.MchMach) { m.Mem = append(m.Mem, 0) },
		"no words":             func(m *impl.MchMach) { m.Mem = nil },
		"no word in registers": func(m *impl.MchMach) { m.Regs[3] = -1 },
		"no word, elsewhere":   func(m *impl.MchMach) { m.Mem[63] = 65536 },
		"no word, at its end":  func(m *impl.MchMach) { m.Mem[7] = -1 },
		"place below":          func(m *impl.MchMach) { m.Pc = -1 },
		"place past":           func(m *impl.MchMach) { m.Pc = 65536 },
		"least place":          func(m *impl.MchMach) { m.Pc = math.MinInt },
		"most place":           func(m *impl.MchMach) { m.Pc = math.MaxInt },
		"saved place past":     func(m *impl.MchMach) { m.Save = 65536 },
		"halt below":           func(m *impl.MchMach) { m.Halt = -1 },
		"halt past":            func(m *impl.MchMach) { m.Halt = 5 },
		"count below":          func(m *impl.MchMach) { m.Count = -1 },
		"count past":           func(m *impl.MchMach) { m.Count = impl.MchMost + 1 },
		"no word comes in":     func(m *impl.MchMach) { m.Ins = []int{65536} },
		"no word went out":     func(m *impl.MchMach) { m.Outs = []int{-1} },
	} {
		holdFound(t, what, turned(base, turn), nil)
	}
}

// How a machine stands, and how much it has done, is nothing to what its words say.
func TestP34HoweverItStands(t *testing.T) {
	base := goesOn([]string{"set a 1", "out a", "less a b 9"}, []string{"set d 1"})
	want := insOf("set a 1", "out a", "less a b 9")
	for halt := impl.HaltNone; halt <= impl.HaltPlace; halt++ {
		for _, count := range []int{0, 1, impl.MchMost - 2, impl.MchMost} {
			for _, both := range []bool{false, true} {
				m := turned(base, func(m *impl.MchMach) { m.Halt, m.Count, m.Let, m.Waits = halt, count, both, both })
				holdFound(t, "however it stands", m, want)
			}
		}
	}
}

func TestP34AtTheLastPlaces(t *testing.T) {
	m := goesOn(nil, nil)
	for at := range m.Mem {
		m.Mem[at] = wordsOf("out d")[0]
	}
	for pc := range 64 {
		m.Pc = pc
		holdFound(t, "as far as there are words", m, slices.Repeat(insOf("out d"), min(8, 64-pc)))
	}
	for _, pc := range []int{64, 65, 71, 72, 127, 128, 255, 32768, 65472, 65528, 65534, 65535} {
		m.Pc = pc
		holdFound(t, "where there are none", m, nil)
	}
	m.Pc, m.Mem[63] = 63, wordsOf("go a")[0]
	holdFound(t, "one that ends it, at the last place", m, insOf("go a"))
	m.Mem[63] = wordsOf("stop")[0]
	holdFound(t, "one that stops, at the last place", m, nil)
	m.Mem[63] = noInstruction
	holdFound(t, "a word that says none, at the last place", m, nil)
	m.Pc, m.Mem[0] = 0, 65535
	holdFound(t, "a word that says none, at the first place", m, nil)
}

func TestP34WhereItEnds(t *testing.T) {
	for _, pc := range []int{0, 5, 30, 52} {
		for place := range 12 {
			m := goesOn(nil, nil)
			m.Pc = pc
			for a := range m.Mem {
				m.Mem[a] = wordsOf("in c")[0]
			}
			plain := slices.Repeat(insOf("in c"), min(place, 8))
			for _, line := range []string{"same a b 9", "less c d 255", "go d"} {
				want := plain
				if place < 8 {
					want = append(slices.Clone(plain), insOf(line)...)
				}
				m.Mem[pc+place] = wordsOf(line)[0]
				holdFound(t, line, m, want)
			}
			for _, line := range []string{"stop", "return", "let", "keep"} {
				m.Mem[pc+place] = wordsOf(line)[0]
				holdFound(t, line, m, plain)
			}
			for _, word := range []int{noInstruction, 4 * 256, 65535, 1*4096 + 256, 8*4096 + 16, 13*4096 + 1} {
				m.Mem[pc+place] = word
				holdFound(t, "a word that says none", m, plain)
			}
		}
	}
}

func TestP34TheInstructionsAtAPlace(t *testing.T) {
	d := dice(343434347)
	var long [9]int
	for range 60000 {
		m := d.anyMachine()
		if d.below(2) == 0 {
			m.Mem = d.anyList(impl.MchSize, func() int { return d.of(d.anyCode(), 4096+d.below(1024), 15*4096, 9*4096+d.below(4096)) })
		}
		list := impl.BlkFind(m)
		if want := wantedFind(m); !slices.Equal(list, want) {
			t.Fatalf("at %d of %v:\n got %v\nwant %v", m.Pc, m.Mem, list, want)
		}
		long[len(list)]++
		if len(list) == 0 {
			continue
		}
		if !impl.BlkOk(m.Pc, list) || !slices.Equal(impl.BlkWords(list), m.Mem[m.Pc:m.Pc+len(list)]) {
			t.Fatalf("at %d of %v: %v", m.Pc, m.Mem, list)
		}
	}
	for many, times := range long {
		if times < 200 {
			t.Fatalf("%d are found only %d times", many, times)
		}
	}
}

func TestP35ByHand(t *testing.T) {
	for _, c := range []struct {
		what string
		list []impl.InsIns
		want []int
	}{
		{"none", nil, nil},
		{"an empty list", []impl.InsIns{}, []int{}},
		{"one", insOf("add c b d"), []int{14595}},
		{"one that stops is one", insOf("stop", "keep"), []int{0, 3}},
		{"some", insOf("in d", "set a 1", "stop", "go d", "out b"), []int{64512, 4097, 0, 54016, 58368}},
		{"one that is not ok, first", []impl.InsIns{{Op: 1, D: 4}, {Op: 1, K: 1}}, []int{0, 4097}},
		{"one that is not ok, last", []impl.InsIns{{Op: 1, K: 1}, {Op: 1, A: 1}}, []int{4097, 0}},
		{"none that is ok", []impl.InsIns{{Op: -1}, {Op: 16}, {Op: 8, K: 16}}, []int{0, 0, 0}},
		{"more than a piece of code has", slices.Repeat(insOf("set a 1"), 9), slices.Repeat([]int{4097}, 9)},
		{"many more", slices.Repeat(insOf("set a 1"), 5000), slices.Repeat([]int{4097}, 5000)},
	} {
		if got := impl.BlkWords(c.list); !slices.Equal(got, c.want) {
			t.Errorf("%s: the words of %v are %v, not %v", c.what, c.list, got, c.want)
		}
	}
	for what, bad := range badInstructions() {
		if got := impl.BlkWords(append(insOf("out b"), bad)); !slices.Equal(got, []int{58368, 0}) {
			t.Errorf("%s: the words are %v", what, got)
		}
	}
}

func TestP35TakenByHand(t *testing.T) {
	for _, c := range []struct {
		what  string
		words []int
		want  []impl.InsIns
	}{
		{"none", nil, nil},
		{"an empty list", []int{}, nil},
		{"one", []int{14595}, insOf("add c b d")},
		{"all say one", []int{64512, 4097, 0, 54016, 58368}, insOf("in d", "set a 1", "stop", "go d", "out b")},
		{"noughts", []int{0, 0, 0}, insOf("stop", "stop", "stop")},
		{"says none first", []int{noInstruction, 4097, 4097}, nil},
		{"says none second", []int{4097, 14596, 4097}, insOf("set a 1")},
		{"says none last", []int{4097, 58368, 65535}, insOf("set a 1", "out b")},
		{"more than a piece of code has", slices.Repeat([]int{4097}, 9), slices.Repeat(insOf("set a 1"), 9)},
		{"many more", append(slices.Repeat([]int{4097}, 5000), 4), slices.Repeat(insOf("set a 1"), 5000)},
	} {
		if got := impl.BlkTake(c.words); !slices.Equal(got, c.want) {
			t.Errorf("%s: %v say %v, not %v", c.what, c.words, got, c.want)
		}
	}
	for _, n := range noWords {
		for many := range 10 {
			words := append(slices.Repeat([]int{58368}, many), n, 58368)
			if got := impl.BlkTake(words); !slices.Equal(got, slices.Repeat(insOf("out b"), many)) {
				t.Errorf("%v say %v", words, got)
			}
		}
	}
}

func TestP35WordsAndInstructionsAreEachOthers(t *testing.T) {
	every := allInstructions()
	if got := impl.BlkTake(impl.BlkWords(every)); !slices.Equal(got, every) {
		t.Fatalf("all instructions are taken as %d, not as %d", len(got), len(every))
	}
	d := dice(353535351)
	for range 20000 {
		list := make([]impl.InsIns, d.of(0, 1, 2, 7, 8, 9, 20))
		for at := range list {
			list[at] = every[d.below(len(every))]
		}
		if got := impl.BlkTake(impl.BlkWords(list)); !slices.Equal(got, list) {
			t.Fatalf("%v are taken as %v", list, got)
		}
		words := d.anyList(d.below(30), func() int { return d.of(d.anyCode(), d.anyCode(), d.anyCode(), d.anyWord(), d.below(70000)-2000) })
		took := impl.BlkTake(words)
		first := 0
		for ; first < len(words); first++ {
			if _, says := impl.InsTake(words[first]); !says {
				break
			}
		}
		if len(took) != first || !slices.Equal(impl.BlkWords(took), words[:first]) {
			t.Fatalf("%v say %v", words, took)
		}
	}
}

func TestP68CodeIsItsFirstPartAndThenTheRest(t *testing.T) {
	d := dice(686868683)
	parts := 0
	for range 30000 {
		pc, list := d.anyPiece()
		m := d.anyThere(pc, list)
		if d.below(4) == 0 {
			// The words are nothing to the code: it does the same where they are not there.
			m.Mem = d.anyList(impl.MchSize, d.anyWord)
		}
		b := impl.BlkLower(pc, list)
		x, _ := impl.IrRun(b, m)
		if _, left := leftWhere(b, m, x); left {
			continue
		}
		for k := 1; k < len(list); k++ {
			y, first := impl.IrRun(impl.BlkLower(pc, list[:k]), m)
			z, then := impl.IrRun(impl.BlkLower(pc+k, list[k:]), y)
			if !first || !then || y.Pc != pc+k || y.Count != m.Count+k || !sameMachine(z, x) {
				t.Fatalf("%v at %d by %+v:\nwhole %+v\nfirst %d %+v\n then %+v", list, pc, m, x, k, y, z)
			}
			parts++
		}
	}
	if parts < 20000 {
		t.Fatalf("only %d parts are gone through", parts)
	}
}

// By hand: the place between, and what stands there, of code that reads, writes and goes.
func TestP68ByHand(t *testing.T) {
	lines := []string{"in a", "store a c 41", "load b c 41", "out b", "go b"}
	m := goesOn(lines, nil)
	list := insOf(lines...)
	x, _ := impl.IrRun(impl.BlkLower(5, list), m)
	holdMachine(t, "whole", x, turned(m, func(m *impl.MchMach) {
		m.Regs, m.Mem[40], m.Ins, m.Outs, m.Pc, m.Count = []int{11, 11, 65535, 10}, 11, []int{12}, []int{13, 11}, 11, 105
	}))
	for k := 1; k < 5; k++ {
		y, _ := impl.IrRun(impl.BlkLower(5, list[:k]), m)
		if y.Pc != 5+k || y.Count != 100+k {
			t.Fatalf("behind the first %d it stands at %d, with %d done", k, y.Pc, y.Count)
		}
		holdRun(t, "and then the rest", impl.BlkLower(5+k, list[k:]), y, x, true)
	}
}

// holdCounts fails unless the operations of instructions are no more than five for each, and as many as wanted reach out, and set registers.
func holdCounts(t *testing.T, pc int, list []impl.InsIns) {
	t.Helper()
	b := impl.BlkLower(pc, list)
	reach, events := 0, []int{}
	var turn, set []int
	for at, i := range list {
		switch i.Op {
		case impl.InsLoad, impl.InsStore, impl.InsIn, impl.InsOut:
			reach++
			events = append(events, at)
		}
		switch i.Op {
		case impl.InsStore, impl.InsOut, impl.InsSame, impl.InsLess, impl.InsGo:
		default:
			turn = append(turn, i.D)
		}
	}
	numbers := []int{}
	for _, o := range b.Ops {
		if o.Kind == impl.IrSet {
			set = append(set, o.K)
		}
		if impl.IrLoad <= o.Kind && o.Kind <= impl.IrOut {
			numbers = append(numbers, o.At)
		}
	}
	if len(b.Ops) > 5*len(list) || impl.IrEvents(b) != reach || !slices.Equal(events, numbers) || !slices.Equal(set, turn) {
		t.Fatalf("%v: %d operations, %d reach out, not %d, for %v, not %v, and %v are set, not %v", list, len(b.Ops), impl.IrEvents(b), reach, numbers, events, set, turn)
	}
}

func TestP83CodeIsNotMuchLonger(t *testing.T) {
	d := dice(838383831)
	for range 20000 {
		pc, list := d.anyPiece()
		holdCounts(t, pc, list)
	}
	holdCounts(t, 0, eightPlain())
	holdCounts(t, 56, eightPlain())
	for _, i := range allInstructions() {
		if i.Op != impl.InsStop {
			holdCounts(t, 63, []impl.InsIns{i})
		}
	}
}

func TestP83EachKind(t *testing.T) {
	for op, c := range map[int]struct{ many, reach, set int }{
		1: {2, 0, 1}, 2: {2, 0, 1}, 3: {4, 0, 1}, 4: {4, 0, 1}, 5: {4, 0, 1}, 6: {4, 0, 1}, 7: {4, 0, 1}, 8: {4, 0, 1},
		9: {5, 1, 1}, 10: {5, 1, 0}, 11: {2, 0, 0}, 12: {2, 0, 0}, 13: {1, 0, 0}, 14: {2, 1, 0}, 15: {2, 1, 1},
	} {
		for long := 1; long <= 8; long++ {
			list := slices.Repeat(insOf(oneOfEach[op]), long)
			if endsCode(op) && long > 1 {
				holdNoPiece(t, "ended ahead of its end", 0, list)
				continue
			}
			b := impl.BlkLower(64-long, list)
			set := 0
			for _, o := range b.Ops {
				if o.Kind == impl.IrSet {
					set++
				}
			}
			if len(b.Ops) != long*c.many || impl.IrEvents(b) != long*c.reach || set != long*c.set {
				t.Errorf("%d times %s: %d operations, %d reach out, %d set", long, oneOfEach[op], len(b.Ops), impl.IrEvents(b), set)
			}
		}
	}
}

// Five operations for each of eight instructions are as many as there may be, and fit.
func TestP83TheLongestCode(t *testing.T) {
	for _, lines := range [][]string{
		{"load a b 1", "load a b 1", "load a b 1", "load a b 1", "load a b 1", "load a b 1", "load a b 1", "load a b 1"},
		{"store a b 1", "store a b 1", "store a b 1", "store a b 1", "store a b 1", "store a b 1", "store a b 1", "store a b 1"},
		{"load a b 255", "store d c 0", "load c a 3", "store b b 9", "load d d 64", "store c a 1", "load b a 0", "store a d 255"},
	} {
		list := insOf(lines...)
		for _, pc := range []int{0, 56} {
			b := impl.BlkLower(pc, list)
			if len(b.Ops) != 40 || impl.IrEvents(b) != 8 || !impl.IrOk(b) {
				t.Fatalf("%v at %d: %+v", lines, pc, b)
			}
			holdLower(t, "the longest", pc, list, wantedLower(pc, list))
		}
	}
}

// lentList is a list with spare room, which a careless hand would write into.
func lentList[T any](list []T, spare ...T) []T {
	return append(slices.Clone(list), spare...)[:len(list)]
}

func TestP34NothingIsWrittenIntoOrShared(t *testing.T) {
	d := dice(343400007)
	for round := range 6000 {
		m := lent(d.anyMachine())
		if round%10 == 0 {
			m.Regs[0] = 65536
		}
		given := listsOf(m)
		before := held(given)
		one, two := impl.BlkFind(m), impl.BlkFind(m)
		want := slices.Clone(two)
		for at := range given {
			if !slices.Equal(given[at], before[at]) {
				t.Fatalf("list %d was %v, and now %v", at, before[at], given[at])
			}
		}
		spans := spanOf(two)
		for _, list := range given {
			spans = append(spans, spanOf(list)...)
		}
		holdSpans(t, "BlkFind", spanOf(one), spans)
		for at := range one[:cap(one)] {
			one[:cap(one)][at] = impl.InsIns{Op: -9}
		}
		if !slices.Equal(two, want) {
			t.Fatalf("an answer was %v, and now %v", want, two)
		}
		holdFound(t, "nothing is kept", m, want)
		runtime.KeepAlive(m)
	}
}

func TestP2NothingIsWrittenIntoOrShared(t *testing.T) {
	d := dice(200000003)
	for round := range 6000 {
		pc, list := d.anyPiece()
		switch round % 10 {
		case 0:
			list[d.below(len(list))].D = 9
		case 1:
			pc = -1
		}
		list = lentList(list, impl.InsIns{Op: 7001}, impl.InsIns{Op: 1, K: 7})
		whole := list[:cap(list)]
		before, want := slices.Clone(whole), wantedLower(pc, list)
		impl.BlkOk(pc, list)
		one, two := impl.BlkLower(pc, list), impl.BlkLower(pc, list)
		words, again := impl.BlkWords(list), impl.BlkWords(list)
		if !slices.Equal(whole, before) {
			t.Fatalf("instructions were %v, and now %v", before, whole)
		}
		holdSpans(t, "BlkLower", spanOf(one.Ops), append(spanOf(list), spanOf(two.Ops)...))
		holdSpans(t, "BlkWords", spanOf(words), append(spanOf(list), spanOf(again)...))
		for at := range one.Ops[:cap(one.Ops)] {
			one.Ops[:cap(one.Ops)][at] = impl.IrOp{Kind: -9}
		}
		if !sameBlock(two, want) || !sameBlock(impl.BlkLower(pc, list), want) {
			t.Fatalf("%v at %d: %+v, not %+v", list, pc, two, want)
		}
		runtime.KeepAlive([]any{list, words, again})
	}
}

func TestP35NothingIsWrittenIntoOrShared(t *testing.T) {
	d := dice(350000011)
	for range 6000 {
		words := lentList(d.anyList(d.below(20), d.anyCode), 4097, 7001, 4098)
		whole := words[:cap(words)]
		before := slices.Clone(whole)
		one, two := impl.BlkTake(words), impl.BlkTake(words)
		want := slices.Clone(two)
		holdSpans(t, "BlkTake", spanOf(one), append(spanOf(words), spanOf(two)...))
		for at := range one[:cap(one)] {
			one[:cap(one)][at] = impl.InsIns{Op: -9}
		}
		if !slices.Equal(whole, before) {
			t.Fatalf("words were %v, and now %v", before, whole)
		}
		if !slices.Equal(two, want) || !slices.Equal(impl.BlkTake(words), want) {
			t.Fatalf("%v are taken as %v, and then as %v", words, want, two)
		}
		runtime.KeepAlive(words)
	}
}

// A machine whose lists lie over each other is answered as one whose lists do not.
func TestP34ListsOverEachOther(t *testing.T) {
	d := dice(340000019)
	for range 3000 {
		m := d.goingMachine()
		m.Regs, m.Ins, m.Outs = m.Mem[10:14], m.Mem[12:15], m.Mem[20:22]
		before := slices.Clone(m.Mem)
		list := impl.BlkFind(m)
		if !slices.Equal(list, wantedFind(m)) || !slices.Equal(m.Mem, before) {
			t.Fatalf("at %d of %v: %v", m.Pc, before, list)
		}
		holdSpans(t, "BlkFind", spanOf(list), spanOf(m.Mem))
		runtime.KeepAlive(m)
	}
}
