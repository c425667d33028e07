package tests

import (
	"math"
	"slices"
	"testing"

	"loop.example/latimer/impl"
)

// The signatures that the document gives; another one would not compile here.
var (
	_ func(impl.MchMach) bool                     = impl.MchOk
	_ func([]int, []int) impl.MchMach             = impl.MchNew
	_ func(impl.MchMach, bool) impl.MchMach       = impl.MchStep
	_ func(impl.MchMach, []int, int) impl.MchMach = impl.MchRun
)

// noInstruction is a word that says none.
const noInstruction = 4

// wordsOf are the words that lines say.
func wordsOf(lines ...string) []int {
	out := make([]int, len(lines))
	for at, line := range lines {
		i, ok := impl.InsRead(line)
		if !ok {
			panic("no instruction: " + line)
		}
		out[at] = impl.InsPut(i)
	}
	return out
}

// apart is a machine that shares nothing with another one that is the same.
func apart(m impl.MchMach) impl.MchMach {
	m.Regs, m.Mem, m.Ins, m.Outs = slices.Clone(m.Regs), slices.Clone(m.Mem), slices.Clone(m.Ins), slices.Clone(m.Outs)
	return m
}

// turned is a machine with a change, the machine itself being left as it is.
func turned(m impl.MchMach, turn func(m *impl.MchMach)) impl.MchMach {
	out := apart(m)
	turn(&out)
	return out
}

// sameMachine holds two machines against each other; the empty list and the nil list are the same.
func sameMachine(a, b impl.MchMach) bool {
	return slices.Equal(a.Regs, b.Regs) && a.Pc == b.Pc && slices.Equal(a.Mem, b.Mem) && a.Save == b.Save && a.Let == b.Let && a.Waits == b.Waits &&
		a.Halt == b.Halt && slices.Equal(a.Ins, b.Ins) && slices.Equal(a.Outs, b.Outs) && a.Count == b.Count
}

// holdMachine fails unless a machine is the wanted one.
func holdMachine(t *testing.T, what string, got, want impl.MchMach) {
	t.Helper()
	if !sameMachine(got, want) {
		t.Fatalf("%s:\n got %+v\nwant %+v", what, got, want)
	}
}

// goesOn is a machine in the midst of its work, with lines at its place and others at MchVector.
func goesOn(lines []string, vector []string) impl.MchMach {
	m := impl.MchMach{Regs: []int{7, 300, 65535, 10}, Pc: 5, Mem: make([]int, impl.MchSize), Save: 20, Ins: []int{11, 12}, Outs: []int{13}, Count: 100}
	for at := range m.Mem {
		m.Mem[at] = noInstruction
	}
	copy(m.Mem[5:], wordsOf(lines...))
	copy(m.Mem[impl.MchVector:], wordsOf(vector...))
	return m
}

// at is a machine at another place, its words there being those of lines.
func at(m impl.MchMach, place int, lines ...string) impl.MchMach {
	return turned(m, func(m *impl.MchMach) {
		m.Pc = place
		copy(m.Mem[min(place, impl.MchSize):], wordsOf(lines...))
	})
}

// wantedStep is what the document asks of MchStep of a machine that is ok, told by its table.
func wantedStep(before impl.MchMach, irq bool) impl.MchMach {
	m := apart(before)
	if m.Halt != 0 || m.Count == 1000000 {
		return m
	}
	if irq {
		m.Waits = true
	}
	if m.Waits && m.Let {
		m.Waits, m.Let, m.Save, m.Pc = false, false, m.Pc, 48
	}
	if m.Pc > 63 {
		m.Halt = 4
		return m
	}
	w := m.Mem[m.Pc]
	i := impl.InsIns{Op: w / 4096, D: w / 1024 % 4, A: w / 256 % 4, K: w % 256}
	if !wantedOk(i) {
		m.Halt = 2
		return m
	}
	reach := (m.Regs[i.A] + i.K) % 65536
	if (i.Op == 9 || i.Op == 10) && reach > 63 {
		m.Halt = 3
		return m
	}
	m.Pc, m.Count = (m.Pc+1)%65536, m.Count+1
	wantedDeed(&m, i, reach)
	return m
}

// wantedDeed turns what an instruction that is done turns beside the count and the next place.
func wantedDeed(m *impl.MchMach, i impl.InsIns, reach int) {
	d, a := m.Regs[i.D], m.Regs[i.A]
	switch i.Op {
	case 0:
		if i.K == 1 {
			m.Pc = m.Save
		}
		if i.K == 0 {
			m.Halt = 1
		} else {
			m.Let = i.K != 3
		}
	case 1:
		m.Regs[i.D] = i.K
	case 2:
		m.Regs[i.D] = a
	case 3, 4, 5, 6, 7:
		m.Regs[i.D] = reckoned(i.Op-2, a, m.Regs[i.K])
	case 8:
		for range i.K {
			a = a * 2 % 65536
		}
		m.Regs[i.D] = a
	case 9:
		m.Regs[i.D] = m.Mem[reach]
	case 10:
		m.Mem[reach] = d
	case 11, 12:
		if i.Op == 11 && d == a || i.Op == 12 && d < a {
			m.Pc = i.K
		}
	case 13:
		m.Pc = a
	case 14:
		m.Outs = append(m.Outs, d)
	case 15:
		m.Regs[i.D] = 0
		if len(m.Ins) > 0 {
			m.Regs[i.D], m.Ins = m.Ins[0], m.Ins[1:]
		}
	}
}

// wantedRun is what the document asks of MchRun of a machine that is ok, and a number that is not too great.
func wantedRun(m impl.MchMach, irqs []int, n int) impl.MchMach {
	m = apart(m)
	for range max(n, 0) {
		if m.Halt != 0 || m.Count >= 1000000 {
			break
		}
		m = wantedStep(m, slices.Contains(irqs, m.Count))
	}
	return m
}

// dice are numbers all over, the same ones each time.
type dice uint32

func (d *dice) below(n int) int {
	*d ^= *d << 13
	*d ^= *d >> 17
	*d ^= *d << 5
	return int(*d>>3) % n
}

func (d *dice) of(list ...int) int { return list[d.below(len(list))] }

// anyWord is a small word, one about the ends, or any.
func (d *dice) anyWord() int {
	switch d.below(4) {
	case 0, 1:
		return d.below(70)
	case 2:
		return d.of(0, 1, 62, 63, 64, 65, 255, 256, 32767, 32768, 65281, 65472, 65534, 65535)
	}
	return d.below(65536)
}

// anyCode is mostly a word that says an instruction, each Op as often as another.
func (d *dice) anyCode() int {
	if d.below(25) == 0 {
		return d.anyWord()
	}
	op := d.below(len(insRows))
	row := insRows[op]
	k := d.below(row.k)
	if d.below(2) == 0 {
		k %= 64
	}
	if op == impl.InsStop && d.below(4) > 0 {
		k = d.of(impl.StopReturn, impl.StopLet, impl.StopKeep)
	}
	return op*4096 + d.below(row.d)*1024 + d.below(row.a)*256 + k
}

func (d *dice) anyList(many int, one func() int) []int {
	out := make([]int, many)
	for at := range out {
		out[at] = one()
	}
	return out
}

// anyMachine is a machine that is ok; most go on.
func (d *dice) anyMachine() impl.MchMach {
	m := impl.MchMach{
		Regs: d.anyList(impl.InsRegs, d.anyWord), Pc: d.below(impl.MchSize), Mem: d.anyList(impl.MchSize, d.anyCode), Save: d.below(70),
		Let: d.below(2) == 0, Waits: d.below(3) == 0, Ins: d.anyList(d.below(4), d.anyWord), Outs: d.anyList(d.below(4), d.anyWord), Count: d.below(50),
	}
	switch d.below(12) {
	case 0:
		m.Pc, m.Save = d.anyWord(), d.anyWord()
	case 1:
		m.Count = impl.MchMost - d.below(5)
	case 2:
		m.Halt = d.below(5)
	}
	return m
}

// goingMachine is one that does not stand still.
func (d *dice) goingMachine() impl.MchMach {
	m := d.anyMachine()
	m.Halt, m.Count = impl.HaltNone, m.Count%50
	return m
}

func TestMachineNumbers(t *testing.T) {
	got := []int{impl.MchSize, impl.MchVector, impl.MchMost, impl.MchMany, impl.HaltNone, impl.HaltStop, impl.HaltWord, impl.HaltReach, impl.HaltPlace}
	want := []int{64, 48, 1000000, 400, 0, 1, 2, 3, 4}
	for i := range want {
		if got[i] != want[i] {
			t.Errorf("constant %d of chapter 3 is %d, not %d", i, got[i], want[i])
		}
	}
}

// holdNoMachine fails unless a machine is answered as one that is not ok.
func holdNoMachine(t *testing.T, what string, m impl.MchMach) {
	t.Helper()
	if impl.MchOk(m) {
		t.Fatalf("%s: is not ok, but MchOk is true", what)
	}
	for _, irq := range []bool{false, true} {
		holdMachine(t, what+": MchStep", impl.MchStep(m, irq), impl.MchMach{})
	}
	for _, n := range []int{math.MinInt, -1, 0, 1, 10, impl.MchMany, impl.MchMany + 1, math.MaxInt} {
		holdMachine(t, what+": MchRun", impl.MchRun(m, []int{100}, n), impl.MchMach{})
	}
}

func TestP15WhatIsAMachine(t *testing.T) {
	base := goesOn([]string{"set a 1"}, nil)
	for what, turn := range map[string]func(m *impl.MchMach){
		"as it is":         func(m *impl.MchMach) {},
		"noughts":          func(m *impl.MchMach) { *m = impl.MchNew(nil, nil) },
		"registers at end": func(m *impl.MchMach) { m.Regs = []int{0, 65535, 65535, 0} },
		"words at end":     func(m *impl.MchMach) { m.Mem[0], m.Mem[63] = 65535, 65535 },
		"place 0":          func(m *impl.MchMach) { m.Pc, m.Save = 0, 0 },
		"place past words": func(m *impl.MchMach) { m.Pc, m.Save = 64, 64 },
		"place at end":     func(m *impl.MchMach) { m.Pc, m.Save = 65535, 65535 },
		"both":             func(m *impl.MchMach) { m.Let, m.Waits = true, true },
		"halt at end":      func(m *impl.MchMach) { m.Halt = impl.HaltPlace },
		"count 0":          func(m *impl.MchMach) { m.Count = 0 },
		"count at end":     func(m *impl.MchMach) { m.Count = impl.MchMost },
		"nothing in, out":  func(m *impl.MchMach) { m.Ins, m.Outs = nil, []int{} },
		"much in, out":     func(m *impl.MchMach) { m.Ins, m.Outs = mixedWords(5000), mixedWords(5000) },
		"ends in, out":     func(m *impl.MchMach) { m.Ins, m.Outs = []int{0, 65535}, []int{65535, 0} },
	} {
		m := turned(base, turn)
		if !impl.MchOk(m) {
			t.Errorf("%s: is ok, but MchOk is false", what)
		}
		holdMachine(t, what, impl.MchRun(m, nil, 0), m)
		holdMachine(t, what, impl.MchStep(m, false), wantedStep(m, false))
	}
}

func TestP15WhatIsNoMachine(t *testing.T) {
	base := goesOn([]string{"set a 1"}, nil)
	holdNoMachine(t, "nothing", impl.MchMach{})
	for what, turn := range map[string]func(m *impl.MchMach){
		"a register too few":  func(m *impl.MchMach) { m.Regs = m.Regs[:3] },
		"a register too many": func(m *impl.MchMach) { m.Regs = append(m.Regs, 0) },
		"no registers":        func(m *impl.MchMach) { m.Regs = nil },
		"a word too few":      func(m *impl.MchMach) { m.Mem = m.Mem[:63] },
		"a word too many":     func(m *impl.MchMach) { m.Mem = append(m.Mem, 0) },
		"no words":            func(m *impl.MchMach) { m.Mem = nil },
		"swapped":             func(m *impl.MchMach) { m.Regs, m.Mem = m.Mem, m.Regs },
		"halt below":          func(m *impl.MchMach) { m.Halt = -1 },
		"halt past":           func(m *impl.MchMach) { m.Halt = impl.HaltPlace + 1 },
		"count below":         func(m *impl.MchMach) { m.Count = -1 },
		"count past":          func(m *impl.MchMach) { m.Count = impl.MchMost + 1 },
		"least":               func(m *impl.MchMach) { m.Halt, m.Count = math.MinInt, math.MinInt },
		"least halt":          func(m *impl.MchMach) { m.Halt = math.MinInt },
		"most halt":           func(m *impl.MchMach) { m.Halt = math.MaxInt },
		"most count":          func(m *impl.MchMach) { m.Count = math.MaxInt },
		"much else":           func(m *impl.MchMach) { m.Halt, m.Mem = impl.HaltStop, append(m.Mem, m.Mem...) },
	} {
		holdNoMachine(t, what, turned(base, turn))
	}
}

func TestP15WhatIsNoWordInAMachine(t *testing.T) {
	base := goesOn([]string{"set a 1"}, nil)
	for _, n := range noWords {
		for r := range impl.InsRegs {
			holdNoMachine(t, "register", turned(base, func(m *impl.MchMach) { m.Regs[r] = n }))
		}
		for _, a := range []int{0, 5, 48, 63} {
			holdNoMachine(t, "word", turned(base, func(m *impl.MchMach) { m.Mem[a] = n }))
		}
		holdNoMachine(t, "place", turned(base, func(m *impl.MchMach) { m.Pc = n }))
		holdNoMachine(t, "saved place", turned(base, func(m *impl.MchMach) { m.Save = n }))
		holdNoMachine(t, "first in", turned(base, func(m *impl.MchMach) { m.Ins = []int{n, 1} }))
		holdNoMachine(t, "last in", turned(base, func(m *impl.MchMach) { m.Ins = []int{1, 2, n} }))
		holdNoMachine(t, "first out", turned(base, func(m *impl.MchMach) { m.Outs = []int{n, 1} }))
		holdNoMachine(t, "last out", turned(base, func(m *impl.MchMach) { m.Outs = []int{1, 2, n} }))
		holdNoMachine(t, "one that stands still", turned(base, func(m *impl.MchMach) { m.Halt, m.Outs = impl.HaltStop, []int{n} }))
	}
}

// A step of each kind, by hand: what turns beside the next place and the count.
func TestP15AStepOfEachKind(t *testing.T) {
	reached := func(m *impl.MchMach) { m.Halt, m.Pc, m.Count = impl.HaltReach, 5, 100 }
	for _, c := range []struct {
		line string
		turn func(m *impl.MchMach)
	}{
		{"stop", func(m *impl.MchMach) { m.Halt = impl.HaltStop }},
		{"return", func(m *impl.MchMach) { m.Pc, m.Let = 20, true }},
		{"let", func(m *impl.MchMach) { m.Let = true }},
		{"keep", func(m *impl.MchMach) { m.Let = false }},
		{"set d 255", func(m *impl.MchMach) { m.Regs[3] = 255 }},
		{"set a 0", func(m *impl.MchMach) { m.Regs[0] = 0 }},
		{"move a c", func(m *impl.MchMach) { m.Regs[0] = 65535 }},
		{"move b b", func(m *impl.MchMach) {}},
		{"add a b c", func(m *impl.MchMach) { m.Regs[0] = 299 }},
		{"sub c a d", func(m *impl.MchMach) { m.Regs[2] = 65533 }},
		{"sub c d a", func(m *impl.MchMach) { m.Regs[2] = 3 }},
		{"mul d b b", func(m *impl.MchMach) { m.Regs[3] = 24464 }},
		{"and a b a", func(m *impl.MchMach) { m.Regs[0] = 4 }},
		{"xor b a d", func(m *impl.MchMach) { m.Regs[1] = 13 }},
		{"shift b a 0", func(m *impl.MchMach) { m.Regs[1] = 7 }},
		{"shift b a 3", func(m *impl.MchMach) { m.Regs[1] = 56 }},
		{"shift a a 15", func(m *impl.MchMach) { m.Regs[0] = 32768 }},
		{"shift a b 15", func(m *impl.MchMach) { m.Regs[0] = 0 }},
		{"load b c 6", func(m *impl.MchMach) { m.Regs[1] = 38406 }},
		{"load b a 56", func(m *impl.MchMach) { m.Regs[1] = noInstruction }},
		{"load b a 57", reached},
		{"load b b 0", reached},
		{"load b c 0", reached},
		{"store d c 1", func(m *impl.MchMach) { m.Mem[0] = 10 }},
		{"store c a 56", func(m *impl.MchMach) { m.Mem[63] = 65535 }},
		{"store c a 57", reached},
		{"store c a 255", reached},
		{"store c c 0", reached},
		{"same b b 255", func(m *impl.MchMach) { m.Pc = 255 }},
		{"same a b 9", func(m *impl.MchMach) {}},
		{"less a d 0", func(m *impl.MchMach) { m.Pc = 0 }},
		{"less d a 0", func(m *impl.MchMach) {}},
		{"less a a 0", func(m *impl.MchMach) {}},
		{"less a c 63", func(m *impl.MchMach) { m.Pc = 63 }},
		{"less c a 63", func(m *impl.MchMach) {}},
		{"go d", func(m *impl.MchMach) { m.Pc = 10 }},
		{"go c", func(m *impl.MchMach) { m.Pc = 65535 }},
		{"out b", func(m *impl.MchMach) { m.Outs = []int{13, 300} }},
		{"in a", func(m *impl.MchMach) { m.Regs[0], m.Ins = 11, []int{12} }},
	} {
		for _, let := range []bool{false, true} {
			m := goesOn([]string{c.line}, nil)
			m.Let = let
			want := turned(m, func(m *impl.MchMach) {
				m.Pc, m.Count = 6, 101
				c.turn(m)
			})
			holdMachine(t, c.line, impl.MchStep(m, false), want)
			holdMachine(t, c.line+" by MchRun", impl.MchRun(m, nil, 1), want)
		}
	}
}

// Every word, at a place: what it says is done, and what says nothing stops the machine there.
func TestP15EveryWord(t *testing.T) {
	m := goesOn(nil, nil)
	for w := range impl.WrdMany {
		m.Mem[5] = w
		holdMachine(t, "the word "+decimals(w), impl.MchStep(m, w%2 == 0), wantedStep(m, w%2 == 0))
	}
}

func TestP15AMachineStaysAMachine(t *testing.T) {
	d := dice(2463534242)
	for range 40000 {
		m := d.anyMachine()
		irq := d.below(2) == 0
		if !impl.MchOk(m) {
			t.Fatalf("not ok: %+v", m)
		}
		x := impl.MchStep(m, irq)
		holdMachine(t, "a step", x, wantedStep(m, irq))
		if !impl.MchOk(x) {
			t.Fatalf("not ok behind a step: %+v", x)
		}
		switch {
		case m.Halt != impl.HaltNone || m.Count == impl.MchMost:
			holdMachine(t, "one that stands still", x, m)
		case x.Count == m.Count+1:
			if x.Halt != impl.HaltNone && x.Halt != impl.HaltStop {
				t.Fatalf("done, but it met what there is not: %+v", x)
			}
		case x.Count != m.Count || x.Halt < impl.HaltWord || !slices.Equal(x.Regs, m.Regs) || !slices.Equal(x.Mem, m.Mem):
			t.Fatalf("not done, but %+v", x)
		}
	}
}

// Where a machine meets what there is not nothing turns but how it stands.
func TestP15WhatThereIsNot(t *testing.T) {
	base := goesOn(nil, nil)
	for _, c := range []struct {
		m    impl.MchMach
		halt int
	}{
		{base, impl.HaltWord},
		{at(base, 0), impl.HaltWord},
		{at(base, 63), impl.HaltWord},
		{at(base, 64), impl.HaltPlace},
		{at(base, 65), impl.HaltPlace},
		{at(base, 65535), impl.HaltPlace},
		{at(base, 63, "load a a 57"), impl.HaltReach},
		{at(base, 0, "store a a 57"), impl.HaltReach},
		{at(base, 0, "load c c 65"), impl.HaltReach},
	} {
		for _, waits := range []bool{false, true} {
			c.m.Waits = waits
			want := turned(c.m, func(m *impl.MchMach) { m.Halt = c.halt })
			holdMachine(t, "what there is not", impl.MchStep(c.m, false), want)
			holdMachine(t, "what there is not, by MchRun", impl.MchRun(c.m, nil, 400), want)
		}
	}
}

func TestP15EdgesOfAPlace(t *testing.T) {
	m := at(goesOn(nil, nil), 63, "set a 1")
	x := impl.MchStep(m, false)
	holdMachine(t, "at the last place", x, turned(m, func(m *impl.MchMach) { m.Regs[0], m.Pc, m.Count = 1, 64, 101 }))
	holdMachine(t, "and behind it", impl.MchStep(x, false), turned(x, func(m *impl.MchMach) { m.Halt = impl.HaltPlace }))
	back := at(goesOn(nil, nil), 63, "same a a 0")
	holdMachine(t, "from the last place", impl.MchStep(back, false), turned(back, func(m *impl.MchMach) { m.Pc, m.Count = 0, 101 }))
	ends := turned(goesOn([]string{"return"}, nil), func(m *impl.MchMach) { m.Save = 65535 })
	holdMachine(t, "to no place", impl.MchStep(ends, false), turned(ends, func(m *impl.MchMach) { m.Pc, m.Let, m.Count = 65535, true, 101 }))
}

// The address is wrapped ahead of being looked at.
func TestP15EdgesOfAnAddress(t *testing.T) {
	for _, c := range [][3]int{{0, 63, 63}, {63, 0, 63}, {0, 64, -1}, {64, 0, -1}, {1, 63, -1}, {65535, 1, 0}, {65535, 64, 63}, {65535, 65, -1}, {65535, 0, -1}, {65281, 255, 0}, {65344, 255, 63}, {65345, 255, -1}, {65280, 255, -1}, {0, 255, -1}} {
		m := goesOn(nil, nil)
		m.Regs[0], m.Mem[0], m.Mem[63] = c[0], 1000, 2000
		m.Mem[5] = impl.InsPut(impl.InsIns{Op: impl.InsLoad, D: 1, A: 0, K: c[1]})
		x := turned(m, func(m *impl.MchMach) {
			m.Mem[5] = impl.InsPut(impl.InsIns{Op: impl.InsStore, D: 1, A: 0, K: c[1]})
		})
		loaded, stored := turned(m, func(m *impl.MchMach) { m.Halt = impl.HaltReach }), turned(x, func(m *impl.MchMach) { m.Halt = impl.HaltReach })
		if c[2] >= 0 {
			loaded = turned(m, func(m *impl.MchMach) { m.Regs[1], m.Pc, m.Count = m.Mem[c[2]], 6, 101 })
			stored = turned(x, func(m *impl.MchMach) { m.Mem[c[2]], m.Pc, m.Count = 300, 6, 101 })
		}
		holdMachine(t, "a load", impl.MchStep(m, false), loaded)
		holdMachine(t, "a store", impl.MchStep(x, false), stored)
	}
}

func TestP15AStoreOverTheCode(t *testing.T) {
	// The register c is 65535, so that the number less one is the address.
	m := goesOn([]string{"store b c 6", "set a 9"}, nil)
	x := impl.MchStep(m, false)
	holdMachine(t, "over the very instruction", x, turned(m, func(m *impl.MchMach) { m.Mem[5], m.Pc, m.Count = 300, 6, 101 }))
	holdMachine(t, "and on", impl.MchStep(x, false), turned(x, func(m *impl.MchMach) { m.Regs[0], m.Pc, m.Count = 9, 7, 102 }))
	next := goesOn([]string{"store b c 7", "set a 9"}, nil)
	next.Regs[1] = wordsOf("set a 44")[0]
	y := impl.MchRun(next, nil, 2)
	holdMachine(t, "over the next one", y, turned(next, func(m *impl.MchMach) { m.Mem[6], m.Regs[0], m.Pc, m.Count = m.Regs[1], 44, 7, 102 }))
	next.Regs[1] = noInstruction
	z := impl.MchRun(next, nil, 2)
	holdMachine(t, "over the next one, with nothing", z, turned(next, func(m *impl.MchMach) { m.Mem[6], m.Halt, m.Pc, m.Count = noInstruction, impl.HaltWord, 6, 101 }))
}

func TestP16WhatGoesOutAndComesIn(t *testing.T) {
	d := dice(88172645)
	for range 30000 {
		m := d.anyMachine()
		x := impl.MchStep(m, d.below(2) == 0)
		if len(x.Outs) < len(m.Outs) || len(x.Outs) > len(m.Outs)+1 || !slices.Equal(x.Outs[:len(m.Outs)], m.Outs) {
			t.Fatalf("%v went out, and then %v", m.Outs, x.Outs)
		}
		if !slices.Equal(x.Ins, m.Ins) && (len(m.Ins) == 0 || !slices.Equal(x.Ins, m.Ins[1:])) {
			t.Fatalf("%v was to come in, and then %v", m.Ins, x.Ins)
		}
	}
}

func TestP16InOrder(t *testing.T) {
	m := impl.MchNew(wordsOf("in a", "out a", "same d d 0"), []int{5, 0, 65535, 5, 9})
	x := impl.MchRun(m, nil, 12)
	if !slices.Equal(x.Outs, []int{5, 0, 65535, 5}) || !slices.Equal(x.Ins, []int{9}) {
		t.Fatalf("out %v, in %v", x.Outs, x.Ins)
	}
	y := impl.MchRun(m, nil, 400)
	if len(y.Outs) != 133 || !slices.Equal(y.Outs[:7], []int{5, 0, 65535, 5, 9, 0, 0}) || len(y.Ins) != 0 {
		t.Fatalf("out %v, in %v", y.Outs, y.Ins)
	}
}

func TestP17AnInterruptThatIsLetIn(t *testing.T) {
	m := goesOn([]string{"set a 1"}, []string{"set a 2"})
	m.Let = true
	want := turned(m, func(m *impl.MchMach) { m.Regs[0], m.Pc, m.Save, m.Let, m.Count = 2, 49, 5, false, 101 })
	holdMachine(t, "one comes", impl.MchStep(m, true), want)
	waits := turned(m, func(m *impl.MchMach) { m.Waits = true })
	holdMachine(t, "one waits", impl.MchStep(waits, false), want)
	holdMachine(t, "one waits, one comes", impl.MchStep(waits, true), want)
	holdMachine(t, "none", impl.MchStep(m, false), turned(m, func(m *impl.MchMach) { m.Regs[0], m.Pc, m.Count = 1, 6, 101 }))
	nowhere := at(m, 65535)
	holdMachine(t, "where there is no place", impl.MchStep(nowhere, true), turned(want, func(m *impl.MchMach) { m.Save = 65535 }))
}

func TestP17AnInterruptThatWaits(t *testing.T) {
	m := goesOn([]string{"set a 1", "let", "set a 3"}, []string{"out a", "return"})
	x := impl.MchStep(m, true)
	holdMachine(t, "it waits", x, turned(m, func(m *impl.MchMach) { m.Regs[0], m.Waits, m.Pc, m.Count = 1, true, 6, 101 }))
	holdMachine(t, "one more comes", impl.MchStep(turned(m, func(m *impl.MchMach) { m.Waits = true }), true), x)
	y := impl.MchStep(x, false)
	holdMachine(t, "behind the step that lets it in", y, turned(x, func(m *impl.MchMach) { m.Let, m.Pc, m.Count = true, 7, 102 }))
	z := impl.MchStep(y, false)
	holdMachine(t, "it comes", z, turned(y, func(m *impl.MchMach) {
		m.Outs, m.Let, m.Waits, m.Save, m.Pc, m.Count = []int{13, 1}, false, false, 7, 49, 103
	}))
	back := impl.MchStep(z, false)
	holdMachine(t, "and is left", back, turned(z, func(m *impl.MchMach) { m.Let, m.Pc, m.Count = true, 7, 104 }))
	for _, irqs := range [][]int{{100}, {101}, {102}, {100, 101}, {101, 100, 101, 102}, {100, 101, 102}} {
		holdMachine(t, "those that wait are one", impl.MchRun(m, irqs, 5), turned(back, func(m *impl.MchMach) { m.Regs[0], m.Pc, m.Count = 3, 8, 105 }))
	}
}

// One that comes while another one is at work waits for its return.
func TestP17OneBehindAnother(t *testing.T) {
	m := goesOn([]string{"set a 1", "set a 2"}, []string{"out a", "set d 0", "return"})
	m.Let = true
	first := impl.MchRun(m, []int{100, 101}, 3)
	holdMachine(t, "the first", first, turned(m, func(m *impl.MchMach) {
		m.Regs[3], m.Outs, m.Waits, m.Save, m.Pc, m.Count = 0, []int{13, 7}, true, 5, 5, 103
	}))
	second := impl.MchRun(m, []int{100, 101}, 8)
	holdMachine(t, "the second, and on", second, turned(m, func(m *impl.MchMach) {
		m.Regs[0], m.Regs[3], m.Outs, m.Save, m.Pc, m.Count = 2, 0, []int{13, 7, 7}, 5, 7, 108
	}))
}

// keep shuts out what comes at the next step, not what comes ahead of it.
func TestP17KeptOut(t *testing.T) {
	m := goesOn([]string{"keep", "set a 1"}, []string{"set a 2"})
	m.Let = true
	holdMachine(t, "ahead", impl.MchStep(m, true), turned(m, func(m *impl.MchMach) { m.Regs[0], m.Let, m.Save, m.Pc, m.Count = 2, false, 5, 49, 101 }))
	holdMachine(t, "behind", impl.MchRun(m, []int{101}, 2), turned(m, func(m *impl.MchMach) { m.Regs[0], m.Let, m.Waits, m.Pc, m.Count = 1, false, true, 7, 102 }))
}

func TestP17AheadOfAStepThatHalts(t *testing.T) {
	for _, c := range []struct {
		line string
		halt int
		done int
	}{{"stop", impl.HaltStop, 1}, {"load a b 0", impl.HaltReach, 0}, {"store a b 0", impl.HaltReach, 0}, {"", impl.HaltWord, 0}} {
		lines := []string{}
		if c.line != "" {
			lines = []string{c.line}
		}
		in := goesOn([]string{"set a 1"}, lines)
		in.Let = true
		holdMachine(t, "let in: "+c.line, impl.MchStep(in, true), turned(in, func(m *impl.MchMach) {
			m.Halt, m.Let, m.Save, m.Pc, m.Count = c.halt, false, 5, 48+c.done, 100+c.done
		}))
		out := goesOn(lines, []string{"set a 1"})
		holdMachine(t, "kept out: "+c.line, impl.MchStep(out, true), turned(out, func(m *impl.MchMach) {
			m.Halt, m.Waits, m.Pc, m.Count = c.halt, true, 5+c.done, 100+c.done
		}))
		holdMachine(t, "by MchRun: "+c.line, impl.MchRun(out, []int{100}, 400), impl.MchStep(out, true))
	}
	nowhere := at(goesOn(nil, nil), 64)
	holdMachine(t, "kept out, and no place", impl.MchStep(nowhere, true), turned(nowhere, func(m *impl.MchMach) { m.Halt, m.Waits = impl.HaltPlace, true }))
}

func TestP17AnInterruptIsAStepAtTheVector(t *testing.T) {
	d := dice(362436069)
	for range 30000 {
		m := d.goingMachine()
		irq := d.below(2) == 0
		x := impl.MchStep(m, irq)
		switch {
		case (irq || m.Waits) && m.Let:
			there := turned(m, func(m *impl.MchMach) { m.Save, m.Pc, m.Let, m.Waits = m.Pc, impl.MchVector, false, false })
			holdMachine(t, "let in", x, impl.MchStep(there, false))
		case irq || m.Waits:
			waiting := turned(m, func(m *impl.MchMach) { m.Waits = true })
			holdMachine(t, "kept out", x, impl.MchStep(waiting, false))
			if !x.Waits {
				t.Fatalf("it does not wait: %+v", x)
			}
		case x.Waits:
			t.Fatalf("one waits that never came: %+v", x)
		}
	}
}

func TestP18ARunIsItsSteps(t *testing.T) {
	d := dice(521288629)
	for range 1500 {
		m := d.anyMachine()
		irqs := d.anyList(d.below(8), func() int { return m.Count - 3 + d.below(40) })
		for _, n := range []int{-1, 0, 1, 2, 3, 5, 20, 60, impl.MchMany} {
			holdMachine(t, "a run", impl.MchRun(m, irqs, n), wantedRun(m, irqs, n))
		}
		holdMachine(t, "one is a step", impl.MchRun(m, irqs, 1), impl.MchStep(m, slices.Contains(irqs, m.Count)))
	}
}

func TestP18FirstStepsAndThenTheOthers(t *testing.T) {
	d := dice(123456789)
	for range 1500 {
		m := d.anyMachine()
		irqs := d.anyList(d.below(8), func() int { return m.Count - 3 + d.below(40) })
		a, b := d.below(200), d.below(200)
		if d.below(3) > 0 {
			a, b = a%12, b%12
		}
		holdMachine(t, "first, and then", impl.MchRun(impl.MchRun(m, irqs, a), irqs, b), impl.MchRun(m, irqs, a+b))
	}
}

func TestP18HowMany(t *testing.T) {
	m := impl.MchNew(wordsOf("add a a b", "same c c 0"), nil)
	m.Regs[1] = 1
	for _, n := range []int{0, -1, -400, -401, math.MinInt} {
		holdMachine(t, "none to do", impl.MchRun(m, []int{0}, n), m)
	}
	for _, n := range []int{1, 2, 399, 400} {
		holdMachine(t, "to do", impl.MchRun(m, nil, n), turned(m, func(m *impl.MchMach) { m.Regs[0], m.Pc, m.Count = (n+1)/2, n%2, n }))
	}
	for _, n := range []int{401, 402, 1000000, 1 << 32, 1<<32 + 1, math.MaxInt} {
		holdMachine(t, "too many", impl.MchRun(m, nil, n), impl.MchMach{})
		holdMachine(t, "too many of one that stands still", impl.MchRun(turned(m, func(m *impl.MchMach) { m.Halt = 1 }), nil, n), impl.MchMach{})
	}
}

// However interrupts are told, it is their numbers alone that tell.
func TestP18AnyInterrupts(t *testing.T) {
	m := goesOn([]string{"set a 1", "set a 2", "set a 3", "set a 4", "set a 5"}, []string{"out a", "return"})
	m.Let = true
	want := impl.MchRun(m, []int{101, 104}, 9)
	if !slices.Equal(want.Outs, []int{13, 1, 2}) || want.Count != 109 || want.Pc != 10 || want.Halt != impl.HaltNone {
		t.Fatalf("%+v", want)
	}
	for _, irqs := range [][]int{{104, 101}, {101, 101, 104, 104, 101}, {-1, 101, 104}, {math.MinInt, 104, 0, 101, math.MaxInt}, {99, 104, 101, 109, 110}, {5000, 104, -104, 101, -101, 1000000, 1000001}, append(slices.Repeat([]int{-7}, 100000), 104, 101)} {
		holdMachine(t, "interrupts", impl.MchRun(m, irqs, 9), want)
	}
}

func TestP18TheCountAtItsEnd(t *testing.T) {
	m := goesOn([]string{"set a 1", "set a 2"}, []string{"set a 3"})
	m.Count = impl.MchMost - 1
	x := turned(m, func(m *impl.MchMach) { m.Regs[0], m.Pc, m.Count = 1, 6, impl.MchMost })
	holdMachine(t, "the last one", impl.MchStep(m, false), x)
	for _, n := range []int{1, 2, 400} {
		holdMachine(t, "no more than the last one", impl.MchRun(m, []int{impl.MchMost}, n), x)
	}
	stops := turned(m, func(m *impl.MchMach) { m.Mem[5] = 0 })
	holdMachine(t, "a stop", impl.MchRun(stops, nil, 9), turned(stops, func(m *impl.MchMach) { m.Halt, m.Pc, m.Count = impl.HaltStop, 6, impl.MchMost }))
	two := turned(m, func(m *impl.MchMach) { m.Count-- })
	holdMachine(t, "the last two", impl.MchRun(two, nil, 400), turned(two, func(m *impl.MchMach) { m.Regs[0], m.Pc, m.Count = 2, 7, impl.MchMost }))
}

func TestP19AtTheBeginning(t *testing.T) {
	for _, many := range []int{0, 1, 2, 63, 64} {
		for _, ins := range [][]int{nil, {}, {0}, {65535, 0, 7}, mixedWords(3000)} {
			words := mixedWords(64)[:many]
			m := impl.MchNew(words, ins)
			holdMachine(t, "new", m, impl.MchMach{Regs: []int{0, 0, 0, 0}, Mem: append(slices.Clone(words), make([]int, 64-many)...), Ins: ins})
			if !impl.MchOk(m) {
				t.Fatalf("not ok: %+v", m)
			}
		}
	}
	ends := impl.MchNew([]int{65535, 0, 65535}, []int{65535})
	if !impl.MchOk(ends) || ends.Mem[0] != 65535 || ends.Mem[2] != 65535 || ends.Mem[3] != 0 || ends.Ins[0] != 65535 {
		t.Fatalf("%+v", ends)
	}
}

func TestP19WhatIsNoBeginning(t *testing.T) {
	for _, many := range []int{65, 66, 128, 100000} {
		holdMachine(t, "too many words", impl.MchNew(make([]int, many), nil), impl.MchMach{})
		holdMachine(t, "too many words", impl.MchNew(make([]int, many), []int{1}), impl.MchMach{})
	}
	for _, n := range noWords {
		for _, place := range []int{0, 31, 63} {
			words := mixedWords(64)
			words[place] = n
			holdMachine(t, "no word to keep", impl.MchNew(words, []int{1}), impl.MchMach{})
			ins := mixedWords(64)
			ins[place] = n
			holdMachine(t, "no word to come in", impl.MchNew([]int{1}, ins), impl.MchMach{})
		}
		holdMachine(t, "no word in either", impl.MchNew([]int{n}, []int{n}), impl.MchMach{})
		holdMachine(t, "no word, and too many", impl.MchNew(append(make([]int, 64), n), nil), impl.MchMach{})
	}
}

// holdStill fails unless a machine goes on no more.
func holdStill(t *testing.T, what string, m impl.MchMach) {
	t.Helper()
	for _, irq := range []bool{false, true} {
		holdMachine(t, what+": MchStep", impl.MchStep(m, irq), m)
	}
	for _, n := range []int{math.MinInt, -1, 0, 1, 2, 100, impl.MchMany} {
		for _, irqs := range [][]int{nil, {m.Count}, {m.Count, m.Count + 1}, {0, -1, 1000000}} {
			holdMachine(t, what+": MchRun", impl.MchRun(m, irqs, n), m)
		}
	}
}

func TestP20WhatStandsStill(t *testing.T) {
	base := goesOn([]string{"set a 1", "in a", "out a"}, []string{"set a 2", "in a", "out a"})
	for _, let := range []bool{false, true} {
		for _, waits := range []bool{false, true} {
			base.Let, base.Waits = let, waits
			for halt := impl.HaltStop; halt <= impl.HaltPlace; halt++ {
				holdStill(t, "by Halt", turned(base, func(m *impl.MchMach) { m.Halt = halt }))
				holdStill(t, "by Halt, at no place", turned(base, func(m *impl.MchMach) { m.Halt, m.Pc = halt, 65535 }))
				holdStill(t, "by both", turned(base, func(m *impl.MchMach) { m.Halt, m.Count = halt, impl.MchMost }))
			}
			holdStill(t, "by Count", turned(base, func(m *impl.MchMach) { m.Count = impl.MchMost }))
			holdStill(t, "by Count, at no place", turned(base, func(m *impl.MchMach) { m.Count, m.Pc = impl.MchMost, 64 }))
		}
	}
}

func TestP20WhereverARunStops(t *testing.T) {
	d := dice(777767777)
	seen := map[int]int{}
	for range 3000 {
		m := d.anyMachine()
		x := impl.MchRun(m, []int{m.Count + d.below(9)}, impl.MchMany)
		if x.Halt != impl.HaltNone || x.Count == impl.MchMost {
			seen[x.Halt]++
			holdStill(t, "behind a run", x)
		}
	}
	for halt := impl.HaltNone; halt <= impl.HaltPlace; halt++ {
		if seen[halt] == 0 {
			t.Errorf("no run ended with %d", halt)
		}
	}
}

func TestP20EachWayToStop(t *testing.T) {
	for _, c := range []struct {
		m           impl.MchMach
		halt        int
		place, done int
	}{
		{goesOn([]string{"set a 1", "stop", "set a 2"}, nil), impl.HaltStop, 7, 102},
		{goesOn([]string{"set a 1"}, nil), impl.HaltWord, 6, 101},
		{goesOn([]string{"set a 1", "load a b 0", "set a 2"}, nil), impl.HaltReach, 6, 101},
		{goesOn([]string{"set a 1", "store a b 0", "set a 2"}, nil), impl.HaltReach, 6, 101},
		{goesOn([]string{"set a 1", "go b"}, nil), impl.HaltPlace, 300, 102},
		{goesOn([]string{"set a 1", "go c"}, nil), impl.HaltPlace, 65535, 102},
		{goesOn([]string{"set a 1", "same a a 64"}, nil), impl.HaltPlace, 64, 102},
		{at(goesOn(nil, nil), 63, "set a 1"), impl.HaltPlace, 64, 101},
	} {
		want := turned(c.m, func(m *impl.MchMach) { m.Regs[0], m.Halt, m.Pc, m.Count = 1, c.halt, c.place, c.done })
		x := impl.MchRun(c.m, nil, impl.MchMany)
		holdMachine(t, "it stops there", x, want)
		holdStill(t, "and stays", x)
	}
}

// quiet is a going machine to which no interrupt comes.
func (d *dice) quiet() impl.MchMach {
	m := d.goingMachine()
	m.Waits = m.Waits && !m.Let
	return m
}

// differing is how many words of two lists differ.
func differing(a, b []int) int {
	out := 0
	for at := range a {
		if a[at] != b[at] {
			out++
		}
	}
	return out
}

func TestP60OneRegisterOrOneWordAtMost(t *testing.T) {
	d := dice(192837465)
	registers, words := 0, 0
	for range 40000 {
		m := d.quiet()
		x := impl.MchStep(m, false)
		regs, mem := differing(m.Regs, x.Regs), differing(m.Mem, x.Mem)
		if regs+mem > 1 {
			t.Fatalf("%d registers and %d words turned:\n%+v\n%+v", regs, mem, m, x)
		}
		registers, words = registers+regs, words+mem
	}
	if registers == 0 || words == 0 {
		t.Fatalf("%d registers and %d words turned in all", registers, words)
	}
}

func TestP61BehindAnInstructionIsTheNextPlace(t *testing.T) {
	d := dice(918273645)
	for range 40000 {
		m := d.quiet()
		x := impl.MchStep(m, false)
		if x.Halt != impl.HaltNone {
			continue
		}
		i, says := impl.InsTake(m.Mem[m.Pc])
		switch {
		case !says:
			t.Fatalf("it went on where there is no instruction: %+v", m)
		case i.Op == impl.InsSame || i.Op == impl.InsLess:
			if x.Pc != m.Pc+1 && x.Pc != i.K {
				t.Fatalf("%q at %d leads to %d", impl.InsText(i), m.Pc, x.Pc)
			}
		case i.Op != impl.InsGo && i.Op != impl.InsStop:
			if x.Pc != m.Pc+1 {
				t.Fatalf("%q at %d leads to %d", impl.InsText(i), m.Pc, x.Pc)
			}
		}
	}
}

// From each place, the last one too, and to each number, whether there is such a place or not.
func TestP61EachPlace(t *testing.T) {
	base := goesOn(nil, nil)
	for place := range impl.MchSize {
		for _, line := range []string{"let", "keep", "set a 1", "move a b", "add a b c", "shift a b 1", "load a c 1", "store a c 1", "out a", "in a", "same a b 9", "less b a 9"} {
			m := at(base, place, line)
			if x := impl.MchStep(m, false); x.Pc != place+1 || x.Halt != impl.HaltNone || x.Count != 101 {
				t.Fatalf("%q at %d leads to %d", line, place, x.Pc)
			}
		}
	}
	for number := range 256 {
		for _, i := range []impl.InsIns{{Op: impl.InsSame, D: 2, A: 2, K: number}, {Op: impl.InsLess, D: 0, A: 2, K: number}} {
			m := goesOn(nil, nil)
			m.Mem[5] = impl.InsPut(i)
			if x := impl.MchStep(m, false); x.Pc != number || x.Halt != impl.HaltNone || x.Count != 101 {
				t.Fatalf("%q leads to %d", impl.InsText(i), x.Pc)
			}
		}
	}
}

func TestP62ToShiftIsToDouble(t *testing.T) {
	for _, w := range append(edgeWords(), mixedWords(300)...) {
		worth := w
		for k := range 16 {
			m := goesOn(nil, nil)
			m.Regs[1] = w
			m.Mem[5] = impl.InsPut(impl.InsIns{Op: impl.InsShift, D: 2, A: 1, K: k})
			x := impl.MchStep(m, false)
			if x.Regs[2] != worth || x.Regs[1] != w {
				t.Fatalf("%d, shifted by %d, is %d, not %d", w, k, x.Regs[2], worth)
			}
			adds := goesOn(append([]string{"move c b"}, slices.Repeat([]string{"add c c c"}, k)...), nil)
			adds.Regs[1] = w
			if y := impl.MchRun(adds, nil, k+1); !slices.Equal(x.Regs, y.Regs) {
				t.Fatalf("%d, shifted by %d: %v, doubled: %v", w, k, x.Regs, y.Regs)
			}
			worth = worth * 2 % impl.WrdMany
		}
	}
}

// A shift of a register into itself, each register into each.
func TestP62EachRegister(t *testing.T) {
	for to := range impl.InsRegs {
		for from := range impl.InsRegs {
			for _, k := range []int{0, 1, 15} {
				m := goesOn(nil, nil)
				m.Mem[5] = impl.InsPut(impl.InsIns{Op: impl.InsShift, D: to, A: from, K: k})
				want := turned(m, func(m *impl.MchMach) {
					m.Regs[to], m.Pc, m.Count = m.Regs[from]<<k%impl.WrdMany, 6, 101
				})
				holdMachine(t, "a shift", impl.MchStep(m, false), want)
			}
		}
	}
}

func TestP63WhoComesBackIsWhereItWas(t *testing.T) {
	d := dice(55555333)
	for range 20000 {
		m := d.goingMachine()
		m.Let = true
		m.Mem[impl.MchVector] = wordsOf("return")[0]
		want := turned(m, func(m *impl.MchMach) { m.Save, m.Waits, m.Count = m.Pc, false, m.Count+1 })
		holdMachine(t, "there and back", impl.MchStep(m, true), want)
	}
	for _, place := range []int{0, 47, 48, 49, 63, 64, 65535} {
		m := at(goesOn(nil, []string{"return"}), place)
		m.Let = true
		holdMachine(t, "there and back", impl.MchStep(m, true), turned(m, func(m *impl.MchMach) { m.Save, m.Count = place, 101 }))
	}
}

func TestP64WordsComeInInOrder(t *testing.T) {
	for register, line := range []string{"in a", "in b", "in c", "in d"} {
		for _, ins := range [][]int{nil, {}, {0}, {65535}, {8, 9}, {0, 9, 8}} {
			m := impl.MchNew(wordsOf(line), ins)
			m.Regs = []int{1, 2, 3, 4}
			want := turned(m, func(m *impl.MchMach) {
				m.Regs[register], m.Pc, m.Count = 0, 1, 1
				if len(ins) > 0 {
					m.Regs[register], m.Ins = ins[0], ins[1:]
				}
			})
			holdMachine(t, line, impl.MchStep(m, false), want)
		}
	}
	m := impl.MchNew(wordsOf("in a", "in b", "in c", "in d", "in a"), []int{6, 5, 4})
	m.Regs = []int{9, 9, 9, 9}
	holdMachine(t, "and then noughts", impl.MchRun(m, nil, 4), turned(m, func(m *impl.MchMach) { m.Regs, m.Pc, m.Count, m.Ins = []int{6, 5, 4, 0}, 4, 4, nil }))
	holdMachine(t, "and noughts again", impl.MchRun(m, nil, 5), turned(m, func(m *impl.MchMach) { m.Regs, m.Pc, m.Count, m.Ins = []int{0, 5, 4, 0}, 5, 5, nil }))
}

// What an interrupt ahead of the step that meets what there is not turns is turned: it was there ahead of that step.
func TestP80WhatComesLaterMakesNoDifference(t *testing.T) {
	d := dice(424242421)
	for range 3000 {
		m := d.anyMachine()
		irqs := d.anyList(d.below(5), func() int { return m.Count + d.below(30) })
		n := d.below(30)
		x := impl.MchRun(m, irqs, n)
		later := []int{m.Count + n, m.Count + n + 1, x.Count + 1, x.Count + 1 + d.below(1000), m.Count - 1, -1, math.MaxInt, math.MinInt, impl.MchMost, impl.MchMost + 1}
		if x.Halt <= impl.HaltStop {
			later = append(later, x.Count)
		}
		for _, number := range later {
			holdMachine(t, "one more, later", impl.MchRun(m, append([]int{number}, irqs...), n), x)
		}
		holdMachine(t, "all of them", impl.MchRun(m, append(later, irqs...), n), x)
	}
}

func TestP80AheadOfWhatIsDone(t *testing.T) {
	m := goesOn([]string{"set a 1", "set a 2", "set a 3"}, []string{"set b 1"})
	m.Let = true
	x := impl.MchRun(m, nil, 2)
	for _, number := range []int{102, 103, 500, 99, 0, -100} {
		holdMachine(t, "not ahead of one that is done", impl.MchRun(m, []int{number}, 2), x)
	}
	for _, number := range []int{100, 101} {
		if sameMachine(impl.MchRun(m, []int{number}, 2), x) {
			t.Fatalf("an interrupt ahead of instruction %d makes no difference", number)
		}
	}
}

// listsOf are a machine's lists with their spare room.
func listsOf(m impl.MchMach) [][]int {
	return [][]int{m.Regs[:cap(m.Regs)], m.Mem[:cap(m.Mem)], m.Ins[:cap(m.Ins)], m.Outs[:cap(m.Outs)]}
}

// lent is a machine whose lists have spare room, which a careless hand would write into.
func lent(m impl.MchMach) impl.MchMach {
	for _, list := range []*[]int{&m.Regs, &m.Mem, &m.Ins, &m.Outs} {
		*list = append(slices.Clone(*list), 7001, 7002, 7003)[:len(*list)]
	}
	return m
}

// held are copies of lists.
func held(lists [][]int) [][]int {
	out := make([][]int, len(lists))
	for at, list := range lists {
		out[at] = slices.Clone(list)
	}
	return out
}

// holdApart fails if writing into a list of an answer, spare room included, is seen in another one of it, or in what was given.
func holdApart(t *testing.T, answer impl.MchMach, given [][]int) {
	t.Helper()
	lists := append(listsOf(answer), given...)
	for which, list := range listsOf(answer) {
		before := held(lists)
		for at := range list {
			list[at] = -5 - which
		}
		for other := range lists {
			if other != which && !slices.Equal(lists[other], before[other]) {
				t.Fatalf("lists %d and %d share memory", which, other)
			}
		}
	}
}

func TestP15NothingIsWrittenIntoOrShared(t *testing.T) {
	d := dice(271828182)
	for range 3000 {
		plain := d.anyMachine()
		m := lent(plain)
		irqs := append(d.anyList(3, func() int { return plain.Count + d.below(9) }), 7001)[:3]
		given := append(listsOf(m), irqs[:4])
		before := held(given)
		n := d.below(60)
		answers := []impl.MchMach{impl.MchStep(m, false), impl.MchStep(m, true), impl.MchRun(m, irqs, n), impl.MchRun(m, irqs, n), impl.MchRun(m, irqs, 0), impl.MchRun(m, irqs, -1)}
		want := []impl.MchMach{wantedStep(plain, false), wantedStep(plain, true), wantedRun(plain, irqs, n), wantedRun(plain, irqs, n), plain, plain}
		for at := range given {
			if !slices.Equal(given[at], before[at]) {
				t.Fatalf("list %d was %v, and now %v", at, before[at], given[at])
			}
		}
		for at, answer := range answers {
			holdMachine(t, "an answer ahead of others that are written into", answer, want[at])
			holdApart(t, answer, given)
		}
	}
}

func TestP19NothingIsWrittenIntoOrShared(t *testing.T) {
	for _, many := range []int{0, 1, 63, 64} {
		words := append(mixedWords(many), 7001, 7002)[:many]
		ins := append(mixedWords(many), 7003, 7004)[:many]
		given := [][]int{words[:cap(words)], ins[:cap(ins)]}
		before := held(given)
		m := impl.MchNew(words, ins)
		if !slices.Equal(given[0], before[0]) || !slices.Equal(given[1], before[1]) {
			t.Fatalf("what was given is written into: %v", given)
		}
		holdApart(t, m, given)
		both := impl.MchNew(words, words)
		holdApart(t, both, given)
		holdMachine(t, "nothing is kept", impl.MchNew(words, ins), impl.MchMach{Regs: make([]int, 4), Mem: append(slices.Clone(words), make([]int, 64-many)...), Ins: slices.Clone(ins)})
	}
}

// A machine whose lists lie over each other is answered as one whose lists do not.
func TestP15ListsOverEachOther(t *testing.T) {
	d := dice(314159265)
	for range 2000 {
		plain := d.goingMachine()
		m := plain
		m.Regs, m.Ins, m.Outs = m.Mem[10:14], m.Mem[12:15], m.Mem[20:22]
		given := [][]int{m.Mem}
		before := held(given)
		want := wantedRun(m, []int{plain.Count}, 30)
		x := impl.MchRun(m, []int{plain.Count}, 30)
		holdMachine(t, "lists over each other", x, want)
		if !slices.Equal(m.Mem, before[0]) {
			t.Fatalf("what was given is written into: %v, then %v", before[0], m.Mem)
		}
		holdApart(t, x, given)
	}
}
