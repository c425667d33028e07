package tests

import (
	"math"
	"slices"
	"testing"

	"loop.example/latimer/impl"
)

// The signatures that the document gives; another one would not compile here.
var (
	_ func(impl.SymSym, impl.SymSym) bool   = impl.SymSame
	_ func(impl.IrBlock, impl.IrBlock) bool = impl.IrSame
	_ func(impl.IrBlock, impl.IrBlock) bool = impl.ChkSame
)

// holdSymSame fails unless SymSame of two is as wanted, both ways, and true of each and itself.
func holdSymSame(t *testing.T, what string, a, b impl.SymSym, want bool) {
	t.Helper()
	if there, back := impl.SymSame(a, b), impl.SymSame(b, a); there != want || back != want {
		t.Fatalf("%s: %v, and %v the other way round, not %v, of\n%+v\n%+v", what, there, back, want, a, b)
	}
	if want && len(a.Events) != len(b.Events) {
		t.Fatalf("%s: the same, but %d events and %d", what, len(a.Events), len(b.Events))
	}
	for _, s := range []impl.SymSym{a, b} {
		if !impl.SymSame(s, s) || !impl.SymSame(s, wholePlain(s)) || !impl.SymSame(wholePlain(s), s) {
			t.Fatalf("%s: is not the same as itself: %+v", what, s)
		}
	}
}

// holdIrSame fails unless IrSame of two is as wanted, both ways, and true of each and itself.
func holdIrSame(t *testing.T, what string, b, c impl.IrBlock, want bool) {
	t.Helper()
	if there, back := impl.IrSame(b, c), impl.IrSame(c, b); there != want || back != want {
		t.Fatalf("%s: %v, and %v the other way round, not %v, of\n%+v\n%+v", what, there, back, want, b, c)
	}
	for _, x := range []impl.IrBlock{b, c} {
		other := turnedCode(x, func(*impl.IrBlock) {})
		if !impl.IrSame(x, x) || !impl.IrSame(x, other) || !impl.IrSame(other, x) {
			t.Fatalf("%s: is not the same as itself: %+v", what, x)
		}
	}
}

// wantedStand is what the document asks of ChkSame.
func wantedStand(b, c impl.IrBlock) bool {
	if !wantedCode(b) || !wantedCode(c) || b.Pc != c.Pc || b.Len != c.Len {
		return false
	}
	tab, first := wantedSight(fourRegisters(), b)
	_, second := wantedSight(tab, c)
	return sameBlock(b, c) || sameSym(first, second)
}

// kindsOf is how many operations of each kind that reaches out code has.
func kindsOf(b impl.IrBlock) [4]int {
	var out [4]int
	for _, place := range reachingOps(b) {
		out[b.Ops[place].Kind-4]++
	}
	return out
}

// holdStands fails unless ChkSame of two is as wanted, both ways; and, if it is true, unless both have as many operations of each kind that reaches out, for as many instructions at one place.
func holdStands(t *testing.T, what string, b, c impl.IrBlock, want bool) {
	t.Helper()
	if there, back := impl.ChkSame(b, c), impl.ChkSame(c, b); there != want || back != want {
		t.Fatalf("%s: %v, and %v the other way round, not %v, of\n%+v\n%+v", what, there, back, want, b, c)
	}
	if !want {
		return
	}
	if impl.IrEvents(b) != impl.IrEvents(c) || b.Pc != c.Pc || b.Len != c.Len {
		t.Fatalf("%s: one may stand for the other, but they have %d and %d operations that reach out, at %d and %d, for %d and %d", what, impl.IrEvents(b), impl.IrEvents(c), b.Pc, c.Pc, b.Len, c.Len)
	}
	if kindsOf(b) != kindsOf(c) {
		t.Fatalf("%s: one may stand for the other, but they load, store, let in and out %v and %v", what, kindsOf(b), kindsOf(c))
	}
}

// alike says whether IrRun of two pieces of code leaves a machine alike.
func alike(b, c impl.IrBlock, m impl.MchMach) bool {
	x, xOk := impl.IrRun(b, m)
	y, yOk := impl.IrRun(c, m)
	return xOk == yOk && sameMachine(x, y)
}

// holdAlike fails unless IrRun of two pieces of code leaves a machine alike.
func holdAlike(t *testing.T, what string, b, c impl.IrBlock, m impl.MchMach) {
	t.Helper()
	if !alike(b, c, m) {
		x, _ := impl.IrRun(b, m)
		y, _ := impl.IrRun(c, m)
		t.Fatalf("%s:\n%+v\n%+v\nleave %+v as\n%+v and\n%+v", what, b, c, m, x, y)
	}
}

// otherNumbers are some that differ from one, those among them that are the same when wrapped.
func otherNumbers(n int) []int {
	return []int{n + 1, n - 1, n + 65536, n - 65536, n + 1<<32, n ^ math.MinInt}
}

// turnsOf are lists that differ from one in one thing: a thing of it turned, one more at any place, or one less.
func turnsOf[T any](list []T, more []T, turns func(T) []T) [][]T {
	var out [][]T
	for place, x := range list {
		for _, y := range turns(x) {
			out = append(out, put(list, place, y))
		}
		out = append(out, slices.Delete(slices.Clone(list), place, place+1))
	}
	for place := range len(list) + 1 {
		for _, y := range more {
			out = append(out, slices.Insert(slices.Clone(list), place, y))
		}
	}
	return out
}

func turnsOfPart(x impl.TrmMono) []impl.TrmMono {
	var out []impl.TrmMono
	for _, n := range otherNumbers(x.Coef) {
		out = append(out, part(n, x.Atoms...))
	}
	for _, atoms := range turnsOf(x.Atoms, []int{0, 199}, otherNumbers) {
		out = append(out, part(x.Coef, atoms...))
	}
	return out
}

func turnsOfSum(p impl.TrmPoly) []impl.TrmPoly {
	var out []impl.TrmPoly
	for _, parts := range turnsOf(p.Monos, []impl.TrmMono{part(0), part(1), part(1, 199)}, turnsOfPart) {
		out = append(out, sumOf(parts...))
	}
	return out
}

func turnsOfSums(list []impl.TrmPoly) [][]impl.TrmPoly {
	return turnsOf(list, sumsOf(nothing, impl.PolAtom(3)), turnsOfSum)
}

func turnsOfEvent(e impl.SymEvent) []impl.SymEvent {
	var out []impl.SymEvent
	for _, n := range otherNumbers(e.Kind) {
		out = append(out, impl.SymEvent{Kind: n, At: e.At, X: e.X, Y: e.Y, Regs: e.Regs})
	}
	for _, n := range otherNumbers(e.At) {
		out = append(out, impl.SymEvent{Kind: e.Kind, At: n, X: e.X, Y: e.Y, Regs: e.Regs})
	}
	for _, p := range turnsOfSum(e.X) {
		out = append(out, impl.SymEvent{Kind: e.Kind, At: e.At, X: p, Y: e.Y, Regs: e.Regs})
	}
	for _, p := range turnsOfSum(e.Y) {
		out = append(out, impl.SymEvent{Kind: e.Kind, At: e.At, X: e.X, Y: p, Regs: e.Regs})
	}
	for _, regs := range turnsOfSums(e.Regs) {
		out = append(out, impl.SymEvent{Kind: e.Kind, At: e.At, X: e.X, Y: e.Y, Regs: regs})
	}
	return out
}

// turnsOfSym are those that differ from what is seen in one thing.
func turnsOfSym(s impl.SymSym) []impl.SymSym {
	var out []impl.SymSym
	turned := func(turn func(s *impl.SymSym)) {
		other := s
		turn(&other)
		out = append(out, other)
	}
	for _, events := range turnsOf(s.Events, []impl.SymEvent{{}, inEvent(0)}, turnsOfEvent) {
		turned(func(s *impl.SymSym) { s.Events = events })
	}
	for _, regs := range turnsOfSums(s.Regs) {
		turned(func(s *impl.SymSym) { s.Regs = regs })
	}
	for _, n := range otherNumbers(s.End) {
		turned(func(s *impl.SymSym) { s.End = n })
	}
	for _, n := range otherNumbers(s.K) {
		turned(func(s *impl.SymSym) { s.K = n })
	}
	for _, p := range turnsOfSum(s.X) {
		turned(func(s *impl.SymSym) { s.X = p })
	}
	for _, p := range turnsOfSum(s.Y) {
		turned(func(s *impl.SymSym) { s.Y = p })
	}
	return out
}

// someSyms are what is seen of some code, and what is seen of none.
func someSyms() []impl.SymSym {
	_, each := impl.SymRun(fourRegisters(), eachKind())
	_, many := impl.SymRun(fourRegisters(), impl.BlkLower(3, insOf("load a b 3", "add a a b", "xor c a b", "store c d 4", "in a", "out a", "less b a 3")))
	long := sumOf(part(2), part(1, 0), part(65535, 3), part(7, 0, 1), part(9, 1, 1, 2, 199))
	return []impl.SymSym{
		noSym,
		each,
		many,
		{Regs: fourSums(), End: impl.EndGo, K: 20},
		{Events: []impl.SymEvent{storeEvent(1, long, impl.PolAtom(4), sumsOf(long, nothing, long, long))}, Regs: fourSums(), End: impl.EndSame, X: impl.PolConst(3), Y: long, K: 65535},
		withEnd(spoiltSym(), -9, badSums()[5], badSums()[10], math.MinInt),
		{Events: []impl.SymEvent{{}, {}, {}}, Regs: sumsOf(nothing, nothing)},
	}
}

func TestP38OneThingTurned(t *testing.T) {
	for _, s := range someSyms() {
		turns := turnsOfSym(s)
		for _, other := range turns {
			holdSymSame(t, "one thing turned", s, other, false)
			if impl.SymSame(wholePlain(s), wholePlain(other)) {
				t.Fatalf("one thing turned: %+v is the same as %+v", s, other)
			}
		}
		if len(turns) < 20 {
			t.Fatalf("only %d are tried", len(turns))
		}
	}
	for at, a := range someSyms() {
		for other, b := range someSyms() {
			holdSymSame(t, "any two", a, b, at == other)
		}
	}
}

func TestP38ByHand(t *testing.T) {
	a, b := impl.PolAtom(0), impl.PolAtom(1)
	both := sumOf(part(1, 0), part(1, 1))
	two := []impl.SymEvent{loadEvent(1, a, fourSums()), outEvent(2, both)}
	s := impl.SymSym{Events: two, Regs: sumsOf(a, b, both, nothing), End: impl.EndLess, X: a, Y: b, K: 20}
	for what, turn := range map[string]func(s *impl.SymSym){
		"an event more behind":         func(s *impl.SymSym) { s.Events = append(s.Events, inEvent(2)) },
		"an event more ahead":          func(s *impl.SymSym) { s.Events = slices.Insert(s.Events, 0, inEvent(0)) },
		"an event that is nothing":     func(s *impl.SymSym) { s.Events = append(s.Events, impl.SymEvent{}) },
		"the last event once more":     func(s *impl.SymSym) { s.Events = append(s.Events, two[1]) },
		"an event less":                func(s *impl.SymSym) { s.Events = s.Events[:1] },
		"no events":                    func(s *impl.SymSym) { s.Events = nil },
		"events turned round":          func(s *impl.SymSym) { slices.Reverse(s.Events) },
		"an event's Kind":              func(s *impl.SymSym) { s.Events[0].Kind = impl.IrStore },
		"an event's At":                func(s *impl.SymSym) { s.Events[1].At = 1 },
		"an event's X":                 func(s *impl.SymSym) { s.Events[0].X = b },
		"an event's Y":                 func(s *impl.SymSym) { s.Events[1].Y = a },
		"the first register beside":    func(s *impl.SymSym) { s.Events[0].Regs[0] = b },
		"the last register beside":     func(s *impl.SymSym) { s.Events[0].Regs[3] = nothing },
		"registers beside turned":      func(s *impl.SymSym) { slices.Reverse(s.Events[0].Regs) },
		"a register more beside":       func(s *impl.SymSym) { s.Events[0].Regs = append(s.Events[0].Regs, nothing) },
		"a register less beside":       func(s *impl.SymSym) { s.Events[0].Regs = s.Events[0].Regs[:3] },
		"no registers beside":          func(s *impl.SymSym) { s.Events[0].Regs = nil },
		"registers beside what is out": func(s *impl.SymSym) { s.Events[1].Regs = fourSums() },
		"the first register behind":    func(s *impl.SymSym) { s.Regs[0] = nothing },
		"the last register behind":     func(s *impl.SymSym) { s.Regs[3] = a },
		"a register more behind":       func(s *impl.SymSym) { s.Regs = append(s.Regs, nothing) },
		"a register less behind":       func(s *impl.SymSym) { s.Regs = s.Regs[:3] },
		"registers behind turned":      func(s *impl.SymSym) { slices.Reverse(s.Regs) },
		"End":                          func(s *impl.SymSym) { s.End = impl.EndSame },
		"X":                            func(s *impl.SymSym) { s.X = both },
		"Y":                            func(s *impl.SymSym) { s.Y = both },
		"X and Y turned round":         func(s *impl.SymSym) { s.X, s.Y = s.Y, s.X },
		"K":                            func(s *impl.SymSym) { s.K = 21 },
		"a part's Coef":                func(s *impl.SymSym) { s.Regs[2].Monos[1].Coef = 2 },
		"an atom":                      func(s *impl.SymSym) { s.Regs[2].Monos[1].Atoms[0] = 2 },
		"an atom more":                 func(s *impl.SymSym) { s.Regs[2].Monos[1].Atoms = []int{1, 1} },
		"an atom less":                 func(s *impl.SymSym) { s.Regs[2].Monos[0].Atoms = nil },
		"a part more":                  func(s *impl.SymSym) { s.Regs[2].Monos = append(s.Regs[2].Monos, part(1, 2)) },
		"a part that comes to 0":       func(s *impl.SymSym) { s.X.Monos = append(s.X.Monos, part(0)) },
		"a part less":                  func(s *impl.SymSym) { s.Events[1].X.Monos = s.Events[1].X.Monos[:1] },
		"parts turned round":           func(s *impl.SymSym) { slices.Reverse(s.Events[1].X.Monos) },
		"a Coef that wraps to it":      func(s *impl.SymSym) { s.Y.Monos[0].Coef = 65537 },
	} {
		other := wholePlain(s)
		turn(&other)
		holdSymSame(t, what, s, other, false)
		if sameSym(s, other) {
			t.Fatalf("%s: nothing is turned", what)
		}
	}
}

func TestP38EmptyListsAreTheSame(t *testing.T) {
	none := impl.TrmPoly{Monos: []impl.TrmMono{}}
	bare, empty := sumOf(impl.TrmMono{Coef: 3}), sumOf(impl.TrmMono{Coef: 3, Atoms: []int{}})
	for what, pair := range map[string][2]impl.SymSym{
		"events":                 {{}, {Events: []impl.SymEvent{}}},
		"registers behind":       {{}, {Regs: []impl.TrmPoly{}}},
		"registers beside":       {{Events: []impl.SymEvent{{}}}, {Events: []impl.SymEvent{{Regs: []impl.TrmPoly{}}}}},
		"parts of X":             {{}, {X: none}},
		"parts of Y":             {{}, {Y: none}},
		"parts of a register":    {{Regs: sumsOf(nothing)}, {Regs: sumsOf(none)}},
		"parts in an event":      {{Events: []impl.SymEvent{{}}}, {Events: []impl.SymEvent{{X: none, Y: none}}}},
		"parts beside an event":  {{Events: []impl.SymEvent{{Regs: sumsOf(nothing)}}}, {Events: []impl.SymEvent{{Regs: sumsOf(none)}}}},
		"atoms of X":             {{X: bare}, {X: empty}},
		"atoms of Y":             {{Y: bare}, {Y: empty}},
		"atoms of a register":    {{Regs: sumsOf(bare)}, {Regs: sumsOf(empty)}},
		"atoms beside an event":  {{Events: []impl.SymEvent{{Regs: sumsOf(bare)}}}, {Events: []impl.SymEvent{{Regs: sumsOf(empty)}}}},
		"all of them at one end": {{}, {Events: []impl.SymEvent{}, Regs: []impl.TrmPoly{}, X: none, Y: none}},
	} {
		holdSymSame(t, what, pair[0], pair[1], true)
	}
	holdSymSame(t, "an empty list, and one that has nothing", impl.SymSym{Regs: []impl.TrmPoly{}}, impl.SymSym{Regs: sumsOf(nothing)}, false)
	holdSymSame(t, "an empty list, and one that has nothing", impl.SymSym{Events: []impl.SymEvent{}}, impl.SymSym{Events: []impl.SymEvent{{}}}, false)
}

// Lists that lie over each other, one of which goes on where the other one ends.
func TestP38ListsOverEachOther(t *testing.T) {
	events := []impl.SymEvent{inEvent(1), inEvent(1), inEvent(1), inEvent(1)}
	regs := sumsOf(impl.PolAtom(2), impl.PolAtom(2), impl.PolAtom(2), impl.PolAtom(2), impl.PolAtom(2))
	parts := []impl.TrmMono{part(1, 5), part(1, 5), part(1, 5)}
	atoms := []int{7, 7, 7, 7}
	for i := range 4 {
		for j := range 4 {
			holdSymSame(t, "events", impl.SymSym{Events: events[:i]}, impl.SymSym{Events: events[:j]}, i == j)
			holdSymSame(t, "events, from the other end", impl.SymSym{Events: events[i:]}, impl.SymSym{Events: events[j:]}, i == j)
			holdSymSame(t, "registers", impl.SymSym{Regs: regs[:i]}, impl.SymSym{Regs: regs[1 : 1+j]}, i == j)
			holdSymSame(t, "registers beside", impl.SymSym{Events: []impl.SymEvent{{Regs: regs[:i]}}}, impl.SymSym{Events: []impl.SymEvent{{Regs: regs[:j]}}}, i == j)
			holdSymSame(t, "parts", impl.SymSym{X: sumOf(parts[:i]...)}, impl.SymSym{X: sumOf(parts[:j]...)}, i == j)
			holdSymSame(t, "atoms", impl.SymSym{Y: sumOf(part(3, atoms[:i]...))}, impl.SymSym{Y: sumOf(part(3, atoms[:j]...))}, i == j)
		}
	}
}

// anySymAtAll is what is seen of hardly any code, out of so little that many are the same.
func (d *dice) anySymAtAll() impl.SymSym {
	sum := func() impl.TrmPoly {
		if d.below(3) > 0 {
			return nothing
		}
		return d.anySumAtAll()
	}
	sums := func(most int) []impl.TrmPoly {
		var out []impl.TrmPoly
		for range d.below(most) {
			out = append(out, sum())
		}
		return out
	}
	s := impl.SymSym{Regs: sums(3), End: d.of(-1, 1, 1, 3), X: sum(), Y: sum(), K: d.of(0, 0, 65536)}
	for range d.below(3) {
		s.Events = append(s.Events, impl.SymEvent{Kind: d.of(0, 4), At: d.of(0, 0, -1), X: sum(), Regs: sums(2)})
	}
	return s
}

func TestP38AnyTwo(t *testing.T) {
	d := dice(383838383)
	same, other := 0, 0
	var list []impl.SymSym
	for range 400 {
		list = append(list, d.anySymAtAll())
	}
	for _, a := range list {
		for _, b := range list {
			want := sameSym(a, b)
			if impl.SymSame(a, b) != want {
				t.Fatalf("SymSame of %+v and %+v is %v", a, b, !want)
			}
			if want {
				same++
			} else {
				other++
			}
		}
	}
	if same < 600 || other < 10000 {
		t.Fatalf("only %d are the same, and %d are not", same, other)
	}
	for range 3000 {
		tab, a := impl.SymRun(d.anyStart(), d.anySeen())
		_, b := impl.SymRun(tab, d.anySeen())
		holdSymSame(t, "of any code", a, b, sameSym(a, b))
	}
}

func turnsOfOp(o impl.IrOp) []impl.IrOp {
	var out []impl.IrOp
	for field := range 5 {
		n := []int{o.Kind, o.X, o.Y, o.K, o.At}[field]
		for _, m := range otherNumbers(n) {
			other := o
			*[]*int{&other.Kind, &other.X, &other.Y, &other.K, &other.At}[field] = m
			out = append(out, other)
		}
	}
	return out
}

// turnsOfCode are pieces of code that differ from one in one thing.
func turnsOfCode(b impl.IrBlock) []impl.IrBlock {
	var out []impl.IrBlock
	for field := range 6 {
		for _, n := range otherNumbers([]int{b.Pc, b.Len, b.End, b.X, b.Y, b.K}[field]) {
			out = append(out, turnedCode(b, func(b *impl.IrBlock) {
				*[]*int{&b.Pc, &b.Len, &b.End, &b.X, &b.Y, &b.K}[field] = n
			}))
		}
	}
	for _, ops := range turnsOf(b.Ops, opsOf(impl.IrOp{}, constant(0), letsIn(0)), turnsOfOp) {
		out = append(out, turnedCode(b, func(b *impl.IrBlock) { b.Ops = ops }))
	}
	return out
}

// someCodes are pieces of code, ok and not.
func someCodes() []impl.IrBlock {
	out := []impl.IrBlock{codeOf(manyOps(49)...), codeOf(slices.Repeat(opsOf(impl.IrOp{Kind: -1, X: math.MaxInt, Y: -7, K: math.MinInt, At: 65536}), 60)...)}
	for _, b := range plainCodes() {
		out = append(out, b)
	}
	for _, b := range badCodes() {
		out = append(out, b)
	}
	return out
}

func TestSameCodeOneThingTurned(t *testing.T) {
	for _, b := range someCodes() {
		turns := turnsOfCode(b)
		for _, c := range turns {
			holdIrSame(t, "one thing turned", b, c, false)
		}
		if len(turns) < 30 {
			t.Fatalf("only %d are tried", len(turns))
		}
	}
}

func TestSameCodeByHand(t *testing.T) {
	b := ended(codeOf(constant(9), gets(1), reckons(impl.OpAdd, 0, 1)), impl.EndSame, 0, 2, 20)
	for what, turn := range map[string]func(b *impl.IrBlock){
		"Pc":                      func(b *impl.IrBlock) { b.Pc = 6 },
		"Len":                     func(b *impl.IrBlock) { b.Len = 4 },
		"End":                     func(b *impl.IrBlock) { b.End = impl.EndLess },
		"X":                       func(b *impl.IrBlock) { b.X = 1 },
		"Y":                       func(b *impl.IrBlock) { b.Y = 1 },
		"K":                       func(b *impl.IrBlock) { b.K = 21 },
		"X and Y turned round":    func(b *impl.IrBlock) { b.X, b.Y = b.Y, b.X },
		"the first one's Kind":    func(b *impl.IrBlock) { b.Ops[0].Kind = impl.IrGet },
		"the first one's K":       func(b *impl.IrBlock) { b.Ops[0].K = 8 },
		"the middle one's K":      func(b *impl.IrBlock) { b.Ops[1].K = 0 },
		"the middle one's At":     func(b *impl.IrBlock) { b.Ops[1].At = 1 },
		"the last one's X":        func(b *impl.IrBlock) { b.Ops[2].X = 1 },
		"the last one's Y":        func(b *impl.IrBlock) { b.Ops[2].Y = 0 },
		"both words turned round": func(b *impl.IrBlock) { b.Ops[2].X, b.Ops[2].Y = 1, 0 },
		"one more behind":         func(b *impl.IrBlock) { b.Ops = append(b.Ops, constant(1)) },
		"one more ahead":          func(b *impl.IrBlock) { b.Ops = slices.Insert(b.Ops, 0, constant(1)) },
		"an empty one more":       func(b *impl.IrBlock) { b.Ops = append(b.Ops, impl.IrOp{}) },
		"the last one twice":      func(b *impl.IrBlock) { b.Ops = append(b.Ops, b.Ops[2]) },
		"one less":                func(b *impl.IrBlock) { b.Ops = b.Ops[:2] },
		"the first one less":      func(b *impl.IrBlock) { b.Ops = b.Ops[1:] },
		"no operations":           func(b *impl.IrBlock) { b.Ops = nil },
		"turned round":            func(b *impl.IrBlock) { slices.Reverse(b.Ops) },
	} {
		holdIrSame(t, what, b, turnedCode(b, turn), false)
	}
	holdIrSame(t, "none, and an empty list", codeOf(), impl.IrBlock{Pc: 5, Len: 3, Ops: []impl.IrOp{}, End: impl.EndGo, K: 20}, true)
	holdIrSame(t, "nothing, and an empty list", impl.IrBlock{}, impl.IrBlock{Ops: []impl.IrOp{}}, true)
	holdIrSame(t, "nothing, and an empty operation", impl.IrBlock{}, impl.IrBlock{Ops: opsOf(impl.IrOp{})}, false)
	// They do the same, but are not.
	holdIrSame(t, "what nobody uses", codeOf(), codeOf(constant(1)), false)
	list := slices.Repeat(opsOf(constant(3)), 4)
	for i := range 5 {
		for j := range 5 {
			holdIrSame(t, "lists over each other", codeOf(list[:i]...), codeOf(list[:j]...), i == j)
			holdIrSame(t, "lists over each other", codeOf(list[i:]...), codeOf(list[:4-j]...), i == j)
		}
	}
}

func TestSameCodeOfAnyTwo(t *testing.T) {
	list := someCodes()
	for at, b := range list {
		for other, c := range list {
			holdIrSame(t, "any two", b, c, sameBlock(b, c))
			if at == other && !impl.IrSame(b, c) {
				t.Fatalf("%+v is not the same as itself", b)
			}
		}
	}
	d := dice(393939393)
	same := 0
	for range 20000 {
		anyFew := func() impl.IrBlock {
			b := impl.IrBlock{Pc: d.of(0, 0, 5), Len: d.of(1, 1, -1), End: d.of(1, 2), K: d.of(0, 65536)}
			for range d.below(3) {
				b.Ops = append(b.Ops, impl.IrOp{Kind: d.of(0, 1), At: d.below(2)})
			}
			return b
		}
		b, c := anyFew(), anyFew()
		want := sameBlock(b, c)
		holdIrSame(t, "any two", b, c, want)
		if want {
			same++
		}
	}
	if same < 200 {
		t.Fatalf("only %d are the same", same)
	}
}

func TestP40OfCodeThatIsNotOk(t *testing.T) {
	for what, bad := range badCodes() {
		if impl.IrOk(bad) {
			t.Fatalf("%s: %+v is ok", what, bad)
		}
		for _, good := range plainCodes() {
			holdStands(t, what, bad, good, false)
		}
		// The same one, itself and as another list.
		holdStands(t, what+", twice", bad, bad, false)
		holdStands(t, what+", twice", bad, turnedCode(bad, func(*impl.IrBlock) {}), false)
		holdStands(t, what+", and what it was", bad, eachKind(), false)
		for _, other := range badCodes() {
			holdStands(t, what+", and another one", bad, other, false)
		}
	}
	// Code of which nothing is seen, with the same of which nothing is.
	holdStands(t, "nothing", impl.IrBlock{}, impl.IrBlock{}, false)
	holdStands(t, "an operation that nobody uses is not ok", codeOf(), codeOf(impl.IrOp{}), false)
	holdStands(t, "one too many", codeOf(manyOps(48)...), codeOf(manyOps(49)...), false)
	holdStands(t, "one too many, that nobody uses", codeOf(manyOps(48)...), codeOf(append(manyOps(48), constant(1))...), false)
}

func TestP40OfAnotherPlaceOrLength(t *testing.T) {
	for _, b := range []impl.IrBlock{codeOf(), codeOf(constant(7), sets(0, 0)), codeOf(gets(0), loads(0, 0), sets(1, 1)), codeOf(letsIn(1), letsOut(0, 1))} {
		holdStands(t, "itself", b, b, true)
		for pc := range 60 {
			for long := 2; long <= 5; long++ {
				c := turnedCode(b, func(b *impl.IrBlock) { b.Pc, b.Len = pc, long })
				if !impl.IrOk(c) {
					t.Fatalf("%+v is not ok", c)
				}
				holdStands(t, "another place, or length", b, c, pc == b.Pc && long == b.Len)
				used := turnedCode(c, func(b *impl.IrBlock) { b.Ops = append(b.Ops, constant(1)) })
				holdStands(t, "another place, or length, and a word that nobody uses", b, used, pc == b.Pc && long == b.Len)
			}
		}
	}
	// Code that ends at one place, and goes on at one, but does not begin there.
	holdStands(t, "the same place behind", impl.IrBlock{Pc: 5, Len: 3, End: impl.EndGo, K: 8}, impl.IrBlock{Pc: 6, Len: 2, End: impl.EndGo, K: 8}, false)
}

func TestP40EachMayStandForItself(t *testing.T) {
	ahead := opsOf(constant(9), gets(1), gets(2), letsIn(0), loads(0, 1))
	ends := [][4]int{{impl.EndGo, 0, 0, 65535}, {impl.EndWord, 0, 0, 0}, {impl.EndWord, 4, 0, 0}, {impl.EndSame, 1, 2, 20}, {impl.EndSame, 2, 1, 0}, {impl.EndLess, 1, 3, 20}, {impl.EndLess, 0, 0, 8}}
	for kind, row := range kindRows {
		for k := row.least; k <= min(row.most, 5); k++ {
			o := impl.IrOp{Kind: kind, K: k}
			if row.x {
				o.X = 1
			}
			if row.y {
				o.Y = 2
			}
			if row.at {
				o.At = 2
			}
			for _, end := range ends {
				b := ended(codeOf(append(slices.Clone(ahead), o)...), end[0], end[1], end[2], end[3])
				holdStands(t, "itself", b, b, true)
				holdStands(t, "itself, in another list", b, turnedCode(b, func(*impl.IrBlock) {}), true)
				more := turnedCode(b, func(b *impl.IrBlock) { b.Ops = append(b.Ops, constant(7)) })
				holdStands(t, "itself, and a word that nobody uses", b, more, true)
			}
		}
	}
	for _, b := range plainCodes() {
		holdStands(t, "itself", b, b, true)
	}
	for op, line := range oneOfEach {
		if op != impl.InsStop {
			b := impl.BlkLower(60, insOf(line))
			holdStands(t, line, b, b, true)
		}
	}
	d := dice(404040401)
	for range 3000 {
		b := d.anySeen()
		holdStands(t, "any code", b, turnedCode(b, func(*impl.IrBlock) {}), true)
	}
}

// codePair is two pieces of code; found is whether there is a machine that they leave otherwise.
type codePair struct {
	what  string
	b, c  impl.IrBlock
	found bool
}

// on is operations for codeOf's instructions, and how they go on.
func on(end, x, y, k int, ops ...impl.IrOp) impl.IrBlock {
	return ended(codeOf(ops...), end, x, y, k)
}

// reckonedPairs are two ways each to reckon one sum of the registers, which goes to all that can be seen.
func reckonedPairs() []codePair {
	add, sub, mul, and, xor := impl.OpAdd, impl.OpSub, impl.OpMul, impl.OpAnd, impl.OpXor
	var out []codePair
	both := func(what string, b, c []impl.IrOp) {
		for _, use := range []func(ops []impl.IrOp) impl.IrBlock{
			func(ops []impl.IrOp) impl.IrBlock { return codeOf(append(ops, sets(2, len(ops)-1))...) },
			func(ops []impl.IrOp) impl.IrBlock { return codeOf(append(ops, letsOut(len(ops)-1, 1))...) },
			func(ops []impl.IrOp) impl.IrBlock { return codeOf(append(ops, loads(len(ops)-1, 1))...) },
			func(ops []impl.IrOp) impl.IrBlock {
				return codeOf(append(ops, gets(3), stores(len(ops)-1, len(ops), 1))...)
			},
			func(ops []impl.IrOp) impl.IrBlock {
				return codeOf(append(ops, gets(3), stores(len(ops), len(ops)-1, 1))...)
			},
			func(ops []impl.IrOp) impl.IrBlock {
				return codeOf(append(ops, sets(0, len(ops)-1), gets(3), loads(len(ops)+1, 2))...)
			},
			func(ops []impl.IrOp) impl.IrBlock { return on(impl.EndWord, len(ops)-1, 0, 0, ops...) },
			func(ops []impl.IrOp) impl.IrBlock {
				return on(impl.EndSame, len(ops)-1, len(ops), 20, append(ops, gets(3))...)
			},
			func(ops []impl.IrOp) impl.IrBlock {
				return on(impl.EndLess, len(ops), len(ops)-1, 20, append(ops, gets(3))...)
			},
		} {
			out = append(out, codePair{what: what, b: use(slices.Clone(b)), c: use(slices.Clone(c))})
		}
	}
	a, b, c := gets(0), gets(1), gets(2)
	both("a sum in either order", opsOf(a, b, reckons(add, 0, 1)), opsOf(a, b, reckons(add, 1, 0)))
	both("a product in either order", opsOf(a, b, reckons(mul, 0, 1)), opsOf(a, b, reckons(mul, 1, 0)))
	both("what both have in either order", opsOf(a, b, reckons(and, 0, 1)), opsOf(a, b, reckons(and, 1, 0)))
	both("what just one has in either order", opsOf(a, b, reckons(xor, 0, 1)), opsOf(b, a, reckons(xor, 0, 1)))
	both("three in another order", opsOf(a, b, c, reckons(add, 0, 1), reckons(add, 3, 2)), opsOf(a, b, c, reckons(add, 1, 2), reckons(add, 0, 3)))
	both("bits of bits in another order", opsOf(a, b, c, reckons(and, 1, 2), reckons(xor, 0, 3)), opsOf(c, b, reckons(and, 0, 1), a, reckons(xor, 2, 3)))
	both("one ahead of another that nobody uses", opsOf(a, b, c, reckons(and, 0, 1), reckons(xor, 0, 1)), opsOf(a, b, c, reckons(xor, 0, 2), reckons(xor, 1, 0)))
	both("2 times, and a sum", opsOf(a, reckons(add, 0, 0)), opsOf(constant(2), a, reckons(mul, 0, 1)))
	both("3 times, and a sum of sums", opsOf(a, reckons(add, 0, 0), reckons(add, 1, 0)), opsOf(a, constant(3), reckons(mul, 0, 1)))
	both("less, and 65535 times", opsOf(a, b, reckons(sub, 0, 1)), opsOf(a, b, constant(65535), reckons(mul, 1, 2), reckons(add, 0, 3)))
	both("a product spread over a sum", opsOf(a, b, c, reckons(add, 1, 2), reckons(mul, 0, 3)), opsOf(a, b, c, reckons(mul, 0, 1), reckons(mul, 2, 0), reckons(add, 3, 4)))
	both("a square of a sum", opsOf(a, b, reckons(add, 0, 1), reckons(mul, 2, 2)), opsOf(a, b, reckons(mul, 0, 0), reckons(mul, 1, 1), reckons(mul, 0, 1), reckons(add, 4, 4), reckons(add, 2, 3), reckons(add, 6, 5)))
	both("x less x, and 0", opsOf(a, reckons(sub, 0, 0)), opsOf(constant(0)))
	both("what just one has of it and itself, and 0", opsOf(b, reckons(xor, 0, 0)), opsOf(constant(0)))
	both("what it has with 0, and 0", opsOf(b, constant(0), reckons(and, 0, 1)), opsOf(constant(0)))
	both("0 times, and 0", opsOf(constant(0), c, reckons(mul, 0, 1)), opsOf(constant(0)))
	both("so many times that it is 0", opsOf(a, constant(256), reckons(mul, 0, 1), reckons(mul, 2, 1)), opsOf(constant(0)))
	both("once", opsOf(a, constant(1), reckons(mul, 0, 1)), opsOf(a))
	both("and 0", opsOf(constant(0), a, reckons(add, 0, 1)), opsOf(a))
	both("what it has with all bits", opsOf(a, constant(65535), reckons(and, 0, 1)), opsOf(a))
	both("what just one has of it and 0", opsOf(a, constant(0), reckons(xor, 1, 0)), opsOf(a))
	both("what it has with itself", opsOf(b, reckons(and, 0, 0)), opsOf(b))
	both("undone", opsOf(a, b, reckons(add, 0, 1), reckons(sub, 2, 1)), opsOf(a))
	both("what it has with itself, reckoned otherwise", opsOf(a, reckons(add, 0, 0), constant(2), reckons(mul, 0, 2), reckons(and, 1, 3)), opsOf(a, reckons(add, 0, 0)))
	both("words reckoned ahead: a product", opsOf(constant(300), reckons(mul, 0, 0)), opsOf(constant(24464)))
	both("words reckoned ahead: a difference", opsOf(constant(3), constant(5), reckons(sub, 0, 1)), opsOf(constant(65534)))
	both("words reckoned ahead: an address", opsOf(constant(3), constant(4), reckons(add, 0, 1)), opsOf(constant(7)))
	both("words reckoned ahead: bits", opsOf(constant(12), constant(10), reckons(and, 0, 1), reckons(xor, 2, 0)), opsOf(constant(4)))
	both("a word that nobody uses ahead", opsOf(constant(1), constant(2), c), opsOf(c))
	both("bits that nobody uses ahead", opsOf(a, b, reckons(and, 0, 1), reckons(xor, 2, 1), reckons(and, 2, 3), c), opsOf(c))
	both("got through another register", opsOf(c, sets(1, 0), gets(1), sets(1, 2), gets(1)), opsOf(c, sets(1, 0), constant(1), reckons(mul, 0, 2)))
	return out
}

// unseenPairs are pieces of code that differ in what nobody can see.
func unseenPairs() []codePair {
	lower := func(lines ...string) impl.IrBlock { return impl.BlkLower(5, insOf(lines...)) }
	return append(reckonedPairs(), []codePair{
		{what: "a word that is not used", b: codeOf(), c: codeOf(constant(9))},
		{what: "a register that is got and not used", b: codeOf(), c: codeOf(gets(2))},
		{what: "a sum that is not used", b: codeOf(gets(0), letsOut(0, 1)), c: codeOf(gets(0), reckons(impl.OpXor, 0, 0), reckons(impl.OpMul, 0, 1), letsOut(0, 1))},
		{what: "an empty list", b: codeOf(), c: impl.IrBlock{Pc: 5, Len: 3, Ops: []impl.IrOp{}, End: impl.EndGo, K: 20}},
		{what: "a register that is set to what it is", b: codeOf(), c: codeOf(gets(2), sets(2, 0))},
		{what: "a register that is set to what it is, ahead of a load", b: codeOf(gets(1), loads(0, 1)), c: codeOf(gets(2), sets(2, 0), gets(1), loads(2, 1))},
		{what: "a register that is set to what it is, behind a store", b: codeOf(gets(1), stores(0, 0, 1)), c: codeOf(gets(1), stores(0, 0, 1), gets(0), sets(0, 2))},
		{what: "a register that is set and set back ahead of a store", b: codeOf(gets(1), stores(0, 0, 1)), c: codeOf(gets(1), constant(7), sets(1, 1), sets(1, 0), stores(0, 0, 1))},
		{what: "twice set", b: codeOf(constant(7), sets(0, 0)), c: codeOf(constant(8), sets(0, 0), constant(7), sets(0, 2))},
		{what: "twice set ahead of a load", b: codeOf(constant(7), sets(0, 0), gets(1), loads(2, 2)), c: codeOf(constant(8), sets(0, 0), constant(7), sets(0, 2), gets(1), loads(4, 2))},
		{what: "twice set, what comes in and goes out between", b: codeOf(letsIn(1), letsOut(0, 1), constant(7), sets(0, 2)), c: codeOf(constant(8), sets(0, 0), letsIn(1), letsOut(2, 1), constant(7), sets(0, 4))},
		{what: "set ahead of what comes in and goes out, and behind", b: codeOf(constant(7), sets(0, 0), letsIn(1), letsOut(2, 2)), c: codeOf(constant(7), letsIn(1), letsOut(1, 2), sets(0, 0))},
		{what: "two registers set in either order", b: codeOf(gets(0), gets(1), sets(0, 1), sets(1, 0)), c: codeOf(gets(0), gets(1), sets(1, 0), sets(0, 1))},
		{what: "other places of the same operations", b: codeOf(gets(0), gets(1), letsOut(0, 0), letsOut(1, 1)), c: codeOf(gets(1), gets(0), letsOut(1, 0), letsOut(0, 1))},
		{what: "other places, beside a load and a store", b: codeOf(gets(0), gets(1), loads(0, 0), stores(1, 2, 1)), c: codeOf(gets(0), loads(0, 0), gets(1), stores(2, 1, 1))},
		{what: "a register got twice, and once", b: codeOf(gets(0), gets(0), stores(0, 1, 1)), c: codeOf(gets(0), stores(0, 0, 1))},
		{what: "what was loaded, and got again", b: codeOf(gets(0), loads(0, 0), sets(1, 1), letsOut(1, 1)), c: codeOf(gets(0), loads(0, 0), sets(1, 1), gets(1), letsOut(3, 1))},
		{what: "what came in, and got again", b: codeOf(letsIn(0), sets(1, 0), gets(3), stores(2, 0, 1)), c: codeOf(letsIn(0), sets(1, 0), gets(3), gets(1), stores(2, 3, 1))},
		{what: "a register got ahead of what it is set to", b: codeOf(gets(0), constant(7), sets(0, 1), letsOut(0, 1)), c: codeOf(gets(0), letsOut(0, 1), constant(7), sets(0, 2))},
		{what: "what is loaded twice less itself", b: codeOf(gets(0), loads(0, 0), reckons(impl.OpSub, 1, 1), sets(1, 2)), c: codeOf(gets(0), loads(0, 0), constant(0), sets(1, 2))},
		{what: "at a known word", b: on(impl.EndWord, 0, 0, 0, constant(20)), c: codeOf()},
		{what: "at a word that is reckoned", b: on(impl.EndWord, 3, 0, 0, gets(0), reckons(impl.OpSub, 0, 0), constant(20), reckons(impl.OpXor, 1, 2)), c: codeOf()},
		{what: "at 0", b: on(impl.EndWord, 0, 0, 0, constant(0)), c: on(impl.EndGo, 0, 0, 0)},
		{what: "if it is the same as itself", b: on(impl.EndSame, 0, 0, 20, gets(0)), c: codeOf()},
		{what: "if two are the same that are so by what is reckoned", b: on(impl.EndSame, 1, 3, 20, gets(0), reckons(impl.OpAdd, 0, 0), constant(2), reckons(impl.OpMul, 0, 2)), c: codeOf()},
		{what: "if it is less than itself", b: on(impl.EndLess, 0, 0, 20, gets(0)), c: on(impl.EndGo, 0, 0, 8)},
		{what: "if it is less than itself, and if words that differ are the same", b: on(impl.EndLess, 0, 0, 20, gets(0)), c: on(impl.EndSame, 0, 1, 30, constant(1), constant(2))},
		{what: "if a word is less", b: on(impl.EndLess, 0, 1, 20, constant(1), constant(2)), c: codeOf()},
		{what: "if a word is less that is not", b: on(impl.EndLess, 1, 0, 20, constant(1), constant(2)), c: on(impl.EndGo, 0, 0, 8)},
		{what: "if two are the same, in either order", b: on(impl.EndSame, 0, 1, 20, gets(0), gets(1)), c: on(impl.EndSame, 1, 0, 20, gets(0), gets(1))},
		{what: "if a word and a sum are the same, in either order", b: on(impl.EndSame, 0, 1, 20, constant(4), gets(1)), c: on(impl.EndSame, 0, 1, 20, gets(1), constant(4))},
		{what: "if bits are the same, in either order, and made in either", b: on(impl.EndSame, 2, 3, 20, gets(0), gets(1), reckons(impl.OpAnd, 0, 1), reckons(impl.OpXor, 0, 1)), c: on(impl.EndSame, 2, 3, 20, gets(1), gets(0), reckons(impl.OpXor, 0, 1), reckons(impl.OpAnd, 0, 1))},
		{what: "instructions: twice", b: lower("add a b b", "out a"), c: lower("shift a b 1", "out a")},
		{what: "instructions: nothing", b: lower("sub c c c", "store c b 0"), c: lower("xor c b b", "store c b 0")},
		{what: "instructions: a register as it is", b: lower("move a a", "load a b 3", "go a"), c: lower("and c c c", "load a b 3", "go a")},
		{what: "instructions: if two are the same", b: lower("in a", "same a b 9"), c: lower("in a", "same b a 9")},
	}...)
}

// manyAt are machines at the place of code: many registers and words, whose addresses are missed, that write over what is behind, with and without words that come in; and some that do not go through it.
func (d *dice) manyAt(b impl.IrBlock, many int) []impl.MchMach {
	out := []impl.MchMach{standing(b), {}, impl.MchNew(nil, nil)}
	out = append(out,
		turned(standing(b), func(m *impl.MchMach) { m.Ins = nil }),
		turned(standing(b), func(m *impl.MchMach) { m.Halt = impl.HaltStop }),
		turned(standing(b), func(m *impl.MchMach) { m.Count = impl.MchMost - b.Len }),
		turned(standing(b), func(m *impl.MchMach) { m.Count = impl.MchMost - b.Len + 1 }),
		turned(standing(b), func(m *impl.MchMach) { m.Regs[0] = 65536 }))
	for range many {
		m := d.anyAt(b)
		switch d.below(4) {
		case 0:
			m.Regs[d.below(4)] = b.Pc + d.below(b.Len)
		case 1:
			m.Regs[d.below(4)] = d.of(noAddresses...)
		case 2:
			m.Regs = d.anyList(4, func() int { return d.of(b.Pc, b.Pc+1, b.Pc+b.Len-1, 0, 1, 40) })
		}
		out = append(out, m)
	}
	return out
}

func TestP4WhatNobodyCanSee(t *testing.T) {
	d := dice(440044004)
	for _, p := range unseenPairs() {
		if !impl.IrOk(p.b) || !impl.IrOk(p.c) {
			t.Fatalf("%s: not ok: %+v, %+v", p.what, p.b, p.c)
		}
		holdStands(t, p.what, p.b, p.c, true)
		for _, m := range d.manyAt(p.b, 80) {
			holdAlike(t, p.what, p.b, p.c, m)
		}
	}
}

// seenPairs are pieces of code that differ in what can be seen, and some that do not but are not seen to do the same.
func seenPairs() []codePair {
	a, b, c := gets(0), gets(1), gets(2)
	seven, eight, six := constant(7), constant(8), constant(6)
	yes := true
	return []codePair{
		{"a register's word behind", codeOf(seven, sets(0, 0)), codeOf(eight, sets(0, 0)), yes},
		{"a register's word behind, and as it was", codeOf(seven, sets(0, 0)), codeOf(seven), yes},
		{"another register", codeOf(seven, sets(0, 0)), codeOf(seven, sets(3, 0)), yes},
		{"another register's word", codeOf(a, sets(2, 0)), codeOf(b, sets(2, 0)), yes},
		{"twice set, in the other order", codeOf(seven, eight, sets(0, 0), sets(0, 1)), codeOf(seven, eight, sets(0, 1), sets(0, 0)), yes},
		{"2 times, and 3 times", codeOf(a, reckons(impl.OpAdd, 0, 0), sets(0, 1)), codeOf(a, constant(3), reckons(impl.OpMul, 0, 1), sets(0, 2)), yes},
		{"a difference in either order", codeOf(a, b, reckons(impl.OpSub, 0, 1), sets(2, 2)), codeOf(a, b, reckons(impl.OpSub, 1, 0), sets(2, 2)), yes},
		{"a sum, and what just one has", codeOf(a, b, reckons(impl.OpAdd, 0, 1), sets(2, 2)), codeOf(a, b, reckons(impl.OpXor, 0, 1), sets(2, 2)), yes},
		{"bits of others", codeOf(a, b, c, reckons(impl.OpAnd, 0, 1), sets(3, 3)), codeOf(a, b, c, reckons(impl.OpAnd, 0, 2), sets(3, 3)), yes},

		{"set ahead of a load, and behind it", codeOf(b, seven, sets(0, 1), loads(0, 1)), codeOf(b, seven, loads(0, 1), sets(0, 1)), yes},
		{"set ahead of a load, to what it is then", codeOf(b, seven, sets(0, 1), loads(0, 1)), codeOf(b, seven, loads(0, 1)), yes},
		{"the last register set ahead of a load, and behind it", codeOf(b, seven, sets(3, 1), loads(0, 1)), codeOf(b, seven, loads(0, 1), sets(3, 1)), yes},
		{"twice set, a load between", codeOf(eight, sets(0, 0), b, loads(2, 1), seven, sets(0, 4)), codeOf(b, loads(0, 1), seven, sets(0, 2)), yes},
		{"set ahead of a store, and behind it", codeOf(b, seven, sets(0, 1), stores(0, 1, 1)), codeOf(b, seven, stores(0, 1, 1), sets(0, 1)), yes},
		{"set ahead of a store over what is behind, and behind it", codeOf(seven, sets(0, 0), stores(0, 0, 1)), codeOf(seven, stores(0, 0, 1), sets(0, 0)), yes},
		{"the last register set ahead of a store over what is behind, and behind it", codeOf(seven, six, sets(3, 0), stores(1, 0, 0)), codeOf(seven, six, stores(1, 0, 0), sets(3, 0)), yes},
		{"twice set, a store between", codeOf(eight, sets(0, 0), b, stores(2, 2, 1), seven, sets(0, 4)), codeOf(b, stores(0, 0, 1), seven, sets(0, 2)), yes},
		{"set between two stores, and behind both", codeOf(b, c, seven, stores(0, 0, 0), sets(3, 2), stores(1, 2, 1)), codeOf(b, c, seven, stores(0, 0, 0), stores(1, 2, 1), sets(3, 2)), yes},
		{"set ahead of a load that never misses, and behind it", codeOf(constant(40), sets(0, 0), loads(0, 1)), codeOf(constant(40), loads(0, 1), sets(0, 0)), false},
		{"set ahead of a store over what is done, and behind it", codeOf(constant(40), sets(0, 0), stores(0, 0, 1)), codeOf(constant(40), stores(0, 0, 1), sets(0, 0)), false},

		{"At of a load", codeOf(b, loads(0, 0)), codeOf(b, loads(0, 2)), yes},
		{"At of a store", codeOf(b, stores(0, 0, 0)), codeOf(b, stores(0, 0, 1)), yes},
		{"At of a store over what is behind", codeOf(six, stores(0, 0, 0)), codeOf(six, stores(0, 0, 1)), yes},
		{"At of what comes in", codeOf(letsIn(0)), codeOf(letsIn(1)), false},
		{"At of what goes out", codeOf(a, letsOut(0, 0)), codeOf(a, letsOut(0, 2)), false},

		{"two that go out turned round", codeOf(a, b, letsOut(0, 1), letsOut(1, 1)), codeOf(a, b, letsOut(1, 1), letsOut(0, 1)), yes},
		{"two that come in turned round", codeOf(letsIn(0), letsIn(1), sets(0, 0), sets(1, 1)), codeOf(letsIn(0), letsIn(1), sets(0, 1), sets(1, 0)), yes},
		{"two that are loaded turned round", codeOf(a, b, loads(0, 1), loads(1, 1), sets(2, 2), sets(3, 3)), codeOf(a, b, loads(0, 1), loads(1, 1), sets(2, 3), sets(3, 2)), yes},
		{"two loads turned round", codeOf(a, b, loads(0, 1), loads(1, 2)), codeOf(a, b, loads(1, 2), loads(0, 1)), yes},
		{"two stores turned round", codeOf(a, b, stores(0, 0, 1), stores(0, 1, 1)), codeOf(a, b, stores(0, 1, 1), stores(0, 0, 1)), yes},
		{"a load and a store turned round", codeOf(a, b, loads(0, 1), stores(0, 1, 1), sets(2, 2)), codeOf(a, b, stores(0, 1, 1), loads(0, 1), sets(2, 3)), yes},
		{"a load and what goes out turned round", codeOf(a, b, letsOut(1, 1), loads(0, 1)), codeOf(a, b, loads(0, 1), letsOut(1, 1)), yes},
		{"a store and what comes in turned round", codeOf(a, letsIn(1), stores(0, 0, 1)), codeOf(a, stores(0, 0, 1), letsIn(1)), yes},
		{"what comes in and goes out turned round", codeOf(a, letsIn(1), letsOut(0, 1)), codeOf(a, letsOut(0, 1), letsIn(1)), false},

		{"loaded twice, and once", codeOf(a, loads(0, 1), loads(0, 1), sets(1, 1), sets(2, 2)), codeOf(a, loads(0, 1), sets(1, 1), sets(2, 1)), false},
		{"loaded twice, the first or the second one taken", codeOf(a, b, loads(0, 1), stores(0, 1, 1), loads(0, 1), sets(2, 2)), codeOf(a, b, loads(0, 1), stores(0, 1, 1), loads(0, 1), sets(2, 4)), yes},
		{"loaded and not used, and not loaded", codeOf(a, loads(0, 1)), codeOf(a), yes},
		{"loaded from where it is, and not loaded", codeOf(constant(40), loads(0, 1)), codeOf(), false},
		{"stored twice, and once", codeOf(a, stores(0, 0, 1), stores(0, 0, 1)), codeOf(a, stores(0, 0, 1)), false},
		{"what was stored is loaded, and is known", codeOf(constant(40), seven, stores(0, 1, 1), loads(0, 1), sets(0, 3)), codeOf(constant(40), seven, stores(0, 1, 1), sets(0, 1)), false},
		{"in and not used, and not let in", codeOf(letsIn(0)), codeOf(), yes},
		{"in twice, and once", codeOf(letsIn(0), letsIn(0), sets(0, 0)), codeOf(letsIn(0), sets(0, 0)), yes},
		{"out twice, and once", codeOf(a, letsOut(0, 0), letsOut(0, 0)), codeOf(a, letsOut(0, 0)), yes},
		{"what is loaded, and what comes in", codeOf(a, loads(0, 1), sets(1, 1)), codeOf(a, letsIn(1), sets(1, 1)), yes},
		{"what is stored, and what is loaded", codeOf(a, stores(0, 0, 1)), codeOf(a, loads(0, 1)), yes},

		{"what is stored", codeOf(a, b, c, stores(0, 1, 1)), codeOf(a, b, c, stores(0, 2, 1)), yes},
		{"what is stored, and where, turned round", codeOf(a, b, stores(0, 1, 1)), codeOf(a, b, stores(1, 0, 1)), yes},
		{"where it is stored", codeOf(a, b, c, stores(0, 2, 1)), codeOf(a, b, c, stores(1, 2, 1)), yes},
		{"where it is stored, by one", codeOf(constant(40), a, stores(0, 1, 1)), codeOf(constant(41), a, stores(0, 1, 1)), yes},
		{"where it is loaded", codeOf(a, b, loads(0, 1), sets(2, 2)), codeOf(a, b, loads(1, 1), sets(2, 2)), yes},
		{"where it is loaded, and not used", codeOf(a, b, loads(0, 1)), codeOf(a, b, loads(1, 1)), yes},
		{"what goes out", codeOf(a, b, letsOut(0, 1)), codeOf(a, b, letsOut(1, 1)), yes},
		{"what goes out of two that are loaded", codeOf(a, b, loads(0, 1), loads(1, 1), letsOut(2, 1)), codeOf(a, b, loads(0, 1), loads(1, 1), letsOut(3, 1)), yes},

		{"less in either order", on(impl.EndLess, 0, 1, 20, a, b), on(impl.EndLess, 1, 0, 20, a, b), yes},
		{"less and the same", on(impl.EndLess, 0, 1, 20, a, b), on(impl.EndSame, 0, 1, 20, a, b), yes},
		{"the same as another one", on(impl.EndSame, 0, 1, 20, a, b, c), on(impl.EndSame, 0, 2, 20, a, b, c), yes},
		{"less than another one", on(impl.EndLess, 0, 1, 20, a, b, c), on(impl.EndLess, 0, 2, 20, a, b, c), yes},
		{"at another word", on(impl.EndWord, 0, 0, 0, a, b), on(impl.EndWord, 1, 0, 0, a, b), yes},
		{"at a word, and at a place", on(impl.EndWord, 0, 0, 0, a), codeOf(a), yes},
		{"at another known word", on(impl.EndWord, 0, 0, 0, constant(21)), codeOf(), yes},
		{"at another place", codeOf(), on(impl.EndGo, 0, 0, 21), yes},
		{"at another place, if two are the same", on(impl.EndSame, 0, 1, 20, a, b), on(impl.EndSame, 0, 1, 21, a, b), yes},
		{"at another place, if one is less", on(impl.EndLess, 0, 1, 20, a, b), on(impl.EndLess, 0, 1, 21, a, b), yes},
		{"at the place behind, if a register is one, and always", on(impl.EndSame, 0, 1, 8, a, b), on(impl.EndGo, 0, 0, 8), false},
		{"less than 0, and never", on(impl.EndLess, 0, 1, 20, a, constant(0)), on(impl.EndGo, 0, 0, 8), false},
		{"the same as one more, and never", on(impl.EndSame, 0, 2, 20, a, constant(1), reckons(impl.OpAdd, 0, 1)), on(impl.EndGo, 0, 0, 8), false},

		{"bits that are gone, which nobody sees", codeOf(a, b, reckons(impl.OpXor, 0, 1), reckons(impl.OpXor, 2, 1), sets(2, 3)), codeOf(a, sets(2, 0)), false},
		{"bits taken twice, which nobody sees", codeOf(a, constant(1), reckons(impl.OpAnd, 0, 1), reckons(impl.OpAnd, 2, 1), sets(2, 3)), codeOf(a, constant(1), reckons(impl.OpAnd, 0, 1), sets(2, 2)), false},
	}
}

// otherwise is a machine that two pieces of code leave otherwise; false, if none is found.
func (d *dice) otherwise(b, c impl.IrBlock) (impl.MchMach, bool) {
	for _, m := range d.manyAt(b, 400) {
		if !alike(b, c, m) {
			return m, true
		}
	}
	return impl.MchMach{}, false
}

func TestP4WhatCanBeSeen(t *testing.T) {
	d := dice(404404404)
	for _, p := range seenPairs() {
		if !impl.IrOk(p.b) || !impl.IrOk(p.c) {
			t.Fatalf("%s: not ok: %+v, %+v", p.what, p.b, p.c)
		}
		holdStands(t, p.what, p.b, p.c, false)
		if _, found := d.otherwise(p.b, p.c); found != p.found {
			t.Fatalf("%s: a machine that both leave otherwise is found: %v", p.what, found)
		}
	}
}

// What is set ahead of a store is seen at each place where the store leaves the code, and nowhere else.
func TestP4AheadOfAStore(t *testing.T) {
	for long := 1; long <= 8; long++ {
		for at := range long {
			for register := range 4 {
				for address := range 70 {
					b := impl.IrBlock{Pc: 30, Len: long, Ops: opsOf(constant(address), constant(777), sets(register, 1), stores(0, 1, at)), End: impl.EndGo, K: 20}
					c := turnedCode(b, func(b *impl.IrBlock) { b.Ops[2], b.Ops[3] = b.Ops[3], b.Ops[2] })
					holdStands(t, "set ahead of a store, and behind it", b, c, false)
					left := address > 63 || address > 30+at && address < 30+long
					if alike(b, c, standing(b)) == left {
						t.Fatalf("%+v and %+v leave a machine alike: %v", b, c, !left)
					}
				}
			}
		}
	}
}

// Sums that are too great to be told are atoms: the same, if both are of the same sums; and else nobody sees that they are.
func TestP4SumsThatAreTooGreat(t *testing.T) {
	add, sub, mul := impl.OpAdd, impl.OpSub, impl.OpMul
	a, b := gets(0), gets(1)
	// The place 2 is a register four times multiplied, 1 twice.
	fourTimes := func(more ...impl.IrOp) impl.IrBlock {
		return codeOf(append(opsOf(a, reckons(mul, 0, 0), reckons(mul, 1, 1)), more...)...)
	}
	// The places 3 to 14 are words that come in, 26 is the sum of all twelve.
	twelve := func(order []int, more ...impl.IrOp) impl.IrBlock {
		ops := opsOf(a, b, gets(2))
		for range 12 {
			ops = append(ops, letsIn(1))
		}
		ops = append(ops, constant(0))
		for _, k := range order {
			ops = append(ops, reckons(add, len(ops)-1, 3+k))
		}
		return codeOf(append(ops, more...)...)
	}
	up, down := []int{0, 1, 2, 3, 4, 5, 6, 7, 8, 9, 10, 11}, []int{11, 10, 9, 8, 7, 6, 5, 4, 3, 2, 1, 0}
	d := dice(414141417)
	for _, c := range []struct {
		codePair
		want bool
	}{
		{codePair{"five times", fourTimes(reckons(mul, 2, 0), sets(1, 3)), fourTimes(reckons(mul, 2, 0), constant(1), sets(1, 3)), false}, true},
		{codePair{"five times, in the other order", fourTimes(reckons(mul, 2, 0), sets(1, 3)), fourTimes(reckons(mul, 0, 2), sets(1, 3)), false}, true},
		{codePair{"five times, by three and two", fourTimes(reckons(mul, 2, 0), sets(1, 3)), fourTimes(reckons(mul, 1, 0), reckons(mul, 3, 1), sets(1, 4)), false}, false},
		{codePair{"five times, and six times", fourTimes(reckons(mul, 2, 0), sets(1, 3)), fourTimes(reckons(mul, 2, 1), sets(1, 3)), true}, false},
		{codePair{"eight times, of others", fourTimes(reckons(mul, 2, 2), sets(1, 3)), fourTimes(b, reckons(mul, 2, 3), sets(1, 4)), true}, false},
		{codePair{"less itself", fourTimes(reckons(mul, 2, 2), reckons(mul, 2, 2), reckons(sub, 3, 4), sets(1, 5)), codeOf(constant(0), sets(1, 0)), false}, true},
		{codePair{"2 times, and a sum", fourTimes(reckons(mul, 2, 2), reckons(add, 3, 3), sets(1, 4)), fourTimes(reckons(mul, 2, 2), constant(2), reckons(mul, 3, 4), sets(1, 5)), false}, true},
		{codePair{"not used", fourTimes(reckons(mul, 2, 2), reckons(mul, 3, 3)), codeOf(), false}, true},
		{codePair{"too great, and word by word undone", fourTimes(reckons(mul, 2, 2), b, reckons(add, 3, 4), reckons(sub, 5, 3), sets(2, 6)), codeOf(b, sets(2, 0)), false}, true},
		{codePair{"at what is too great", ended(fourTimes(reckons(mul, 2, 0)), impl.EndWord, 3, 0, 0), ended(fourTimes(b, reckons(mul, 0, 2)), impl.EndWord, 4, 0, 0), false}, true},

		{codePair{"twelve, in either order", twelve(up, sets(0, 27)), twelve(down, sets(0, 27)), false}, true},
		{codePair{"thirteen", twelve(up, reckons(add, 27, 0), sets(0, 28)), twelve(up, constant(7), reckons(add, 0, 27), sets(0, 29)), false}, true},
		{codePair{"thirteen, the twelve in either order", twelve(up, reckons(add, 27, 0), sets(0, 28)), twelve(down, reckons(add, 27, 0), sets(0, 28)), false}, true},
		{codePair{"thirteen, another one last", twelve(up, reckons(add, 27, 0), sets(0, 28)), twelve(down, reckons(add, 26, 0), reckons(add, 28, 3), sets(0, 29)), false}, false},
		{codePair{"thirteen, of others", twelve(up, reckons(add, 27, 0), sets(0, 28)), twelve(up, reckons(add, 27, 1), sets(0, 28)), true}, false},
		{codePair{"thirteen, one less", twelve(up, reckons(add, 27, 0), sets(0, 28)), twelve(up, reckons(sub, 27, 0), sets(0, 28)), true}, false},
		{codePair{"a difference of thirteen", twelve(up, reckons(sub, 27, 0), sets(0, 28)), twelve(down, reckons(sub, 27, 0), sets(0, 28)), false}, true},
		{codePair{"a difference of thirteen, in the other order", twelve(up, reckons(sub, 27, 0), sets(0, 28)), twelve(up, reckons(sub, 0, 27), sets(0, 28)), true}, false},
		{codePair{"thirteen, and back to twelve", twelve(up, reckons(add, 27, 0), reckons(sub, 28, 0), sets(0, 29)), twelve(up, sets(0, 27)), false}, false},
		{codePair{"twelve times two, and spread", twelve(up, reckons(add, 0, 1), reckons(mul, 27, 28), sets(0, 29)), twelve(down, reckons(add, 1, 0), reckons(mul, 28, 27), sets(0, 29)), false}, true},
	} {
		if !impl.IrOk(c.b) || !impl.IrOk(c.c) {
			t.Fatalf("%s: not ok: %+v, %+v", c.what, c.b, c.c)
		}
		holdStands(t, c.what, c.b, c.c, c.want)
		if wantedStand(c.b, c.c) != c.want {
			t.Fatalf("%s: the second telling is %v", c.what, !c.want)
		}
		if _, found := d.otherwise(c.b, c.c); found != c.found {
			t.Fatalf("%s: a machine that both leave otherwise is found: %v", c.what, found)
		}
	}
}

// Two pieces of code that put as many atoms as there may be, none of them in common but the registers.
func TestP40ManyAtoms(t *testing.T) {
	chain := func(op, last int, more ...impl.IrOp) impl.IrBlock {
		ops := opsOf(gets(0), gets(1))
		for len(ops) < 48-len(more) {
			ops = append(ops, reckons(op, len(ops)-2, len(ops)-1))
		}
		return on(impl.EndGo, 0, 0, last, append(ops, more...)...)
	}
	b, c := chain(impl.OpAnd, 20), chain(impl.OpXor, 20)
	tab, _ := impl.SymRun(fourRegisters(), b)
	tab, _ = impl.SymRun(tab, c)
	if len(tab.Atoms) != 96 {
		t.Fatalf("there are %d atoms", len(tab.Atoms))
	}
	holdStands(t, "nobody uses them", b, c, true)
	holdStands(t, "they go on elsewhere", b, chain(impl.OpXor, 21), false)
	holdStands(t, "one is used", chain(impl.OpAnd, 20, sets(3, 46)), chain(impl.OpXor, 20, sets(3, 46)), false)
	holdStands(t, "another one is used", chain(impl.OpAnd, 20, sets(3, 46)), chain(impl.OpAnd, 20, sets(3, 45)), false)
	holdStands(t, "one is used in both", chain(impl.OpAnd, 20, constant(5), sets(3, 45)), chain(impl.OpAnd, 20, gets(2), sets(3, 45)), true)
	in, load := codeOf(slices.Repeat(opsOf(letsIn(1)), 48)...), codeOf(slices.Insert(slices.Repeat(opsOf(loads(0, 1)), 47), 0, constant(40))...)
	holdStands(t, "all come in, and all but one are loaded", in, load, false)
	holdStands(t, "one fewer comes in", in, codeOf(slices.Insert(slices.Repeat(opsOf(letsIn(1)), 47), 0, constant(40))...), false)
}

// renumbered is a piece of code whose words are at other places.
func renumbered(b impl.IrBlock, place func(int) int) impl.IrBlock {
	b = turnedCode(b, func(*impl.IrBlock) {})
	for at := range b.Ops {
		o := &b.Ops[at]
		if row := kindRows[o.Kind]; row.x {
			o.X = place(o.X)
		}
		if row := kindRows[o.Kind]; row.y {
			o.Y = place(o.Y)
		}
	}
	if endRows[b.End].x {
		b.X = place(b.X)
	}
	if endRows[b.End].y {
		b.Y = place(b.Y)
	}
	return b
}

// withOp is a piece of code with one operation more at a place.
func withOp(b impl.IrBlock, place int, o impl.IrOp) impl.IrBlock {
	b = renumbered(b, func(n int) int {
		if n >= place {
			return n + 1
		}
		return n
	})
	b.Ops = slices.Insert(b.Ops, place, o)
	return b
}

// withoutOp is a piece of code without the operation at a place; it is not ok, or another code, if that was used.
func withoutOp(b impl.IrBlock, place int) impl.IrBlock {
	b = renumbered(b, func(n int) int {
		if n >= place {
			return n - 1
		}
		return n
	})
	b.Ops = slices.Delete(b.Ops, place, place+1)
	return b
}

// swapped is a piece of code with the operation at a place behind the next one; it is not ok, if that is of it.
func swapped(b impl.IrBlock, place int) impl.IrBlock {
	b = renumbered(b, func(n int) int {
		switch n {
		case place:
			return place + 1
		case place + 1:
			return place
		}
		return n
	})
	b.Ops[place], b.Ops[place+1] = b.Ops[place+1], b.Ops[place]
	return b
}

// madeAhead are the places of words that code makes ahead of one.
func madeAhead(b impl.IrBlock, place int) []int {
	var out []int
	for at, o := range b.Ops[:place] {
		if kindRows[o.Kind].word {
			out = append(out, at)
		}
	}
	return out
}

// anyOpAt is an operation that may stand at a place of code and does not reach out.
func (d *dice) anyOpAt(b impl.IrBlock, place int) impl.IrOp {
	made := madeAhead(b, place)
	if len(made) == 0 || d.below(3) == 0 {
		return []impl.IrOp{constant(d.anyWord()), gets(d.below(4))}[d.below(2)]
	}
	return []impl.IrOp{reckons(d.of(allOps...), d.of(made...), d.of(made...)), sets(d.below(4), d.of(made...))}[d.below(2)]
}

// otherHand is what somebody makes of a piece of code, who turns one thing in it, whether or not that can be seen; it may be no code any more.
func (d *dice) otherHand(b impl.IrBlock) impl.IrBlock {
	many := len(b.Ops)
	place := d.below(many + 1)
	switch way := d.below(9); {
	case way == 0:
		return withOp(b, place, d.anyOpAt(b, place))
	case way == 1:
		k := d.below(4)
		return withOp(withOp(b, place, gets(k)), place+1, sets(k, place))
	case way == 2 && many > 1:
		return swapped(b, d.below(many-1))
	case way == 3:
		return ended(b, b.End, b.Y, b.X, b.K)
	case place == many:
		return b
	}
	o := b.Ops[place]
	switch d.below(6) {
	case 0:
		return withoutOp(b, place)
	case 1:
		return d.reckonedOtherwise(b, place)
	case 2, 3:
		if o.Kind == impl.IrSet {
			// A register is set to something else ahead, which may be seen.
			return withOp(b, place, sets(o.K, d.of(madeAhead(b, place)...)))
		}
		if o.Kind == impl.IrStore || o.Kind == impl.IrLoad {
			k := d.below(4)
			return withOp(withOp(b, place, constant(d.below(70))), place+1, sets(k, place))
		}
		return swapped(withOp(b, place, constant(7)), place)
	case 4:
		row := kindRows[o.Kind]
		if row.at {
			o.At = d.below(b.Len)
		} else {
			o.K = d.of(max(row.least, o.K-1), min(row.most, o.K+1))
		}
	case 5:
		if made := madeAhead(b, place); kindRows[o.Kind].x && len(made) > 0 {
			o.X = d.of(made...)
		}
	}
	return turnedCode(b, func(b *impl.IrBlock) { b.Ops[place] = o })
}

// reckonedOtherwise is a piece of code that reckons at a place, if it does, in another way that comes to the same.
func (d *dice) reckonedOtherwise(b impl.IrBlock, place int) impl.IrBlock {
	o := b.Ops[place]
	if o.Kind != impl.IrDo {
		return b
	}
	x, y := b.Ops[o.X], b.Ops[o.Y]
	switch {
	case x.Kind == impl.IrConst && y.Kind == impl.IrConst:
		o = constant(reckoned(o.K, x.K, y.K))
	case o.K == impl.OpAdd && o.X == o.Y:
		b, o = withOp(b, place, constant(2)), reckons(impl.OpMul, place, o.X)
		place++
	case o.K == impl.OpSub && o.X == o.Y, o.K == impl.OpXor && o.X == o.Y:
		o = constant(0)
	case o.K == impl.OpSub:
		b = withOp(withOp(b, place, constant(65535)), place+1, reckons(impl.OpMul, place, o.Y))
		o = reckons(impl.OpAdd, place+1, o.X)
		place += 2
	default:
		o.X, o.Y = o.Y, o.X
	}
	return turnedCode(b, func(b *impl.IrBlock) { b.Ops[place] = o })
}

// otherHands is a piece of code that is ok, made of another one by one to four turns.
func (d *dice) otherHands(b impl.IrBlock) impl.IrBlock {
	out := b
	for range 1 + d.below(4) {
		if next := d.otherHand(out); wantedCode(next) {
			out = next
		}
	}
	return out
}

// Whatever somebody makes of code: if it may stand for it, each machine is left alike; and it is seen, if it is.
func TestP4WhateverSomebodyMakes(t *testing.T) {
	d := dice(444444441)
	stands, other, found := 0, 0, 0
	left := map[string]int{}
	for range 6000 {
		b := d.anySeen()
		c := d.otherHands(b)
		want := wantedStand(b, c)
		holdStands(t, "what somebody makes", b, c, want)
		switch {
		case sameBlock(b, c):
			continue
		case !want:
			other++
			for range 6 {
				if !alike(b, c, d.anyAt(b)) {
					found++
					break
				}
			}
			continue
		}
		stands++
		for _, m := range d.manyAt(b, 12) {
			holdAlike(t, "what somebody makes", b, c, m)
			if x, through := impl.IrRun(c, m); !through {
				left["not gone through"]++
			} else if x.Halt == impl.HaltReach {
				left["missed"]++
			} else if x.Count-m.Count < c.Len {
				left["over"]++
			} else {
				left["whole"]++
			}
		}
	}
	if stands < 1000 || other < 1000 || found < 500 {
		t.Fatalf("%d may stand for it, %d may not, and %d of these leave a machine otherwise", stands, other, found)
	}
	for _, how := range []string{"not gone through", "missed", "over", "whole"} {
		if left[how] < 1000 {
			t.Fatalf("left: %v", left)
		}
	}
}

// Any two pieces of code at one place, few of which may stand for each other, and short ones, many of which may.
func TestP42AnyTwo(t *testing.T) {
	d := dice(424242421)
	short := func() impl.IrBlock {
		b := impl.IrBlock{Pc: 5, Len: 2, End: impl.EndGo, K: d.of(7, 7, 20)}
		for range d.below(4) {
			place := len(b.Ops)
			made := madeAhead(b, place)
			if len(made) == 0 || d.below(4) == 0 {
				b.Ops = append(b.Ops, []impl.IrOp{constant(d.below(2)), gets(d.below(2)), letsIn(d.below(2))}[d.below(3)])
				continue
			}
			x, y := d.of(made...), d.of(made...)
			b.Ops = append(b.Ops, []impl.IrOp{reckons(d.of(allOps...), x, y), sets(d.below(2), x), loads(x, 0), stores(x, y, 0), letsOut(x, d.below(2))}[d.below(5)])
		}
		return b
	}
	stands, reach := 0, 0
	for range 20000 {
		b, c := short(), short()
		if d.below(2) == 0 {
			c = d.otherHands(b)
		}
		want := wantedStand(b, c)
		holdStands(t, "any two", b, c, want)
		if !want {
			continue
		}
		holdAlike(t, "any two", b, c, d.anyAt(b))
		if !sameBlock(b, c) {
			stands++
			reach += impl.IrEvents(b)
		}
	}
	if stands < 2000 || reach < 1000 {
		t.Fatalf("only %d may stand for each other, with %d operations that reach out", stands, reach)
	}
}

// One operation that reaches out more, at any place, is seen, and so is one less, and one of another kind.
func TestP42OneMoreOrLess(t *testing.T) {
	d := dice(420042004)
	for range 1500 {
		b := d.anySeen()
		place := d.below(len(b.Ops) + 1)
		more := opsOf(letsIn(d.below(b.Len)))
		if made := madeAhead(b, place); len(made) > 0 {
			x, at := d.of(made...), d.below(b.Len)
			more = append(more, loads(x, at), stores(x, d.of(made...), at), letsOut(x, at))
		}
		for _, o := range more {
			c := withOp(b, place, o)
			holdStands(t, "one more", b, c, false)
			for _, p := range more {
				holdStands(t, "one of another kind", withOp(b, place, p), c, o == p && wantedCode(c))
			}
		}
	}
}

func TestP4InstructionsThatDoTheSame(t *testing.T) {
	d := dice(440000017)
	stands := 0
	for range 4000 {
		pc, list := d.anyPiece()
		other := slices.Clone(list)
		i := &other[d.below(len(other))]
		switch {
		case i.Op == impl.InsShift && i.K == 1:
			*i = impl.InsIns{Op: impl.InsAdd, D: i.D, A: i.A, K: i.A}
		case i.Op == impl.InsAdd || i.Op == impl.InsMul || i.Op == impl.InsAnd || i.Op == impl.InsXor || i.Op == impl.InsSub:
			i.A, i.K = i.K, i.A
		case i.Op == impl.InsSame:
			i.D, i.A = i.A, i.D
		case i.Op == impl.InsMove:
			*i = impl.InsIns{Op: impl.InsShift, D: i.D, A: i.A}
		default:
			continue
		}
		b, c := impl.BlkLower(pc, list), impl.BlkLower(pc, other)
		want := wantedStand(b, c)
		holdStands(t, "instructions", b, c, want)
		if i.Op != impl.InsSub && !want {
			t.Fatalf("%v may not stand for %v", other, list)
		}
		if !want {
			continue
		}
		stands++
		for range 4 {
			holdAlike(t, "instructions", b, c, d.anyThere(pc, list))
		}
	}
	if stands < 1000 {
		t.Fatalf("only %d may stand for each other", stands)
	}
}

func TestP38NothingIsWrittenInto(t *testing.T) {
	d := dice(389389389)
	for round := range 1500 {
		_, a := impl.SymRun(fourRegisters(), d.anySeen())
		b := wholePlain(a)
		switch round % 4 {
		case 0:
			_, b = impl.SymRun(fourRegisters(), d.anySeen())
		case 1:
			a, b = d.anySymAtAll(), d.anySymAtAll()
		case 2:
			a, b = spoiltSym(), spoiltSym()
		}
		want := sameSym(a, b)
		a, b = lentSym(a), lentSym(b)
		first, second := wholeSym(a), wholeSym(b)
		holdSymSame(t, "lists with spare room", a, b, want)
		if !sameSym(wholeSym(a), first) || !sameSym(wholeSym(b), second) {
			t.Fatalf("what was given is written into: %+v, %+v", first, second)
		}
	}
}

func TestP40NothingIsWrittenInto(t *testing.T) {
	d := dice(409409409)
	for round := range 1500 {
		b := d.anySeen()
		c := d.otherHands(b)
		switch round % 8 {
		case 0:
			c = b
		case 1:
			b.End = 9
		case 2:
			c = d.anySeen()
		}
		want, same := wantedStand(b, c), sameBlock(b, c)
		b, c = lentCode(b), lentCode(c)
		first, second := slices.Clone(b.Ops[:cap(b.Ops)]), slices.Clone(c.Ops[:cap(c.Ops)])
		for range 2 {
			holdStands(t, "lists with spare room", b, c, want)
			holdIrSame(t, "lists with spare room", b, c, same)
		}
		if !slices.Equal(b.Ops[:cap(b.Ops)], first) || !slices.Equal(c.Ops[:cap(c.Ops)], second) {
			t.Fatalf("what was given is written into: %v, %v", first, second)
		}
	}
}
