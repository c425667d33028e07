package tests

import (
	"cmp"
	"fmt"
	"math"
	"reflect"
	"runtime"
	"slices"
	"testing"

	"loop.example/latimer/impl"
)

// The signatures that the document gives; another one would not compile here.
var (
	_ func(impl.TabTab) bool                                                         = impl.TabOk
	_ func(impl.TabTab, impl.TabAtom) (impl.TabTab, int)                             = impl.TabPut
	_ func(impl.TabTab, int, impl.TrmPoly, impl.TrmPoly) (impl.TabTab, impl.TrmPoly) = impl.TabDo
	_ func(impl.TabTab, []int, []int, []int) []int                                   = impl.TabVals
)

// noTab is no atoms.
var noTab = impl.TabTab{}

func register(k int) impl.TabAtom { return impl.TabAtom{Kind: impl.AtmReg, K: k} }
func loaded(k int) impl.TabAtom   { return impl.TabAtom{Kind: impl.AtmLoad, K: k} }
func cameIn(k int) impl.TabAtom   { return impl.TabAtom{Kind: impl.AtmIn, K: k} }

func did(op int, x, y impl.TrmPoly) impl.TabAtom {
	return impl.TabAtom{Kind: impl.AtmDo, K: op, X: x, Y: y}
}

func tabOf(atoms ...impl.TabAtom) impl.TabTab {
	return impl.TabTab{Atoms: atoms}
}

// with is atoms with some more behind, told by hand.
func with(t impl.TabTab, more ...impl.TabAtom) impl.TabTab {
	return impl.TabTab{Atoms: slices.Concat(t.Atoms, more)}
}

// base is all registers, and twenty words that are loaded.
func base() impl.TabTab {
	out := tabOf(register(0), register(1), register(2), register(3))
	for k := range 20 {
		out = with(out, loaded(k))
	}
	return out
}

// filledUp is atoms, and words that come in behind them, up to so many in all.
func filledUp(t impl.TabTab, many int) impl.TabTab {
	for k := 0; len(t.Atoms) < many; k++ {
		t = with(t, cameIn(k))
	}
	return t
}

func sameAtom(a, b impl.TabAtom) bool {
	return a.Kind == b.Kind && a.K == b.K && sameSum(a.X, b.X) && sameSum(a.Y, b.Y)
}

func sameTab(a, b impl.TabTab) bool {
	return slices.EqualFunc(a.Atoms, b.Atoms, sameAtom)
}

// holdPut fails unless atoms, and a number beside them, are the wanted ones.
func holdPut(t *testing.T, what string, got impl.TabTab, place int, want impl.TabTab, wantPlace int) {
	t.Helper()
	if !sameTab(got, want) || place != wantPlace {
		t.Fatalf("%s:\n got %d, %v\nwant %d, %v", what, place, got, wantPlace, want)
	}
}

// holdDone fails unless atoms, and a sum beside them, are the wanted ones.
func holdDone(t *testing.T, what string, got impl.TabTab, sum impl.TrmPoly, want impl.TabTab, wantSum impl.TrmPoly) {
	t.Helper()
	if !sameTab(got, want) || !sameSum(sum, wantSum) {
		t.Fatalf("%s:\n got %v of %v\nwant %v of %v", what, sum, got, wantSum, want)
	}
}

// sumStands says by hand whether a sum is ok, and made of the first so many atoms.
func sumStands(p impl.TrmPoly, many int) bool {
	if len(p.Monos) > 12 {
		return false
	}
	for at, x := range p.Monos {
		if x.Coef < 1 || x.Coef > 65535 || len(x.Atoms) > 4 || at > 0 && stands(p.Monos[at-1].Atoms, x.Atoms) != -1 {
			return false
		}
		for place, k := range x.Atoms {
			if k < 0 || k >= many || place > 0 && x.Atoms[place-1] > k {
				return false
			}
		}
	}
	return true
}

// wantedAtom is what the document asks of an atom at a place.
func wantedAtom(a impl.TabAtom, place int) bool {
	most := map[int]int{1: 3, 2: 199, 3: 199, 4: 5}
	least := map[int]int{4: 1}
	if top, there := most[a.Kind]; !there || a.K < least[a.Kind] || a.K > top {
		return false
	}
	if a.Kind != 4 {
		return len(a.X.Monos)+len(a.Y.Monos) == 0
	}
	return sumStands(a.X, place) && sumStands(a.Y, place)
}

// wantedTab is what the document asks of atoms, each held against all ahead of it.
func wantedTab(t impl.TabTab) bool {
	for place, a := range t.Atoms {
		if !wantedAtom(a, place) || slices.ContainsFunc(t.Atoms[:place], func(b impl.TabAtom) bool { return sameAtom(a, b) }) {
			return false
		}
	}
	return len(t.Atoms) <= 200
}

// wantedPut is what the document asks of TabPut.
func wantedPut(t impl.TabTab, a impl.TabAtom) (impl.TabTab, int) {
	if !wantedTab(t) {
		return noTab, -1
	}
	if place := slices.IndexFunc(t.Atoms, func(b impl.TabAtom) bool { return sameAtom(a, b) }); place >= 0 {
		return t, place
	}
	if !wantedAtom(a, len(t.Atoms)) || len(t.Atoms) == 200 {
		return t, -1
	}
	return with(t, a), len(t.Atoms)
}

// wordIn is the word that a sum is.
func wordIn(p impl.TrmPoly) (int, bool) {
	switch {
	case len(p.Monos) == 0:
		return 0, true
	case len(p.Monos) == 1 && len(p.Monos[0].Atoms) == 0:
		return p.Monos[0].Coef, true
	}
	return 0, false
}

// wantedPlain is what the document asks for without an atom; false, if it asks for one.
func wantedPlain(op int, x, y impl.TrmPoly) (impl.TrmPoly, bool) {
	switch op {
	case impl.OpAdd:
		return wantedAdd(x, y)
	case impl.OpSub:
		minus, _ := wantedMul(sumOf(part(65535)), y)
		return wantedAdd(x, minus)
	case impl.OpMul:
		return wantedMul(x, y)
	}
	a, aOk := wordIn(x)
	b, bOk := wordIn(y)
	switch {
	case aOk && bOk:
		if n := reckoned(op, a, b); n != 0 {
			return sumOf(part(n)), true
		}
		return nothing, true
	case sameSum(x, y) && op == impl.OpAnd:
		return x, true
	case sameSum(x, y):
		return nothing, true
	case op == impl.OpAnd && (aOk && a == 0 || bOk && b == 0):
		return nothing, true
	case op == impl.OpAnd && aOk && a == 65535, op == impl.OpXor && aOk && a == 0:
		return y, true
	case op == impl.OpAnd && bOk && b == 65535, op == impl.OpXor && bOk && b == 0:
		return x, true
	}
	return nothing, false
}

// wantedDo is what the document asks of TabDo.
func wantedDo(t impl.TabTab, op int, x, y impl.TrmPoly) (impl.TabTab, impl.TrmPoly) {
	if !wantedTab(t) || op < 1 || op > 5 || !sumStands(x, len(t.Atoms)) || !sumStands(y, len(t.Atoms)) {
		return noTab, nothing
	}
	if out, ok := wantedPlain(op, x, y); ok {
		return t, out
	}
	if op != impl.OpSub && wantedOrder(y, x) == -1 {
		x, y = y, x
	}
	out, place := wantedPut(t, did(op, x, y))
	if place == -1 {
		return noTab, nothing
	}
	return out, sumOf(part(1, place))
}

// wantedVals is what the document asks of TabVals, of atoms and words that are ok.
func wantedVals(t impl.TabTab, regs, loads, ins []int) []int {
	var out []int
	for _, a := range t.Atoms {
		val := 0
		if a.Kind == impl.AtmDo {
			val = reckoned(a.K, wantedEval(a.X, out), wantedEval(a.Y, out))
		} else if list := [][]int{regs, loads, ins}[a.Kind-1]; a.K < len(list) {
			val = list[a.K]
		}
		out = append(out, val)
	}
	return out
}

// anySumOf is a sum that is ok of the first so many atoms, mostly of the last and the first few; now and then a word.
func (d *dice) anySumOf(many int) impl.TrmPoly {
	switch kind := d.below(8); {
	case many == 0 || kind == 0:
		return impl.PolConst(d.of(0, 1, 65535, d.anyWord()))
	case kind == 1:
		return impl.PolAtom(d.below(many))
	case kind <= 3 && many >= 12:
		// Odd, so that no part comes to 0.
		return impl.PolScale(atomsFrom(d.below(many-11), 12), d.of(1, 3, 65535))
	}
	few := []int{d.below(many), d.below(many), many - 1, 0, min(1, many-1)}
	return d.anySum(d.of(1, 2, 3, 3, 12), d.of(1, 1, 2, 4), few...)
}

// anyAtom is an atom that is ok behind so many.
func (d *dice) anyAtom(many int) impl.TabAtom {
	switch d.below(7) {
	case 0:
		return register(d.below(4))
	case 1:
		return loaded(d.of(0, 1, 2, 3, 4, 199, d.below(200)))
	case 2:
		return cameIn(d.of(0, 1, 2, 3, 4, 199, d.below(200)))
	}
	return did(d.of(allOps...), d.anySumOf(many), d.anySumOf(many))
}

// anyTab is atoms that are ok, in any order, so many at most.
func (d *dice) anyTab(most int) impl.TabTab {
	out := noTab
	for range d.below(most + 1) {
		if a := d.anyAtom(len(out.Atoms)); !slices.ContainsFunc(out.Atoms, func(b impl.TabAtom) bool { return sameAtom(a, b) }) {
			out = with(out, a)
		}
	}
	return out
}

// mostlyShort is how many atoms there are at most: mostly few, now and then many.
func (d *dice) mostlyShort() int { return d.of(0, 1, 4, 8, 16, 24, 24, 40) }

func TestAtomNumbers(t *testing.T) {
	got := []int{impl.AtmReg, impl.AtmLoad, impl.AtmIn, impl.AtmDo, impl.AtmMost, impl.InsRegs}
	want := []int{1, 2, 3, 4, 200, 4}
	for i := range want {
		if got[i] != want[i] {
			t.Errorf("constant %d of chapter 5 is %d, not %d", i, got[i], want[i])
		}
	}
}

// okTabs are atoms at the ends of what is ok.
func okTabs() []impl.TabTab {
	two := tabOf(register(0), register(1))
	return []impl.TabTab{
		noTab,
		{Atoms: []impl.TabAtom{}},
		tabOf(register(0)),
		tabOf(register(3)),
		tabOf(register(3), register(1), register(0), register(2)),
		tabOf(loaded(0)),
		tabOf(loaded(199)),
		tabOf(cameIn(0)),
		tabOf(cameIn(199)),
		tabOf(register(0), loaded(0), cameIn(0)),
		tabOf(did(impl.OpAdd, nothing, nothing)),
		tabOf(did(impl.OpXor, impl.PolConst(3), impl.PolConst(65535))),
		tabOf(impl.TabAtom{Kind: impl.AtmReg, K: 2, X: impl.TrmPoly{Monos: []impl.TrmMono{}}, Y: impl.TrmPoly{Monos: []impl.TrmMono{}}}),
		with(two, did(impl.OpAnd, impl.PolAtom(0), impl.PolAtom(1)), did(impl.OpAnd, impl.PolAtom(1), impl.PolAtom(0))),
		with(two, did(impl.OpAnd, impl.PolAtom(0), impl.PolAtom(1)), did(impl.OpXor, impl.PolAtom(0), impl.PolAtom(1))),
		with(two, did(impl.OpAdd, impl.PolAtom(0), nothing), did(impl.OpAdd, nothing, impl.PolAtom(0))),
		with(two, did(impl.OpMul, sumOf(part(1, 0), part(1, 1)), nothing), did(impl.OpMul, sumOf(part(1, 0, 1)), nothing), did(impl.OpMul, impl.PolAtom(0), impl.PolAtom(1))),
		with(two, did(impl.OpSub, sumOf(part(256, 1)), nothing), did(impl.OpSub, sumOf(part(1, 1)), nothing), did(impl.OpSub, sumOf(part(257, 1)), nothing)),
		with(two, did(impl.OpAnd, sumOf(part(65535, 0, 0, 1, 1)), impl.PolAtom(1)), did(impl.OpXor, impl.PolAtom(2), sumOf(part(1, 2, 2, 2, 2)))),
		with(base(), did(impl.OpAdd, atomsFrom(0, 12), atomsFrom(12, 12)), did(impl.OpAdd, atomsFrom(12, 12), atomsFrom(0, 12)), did(impl.OpSub, impl.PolAtom(24), impl.PolAtom(25))),
		filledUp(base(), 199),
		filledUp(base(), 200),
		with(filledUp(base(), 199), did(impl.OpAnd, impl.PolAtom(198), impl.PolAtom(0))),
	}
}

func TestP30WhatAtomsAre(t *testing.T) {
	for _, tab := range okTabs() {
		if !impl.TabOk(tab) || !wantedTab(tab) {
			t.Fatalf("%v is ok, but TabOk is %v", tab, impl.TabOk(tab))
		}
		for place, a := range tab.Atoms {
			got, at := impl.TabPut(tab, a)
			holdPut(t, "one that is there", got, at, tab, place)
			got, at = impl.TabPut(tabOf(tab.Atoms[:place]...), a)
			holdPut(t, "one that is new", got, at, tabOf(tab.Atoms[:place+1]...), place)
		}
		for many := range tab.Atoms {
			if !impl.TabOk(tabOf(tab.Atoms[:many]...)) {
				t.Fatalf("the first %d of %v are ok", many, tab)
			}
		}
		got, sum := impl.TabDo(tab, impl.OpAdd, nothing, nothing)
		holdDone(t, "nothing and nothing", got, sum, tab, nothing)
		if vals := impl.TabVals(tab, nil, nil, nil); len(vals) != len(tab.Atoms) {
			t.Fatalf("%d atoms are %d words", len(tab.Atoms), len(vals))
		}
	}
}

// badAtoms are atoms that are not ok behind the two registers 0 and 1, one thing at a time.
func badAtoms() map[string]impl.TabAtom {
	one, other := impl.PolAtom(0), impl.PolAtom(1)
	out := map[string]impl.TabAtom{
		"all noughts":                   {},
		"no Kind, with sums":            {Kind: 0, K: impl.OpAdd, X: one, Y: other},
		"a Kind too great":              {Kind: 5, K: 1},
		"a Kind too great, with sums":   {Kind: 5, K: impl.OpAdd, X: one, Y: other},
		"a Kind below 0":                {Kind: -1, K: 1},
		"register -1":                   register(-1),
		"register 4":                    register(4),
		"loaded -1":                     loaded(-1),
		"loaded 200":                    loaded(200),
		"came in -1":                    cameIn(-1),
		"came in 200":                   cameIn(200),
		"Op 0":                          did(0, one, other),
		"Op 6":                          did(6, one, other),
		"Op -1":                         did(-1, one, other),
		"X: the atom itself":            did(impl.OpAdd, impl.PolAtom(2), other),
		"Y: the atom itself":            did(impl.OpAdd, one, impl.PolAtom(2)),
		"X: the atom behind it":         did(impl.OpAdd, impl.PolAtom(3), other),
		"Y: the atom behind it":         did(impl.OpAdd, one, impl.PolAtom(3)),
		"X: the last atom there may be": did(impl.OpAdd, impl.PolAtom(199), other),
		"Y: the last atom there may be": did(impl.OpAdd, one, impl.PolAtom(199)),
		"X: itself within":              did(impl.OpXor, sumOf(part(4), part(1, 0), part(7, 0, 1, 2)), other),
		"Y: itself within":              did(impl.OpXor, one, sumOf(part(4), part(1, 0), part(7, 1, 2), part(3, 0, 0, 1, 1))),
		"both: itself":                  did(impl.OpSub, impl.PolAtom(2), impl.PolAtom(2)),
		"X has a Coef of 0":             did(impl.OpAdd, sumOf(part(0, 1)), other),
		"Y has a Coef of 0":             did(impl.OpAdd, one, sumOf(part(0))),
		"X has a Coef too great":        did(impl.OpAdd, sumOf(part(65536)), other),
		"Y has a Coef too great":        did(impl.OpAdd, one, sumOf(part(65537, 1))),
		"X has a Coef below 0":          did(impl.OpAdd, sumOf(part(-1)), other),
		"X has an atom below 0":         did(impl.OpAdd, sumOf(part(1, -1)), other),
		"Y has an atom below 0":         did(impl.OpAdd, one, sumOf(part(1, -1, 0))),
		"X has atoms that fall":         did(impl.OpAdd, sumOf(part(1, 1, 0)), other),
		"Y has parts that fall":         did(impl.OpAdd, one, sumOf(part(1, 1), part(1, 0))),
		"X has parts twice":             did(impl.OpAdd, sumOf(part(1, 1), part(2, 1)), other),
		"Y has too many atoms":          did(impl.OpAdd, one, sumOf(part(1, 0, 0, 0, 1, 1))),
		"X has too many parts":          did(impl.OpAdd, sumOf(slices.Repeat([]impl.TrmMono{part(1)}, 13)...), other),
		"Y has far too many parts":      did(impl.OpAdd, one, sumOf(slices.Repeat([]impl.TrmMono{part(1)}, 100000)...)),
	}
	for kind := impl.AtmReg; kind < impl.AtmDo; kind++ {
		for what, p := range map[string]impl.TrmPoly{"an atom": one, "a word": impl.PolConst(1), "what is not ok": sumOf(part(0))} {
			out[fmt.Sprint("X is ", what, ", Kind ", kind)] = impl.TabAtom{Kind: kind, K: 3, X: p}
			out[fmt.Sprint("Y is ", what, ", Kind ", kind)] = impl.TabAtom{Kind: kind, K: 3, Y: p}
			out[fmt.Sprint("both are ", what, ", Kind ", kind)] = impl.TabAtom{Kind: kind, K: 3, X: p, Y: p}
		}
	}
	for _, n := range extremes {
		out[fmt.Sprint("Kind ", n)] = impl.TabAtom{Kind: n, K: 1}
		for kind := impl.AtmReg; kind <= impl.AtmDo; kind++ {
			out[fmt.Sprint("K ", n, ", Kind ", kind)] = impl.TabAtom{Kind: kind, K: n}
		}
	}
	return out
}

// holdNoTab fails unless atoms are answered as such that are not ok.
func holdNoTab(t *testing.T, what string, tab impl.TabTab) {
	t.Helper()
	if impl.TabOk(tab) {
		t.Fatalf("%s: not ok, but TabOk is true", what)
	}
	more := []impl.TabAtom{register(0), register(3), loaded(7), did(impl.OpAnd, nothing, nothing), {}}
	if len(tab.Atoms) > 0 {
		more = append(more, tab.Atoms[0], tab.Atoms[len(tab.Atoms)-1])
	}
	for _, a := range more {
		got, place := impl.TabPut(tab, a)
		holdPut(t, what, got, place, noTab, -1)
	}
	for _, op := range append([]int{0, 6}, allOps...) {
		for _, p := range []impl.TrmPoly{nothing, impl.PolConst(7), impl.PolAtom(0), atomsFrom(0, 12)} {
			got, sum := impl.TabDo(tab, op, p, impl.PolConst(3))
			holdDone(t, what, got, sum, noTab, nothing)
			got, sum = impl.TabDo(tab, op, p, p)
			holdDone(t, what, got, sum, noTab, nothing)
		}
	}
	for _, list := range [][]int{nil, {1, 2, 3, 4}} {
		if vals := impl.TabVals(tab, list, list, list); len(vals) != 0 {
			t.Fatalf("%s: not ok, but they are %v", what, vals)
		}
	}
}

func TestP30WhatNoAtomsAre(t *testing.T) {
	two := tabOf(register(0), register(1))
	for what, a := range badAtoms() {
		holdNoTab(t, what, with(two, a))
		holdNoTab(t, what+", ahead of another one", with(two, a, loaded(4)))
		if !impl.TabOk(two) {
			t.Fatal("the first two are ok")
		}
		got, place := impl.TabPut(two, a)
		holdPut(t, what, got, place, two, -1)
	}
	for what, a := range map[string]impl.TabAtom{"X: the atom itself": did(impl.OpAdd, impl.PolAtom(0), nothing), "Y: the atom itself": did(impl.OpAdd, nothing, impl.PolAtom(0))} {
		holdNoTab(t, what, tabOf(a))
		holdNoTab(t, what, tabOf(a, register(0)))
		got, place := impl.TabPut(noTab, a)
		holdPut(t, what, got, place, noTab, -1)
	}
	// What stands ahead of an atom is what counts, not what stands there at all.
	holdNoTab(t, "made of the one behind", tabOf(register(0), did(impl.OpAdd, impl.PolAtom(2), nothing), register(1)))
	holdNoTab(t, "made of each other", tabOf(did(impl.OpAdd, impl.PolAtom(1), nothing), did(impl.OpAdd, impl.PolAtom(0), nothing)))
	holdNoTab(t, "made of the 200th, as the 200th", with(filledUp(base(), 199), did(impl.OpAdd, impl.PolAtom(199), nothing)))
}

func TestP30TooManyAtoms(t *testing.T) {
	holdNoTab(t, "201", filledUp(base(), 201))
	holdNoTab(t, "201, the last one not ok", with(filledUp(base(), 200), register(4)))
	holdNoTab(t, "201, the last one of the one ahead", with(filledUp(base(), 200), did(impl.OpAnd, impl.PolAtom(199), impl.PolAtom(0))))
	holdNoTab(t, "202", with(filledUp(base(), 200), did(impl.OpAnd, impl.PolAtom(1), impl.PolAtom(0)), did(impl.OpAnd, impl.PolAtom(0), impl.PolAtom(1))))
	holdNoTab(t, "a hundred thousand", tabOf(make([]impl.TabAtom, 100000)...))
	holdNoTab(t, "a hundred thousand that are the same", tabOf(slices.Repeat([]impl.TabAtom{register(0)}, 100000)...))
}

func TestP30TwoThatAreTheSame(t *testing.T) {
	sum := sumOf(part(300), part(2, 0), part(9, 0, 1))
	for _, a := range []impl.TabAtom{register(2), loaded(0), loaded(199), cameIn(0), cameIn(199), did(impl.OpAnd, impl.PolAtom(0), impl.PolAtom(1)), did(impl.OpSub, sum, impl.PolAtom(1)), did(impl.OpXor, nothing, sum), did(impl.OpAdd, nothing, nothing)} {
		two := tabOf(register(0), register(1), a)
		twin := impl.TabAtom{Kind: a.Kind, K: a.K, X: apartSum(a.X), Y: apartSum(a.Y)}
		holdNoTab(t, "one behind the other", with(two, twin))
		holdNoTab(t, "one between", with(two, loaded(9), twin))
		holdNoTab(t, "a hundred and ninety between", with(filledUp(with(two, loaded(8)), 190), cameIn(198), a))
		got, place := impl.TabPut(two, twin)
		holdPut(t, "one that is there", got, place, two, 2)
	}
	// The empty list and the nil list are the same.
	empty := impl.TrmPoly{Monos: []impl.TrmMono{}}
	bare := impl.TabAtom{Kind: impl.AtmIn, K: 3, X: empty, Y: empty}
	none := sumOf(impl.TrmMono{Coef: 5, Atoms: []int{}})
	holdNoTab(t, "empty sums", tabOf(cameIn(3), bare))
	holdNoTab(t, "an empty sum", tabOf(did(impl.OpAnd, nothing, impl.PolConst(1)), did(impl.OpAnd, empty, impl.PolConst(1))))
	holdNoTab(t, "no atoms", tabOf(did(impl.OpAnd, none, nothing), did(impl.OpAnd, impl.PolConst(5), empty)))
	got, place := impl.TabPut(tabOf(register(1), cameIn(3)), bare)
	holdPut(t, "empty sums", got, place, tabOf(register(1), cameIn(3)), 1)
	got, place = impl.TabPut(tabOf(did(impl.OpAnd, impl.PolConst(5), nothing)), did(impl.OpAnd, none, empty))
	holdPut(t, "no atoms", got, place, tabOf(did(impl.OpAnd, impl.PolConst(5), nothing)), 0)
}

// Atoms that differ in one thing alone are two.
func TestP30TwoThatDiffer(t *testing.T) {
	start := filledUp(tabOf(register(0), register(1)), 20)
	sums := []impl.TrmPoly{
		nothing, impl.PolConst(1), impl.PolConst(256), impl.PolConst(257), impl.PolConst(65535), impl.PolAtom(0), impl.PolAtom(1), impl.PolAtom(10), sumOf(part(256, 1)), sumOf(part(2, 1)), sumOf(part(1, 0, 1)), sumOf(part(1, 0), part(1, 1)), sumOf(part(1), part(1, 0)),
		sumOf(part(1, 1, 1)), sumOf(part(1, 1), part(1, 1, 1)), sumOf(part(1, 1, 1, 1)), sumOf(part(1, 1, 2)), sumOf(part(1, 12)), sumOf(part(11, 2)), sumOf(part(1, 11, 11)), sumOf(part(1, 1, 11, 11)), sumOf(part(513), part(1, 2)), sumOf(part(513, 1, 2)), sumOf(part(2, 2, 2)), sumOf(part(2), part(2, 1)),
		sumOf(part(1), part(2, 3)), sumOf(part(1, 0, 2, 3)), sumOf(part(1), part(2, 3), part(4, 5)), sumOf(part(1), part(2, 3, 5)),
	}
	var atoms []impl.TabAtom
	for _, op := range allOps {
		for _, x := range sums {
			for _, y := range sums {
				atoms = append(atoms, did(op, x, y))
			}
		}
	}
	for k := range 200 {
		atoms = append(atoms, loaded(k))
	}
	// A hundred at a time are put, and then each is found where it was put.
	for ; len(atoms) > 0; atoms = atoms[min(100, len(atoms)):] {
		tab := start
		some := atoms[:min(100, len(atoms))]
		for at, a := range some {
			got, place := impl.TabPut(tab, a)
			holdPut(t, "a new one", got, place, with(tab, a), len(start.Atoms)+at)
			tab = got
		}
		for at, a := range some {
			got, place := impl.TabPut(tab, a)
			holdPut(t, "one that is there", got, place, tab, len(start.Atoms)+at)
		}
	}
}

func TestP30WhereAtomsEnd(t *testing.T) {
	fresh := did(impl.OpAnd, impl.PolAtom(0), impl.PolAtom(1))
	for _, start := range []impl.TabTab{base(), noTab, with(base(), did(impl.OpXor, impl.PolAtom(2), impl.PolAtom(3)))} {
		almost, full := filledUp(start, 199), filledUp(start, 200)
		for _, a := range []impl.TabAtom{loaded(199), did(impl.OpMul, impl.PolAtom(198), impl.PolAtom(198)), fresh, did(impl.OpSub, nothing, nothing)} {
			got, place := impl.TabPut(almost, a)
			holdPut(t, "the last one that fits", got, place, with(almost, a), 199)
			again, place := impl.TabPut(got, a)
			holdPut(t, "the last one, once more", again, place, got, 199)
			got, place = impl.TabPut(full, a)
			holdPut(t, "no room", got, place, full, -1)
		}
		got, place := impl.TabPut(full, did(impl.OpAnd, impl.PolAtom(199), nothing))
		holdPut(t, "no room for one of the last", got, place, full, -1)
		got, place = impl.TabPut(almost, did(impl.OpAnd, impl.PolAtom(199), nothing))
		holdPut(t, "one that is made of itself", got, place, almost, -1)
		for _, tab := range []impl.TabTab{almost, full} {
			for place, a := range tab.Atoms {
				got, at := impl.TabPut(tab, a)
				holdPut(t, "one that is there", got, at, tab, place)
			}
			for what, a := range badAtoms() {
				// What is made of atoms that there are now is ok.
				if !wantedAtom(a, len(tab.Atoms)) {
					got, at := impl.TabPut(tab, a)
					holdPut(t, what, got, at, tab, -1)
				}
			}
		}
	}
}

func TestP30PutByHand(t *testing.T) {
	tab, place := impl.TabPut(noTab, register(2))
	holdPut(t, "the first", tab, place, tabOf(register(2)), 0)
	tab, place = impl.TabPut(tab, loaded(2))
	holdPut(t, "the second", tab, place, tabOf(register(2), loaded(2)), 1)
	tab, place = impl.TabPut(tab, register(2))
	holdPut(t, "the first, once more", tab, place, tabOf(register(2), loaded(2)), 0)
	tab, place = impl.TabPut(tab, cameIn(2))
	holdPut(t, "the third", tab, place, tabOf(register(2), loaded(2), cameIn(2)), 2)
	both := did(impl.OpAdd, impl.PolAtom(2), impl.PolAtom(1))
	tab, place = impl.TabPut(tab, both)
	holdPut(t, "put as it is, whichever stands first", tab, place, tabOf(register(2), loaded(2), cameIn(2), both), 3)
	tab, place = impl.TabPut(tab, did(impl.OpAdd, impl.PolAtom(1), impl.PolAtom(2)))
	holdPut(t, "in the other order", tab, place, tabOf(register(2), loaded(2), cameIn(2), both, did(impl.OpAdd, impl.PolAtom(1), impl.PolAtom(2))), 4)
	tab, place = impl.TabPut(tab, both)
	holdPut(t, "there already", tab, place, tab, 3)
}

// anyAtomAtAll is an atom that is often not ok, out of so few that many are the same.
func (d *dice) anyAtomAtAll() impl.TabAtom {
	out := impl.TabAtom{Kind: d.of(1, 2, 3, 4, 4, 4, 4, 0, 5), K: d.of(0, 1, 2, 3, 4, 5, 6, 199, 200, -1)}
	if out.Kind == 4 {
		out.K = d.of(1, 2, 3, 4, 5, 1, 2, 3, 4, 5, 0, 6)
	}
	if out.Kind == 4 || d.below(8) == 0 {
		out.X = d.anySum(2, 1, 0, 1, 2, 3)
	}
	if out.Kind == 4 || d.below(8) == 0 {
		out.Y = d.anySum(1, 1, 0, 1, 2, 3)
	}
	if d.below(8) == 0 {
		out.X = d.anySumAtAll()
	}
	return out
}

func TestP30AnAtomHasOneNumber(t *testing.T) {
	d := dice(3000300030)
	seen := map[string]int{}
	for range 30000 {
		tab := d.anyTab(d.mostlyShort())
		a := d.anyAtomAtAll()
		switch d.below(4) {
		case 0:
			a = d.anyAtom(len(tab.Atoms))
		case 1:
			if len(tab.Atoms) > 0 {
				a = tab.Atoms[d.below(len(tab.Atoms))]
			}
		case 2:
			tab = with(tab, a)
		}
		if impl.TabOk(tab) != wantedTab(tab) {
			t.Fatalf("TabOk of %v is %v", tab, impl.TabOk(tab))
		}
		want, wantPlace := wantedPut(tab, a)
		got, place := impl.TabPut(tab, a)
		holdPut(t, "any", got, place, want, wantPlace)
		switch {
		case !wantedTab(tab):
			seen["not ok"]++
			continue
		case place == -1:
			seen["none"]++
		case place == len(tab.Atoms):
			seen["new"]++
		default:
			seen["there"]++
		}
		if !impl.TabOk(got) {
			t.Fatalf("%v behind TabPut is not ok", got)
		}
		again, once := impl.TabPut(got, a)
		holdPut(t, "once more", again, once, got, place)
	}
	for _, what := range []string{"not ok", "none", "new", "there"} {
		if seen[what] < 1000 {
			t.Fatalf("seen: %v", seen)
		}
	}
}

// doing is two sums of base's atoms, and what is reckoned of them: a sum, or, where that is nil, an atom of both as they are given.
type doing struct {
	what string
	op   int
	x, y impl.TrmPoly
	want *impl.TrmPoly
}

// asSum is a doing that wants no atom.
func asSum(what string, op int, x, y, want impl.TrmPoly) doing {
	return doing{what, op, x, y, &want}
}

// asAtom is a doing that wants an atom, the lesser one being given first, but for OpSub.
func asAtom(what string, op int, x, y impl.TrmPoly) doing {
	return doing{what, op, x, y, nil}
}

// doings are by hand what the document asks of TabDo, for each Op.
func doings() []doing {
	a, b, c := impl.PolAtom(0), impl.PolAtom(1), impl.PolAtom(20)
	long := sumOf(part(9), part(3, 0), part(7, 0, 1))
	twelve, others := atomsFrom(0, 12), atomsFrom(12, 12)
	word := impl.PolConst
	cube, square := sumOf(part(1, 0, 0, 0)), sumOf(part(1, 0, 0))
	return []doing{
		asSum("two words", impl.OpAdd, word(65535), word(3), word(2)),
		asSum("two words", impl.OpSub, word(2), word(5), word(65533)),
		asSum("two words", impl.OpMul, word(300), word(300), word(24464)),
		asSum("two words", impl.OpAnd, word(12), word(10), word(8)),
		asSum("two words", impl.OpXor, word(12), word(10), word(6)),
		asSum("words that come to 0", impl.OpAdd, word(65535), word(1), nothing),
		asSum("words that come to 0", impl.OpMul, word(256), word(256), nothing),
		asSum("words that come to 0", impl.OpAnd, word(12), word(3), nothing),
		asSum("a word and all bits", impl.OpXor, word(1), word(65535), word(65534)),
		asSum("a word and all bits", impl.OpAnd, word(77), word(65535), word(77)),
		asSum("a word and itself", impl.OpAnd, word(77), word(77), word(77)),
		asSum("a word and itself", impl.OpXor, word(77), word(77), nothing),
		asSum("a word and itself", impl.OpSub, word(77), word(77), nothing),
		asSum("nothing twice", impl.OpAnd, nothing, nothing, nothing),
		asSum("nothing twice", impl.OpXor, nothing, nothing, nothing),

		asSum("the same", impl.OpAdd, long, long, sumOf(part(18), part(6, 0), part(14, 0, 1))),
		asSum("the same", impl.OpSub, long, long, nothing),
		asSum("the same", impl.OpMul, a, a, square),
		asSum("the same", impl.OpAnd, long, long, long),
		asSum("the same", impl.OpXor, long, long, nothing),
		asSum("the same, twelve parts", impl.OpAdd, twelve, twelve, impl.PolScale(twelve, 2)),
		asSum("the same, twelve parts", impl.OpSub, twelve, twelve, nothing),
		asAtom("the same, but too long multiplied", impl.OpMul, cube, cube),
		asAtom("the same, but too many multiplied", impl.OpMul, twelve, twelve),
		asSum("the same, twelve parts", impl.OpAnd, twelve, twelve, twelve),
		asSum("the same, twelve parts", impl.OpXor, twelve, twelve, nothing),

		asSum("0 and a sum", impl.OpAdd, nothing, long, long),
		asSum("a sum less 0", impl.OpSub, long, nothing, long),
		asSum("0 less a sum", impl.OpSub, nothing, long, sumOf(part(65527), part(65533, 0), part(65529, 0, 1))),
		asSum("0 and a sum", impl.OpMul, nothing, long, nothing),
		asSum("0 and a sum", impl.OpAnd, nothing, long, nothing),
		asSum("0 and a sum", impl.OpXor, nothing, long, long),
		asSum("0 and an atom", impl.OpAnd, nothing, a, nothing),
		asSum("0 and an atom", impl.OpXor, nothing, a, a),

		asSum("all bits and a sum", impl.OpAdd, word(65535), long, sumOf(part(8), part(3, 0), part(7, 0, 1))),
		asSum("a sum less all bits", impl.OpSub, long, word(65535), sumOf(part(10), part(3, 0), part(7, 0, 1))),
		asSum("all bits less a sum", impl.OpSub, word(65535), a, sumOf(part(65535), part(65535, 0))),
		asSum("all bits and a sum", impl.OpMul, word(65535), a, sumOf(part(65535, 0))),
		asSum("all bits and a sum", impl.OpAnd, word(65535), long, long),
		asSum("all bits and an atom", impl.OpAnd, word(65535), c, c),
		asAtom("all bits and a sum", impl.OpXor, word(65535), long),
		asAtom("all bits and an atom", impl.OpXor, word(65535), c),

		asSum("another word and a sum", impl.OpAdd, word(5), a, sumOf(part(5), part(1, 0))),
		asSum("a sum less another word", impl.OpSub, a, word(5), sumOf(part(65531), part(1, 0))),
		asSum("another word less a sum", impl.OpSub, word(5), a, sumOf(part(5), part(65535, 0))),
		asSum("another word and a sum", impl.OpMul, word(5), long, sumOf(part(45), part(15, 0), part(35, 0, 1))),
		asAtom("another word and an atom", impl.OpAnd, word(5), a),
		asAtom("another word and an atom", impl.OpXor, word(5), a),
		asAtom("1 and an atom", impl.OpAnd, word(1), a),
		asAtom("1 and an atom", impl.OpXor, word(1), a),
		asAtom("another word and a sum", impl.OpAnd, word(65534), long),
		asAtom("another word and a sum", impl.OpXor, word(32768), long),

		asSum("two sums", impl.OpAdd, a, b, sumOf(part(1, 0), part(1, 1))),
		asSum("two sums", impl.OpSub, a, b, sumOf(part(1, 0), part(65535, 1))),
		asSum("two sums, the other one first", impl.OpSub, b, a, sumOf(part(65535, 0), part(1, 1))),
		asSum("two sums", impl.OpMul, a, b, sumOf(part(1, 0, 1))),
		asSum("two sums that come to 0", impl.OpMul, sumOf(part(256, 0)), sumOf(part(256, 1)), nothing),
		asSum("two sums that come to a word", impl.OpSub, sumOf(part(5), part(1, 0)), a, word(5)),
		asAtom("two atoms", impl.OpAnd, a, b),
		asAtom("two atoms", impl.OpXor, a, b),
		asAtom("an atom, and so many times it", impl.OpAnd, a, sumOf(part(2, 0))),
		asAtom("an atom, and so many times it", impl.OpXor, a, sumOf(part(65535, 0))),
		asAtom("fewer parts first", impl.OpAnd, c, sumOf(part(1, 0), part(1, 1))),
		asAtom("fewer atoms first", impl.OpXor, c, sumOf(part(1, 0, 0))),
		asAtom("the lesser atom first", impl.OpAnd, sumOf(part(65535, 3)), sumOf(part(1, 4))),
		asAtom("the lesser Coef first", impl.OpXor, sumOf(part(9), part(2, 5)), sumOf(part(9), part(3, 5))),
		asAtom("the first part first", impl.OpXor, sumOf(part(8), part(7, 5)), sumOf(part(9), part(3, 5))),

		asSum("eleven parts and one", impl.OpAdd, c, atomsFrom(0, 11), sumOf(append(atomsFrom(0, 11).Monos, part(1, 20))...)),
		asSum("eleven parts less one", impl.OpSub, atomsFrom(0, 11), c, sumOf(append(atomsFrom(0, 11).Monos, part(65535, 20))...)),
		asSum("thirteen parts, but one comes to 0", impl.OpAdd, sumOf(part(65535, 0), part(1, 20)), twelve, sumOf(append(atomsFrom(1, 11).Monos, part(1, 20))...)),
		asSum("thirteen parts less one of them", impl.OpSub, twelve, sumOf(part(1, 0), part(65535, 20)), sumOf(append(atomsFrom(1, 11).Monos, part(1, 20))...)),
		asAtom("one part too many", impl.OpAdd, c, twelve),
		asAtom("a word too many", impl.OpAdd, word(1), twelve),
		asAtom("one part too many, both long", impl.OpAdd, twelve, atomsFrom(1, 12)),
		asAtom("far too many parts", impl.OpAdd, twelve, others),
		asAtom("one part too many to take away", impl.OpSub, twelve, c),
		asAtom("one part too many, the lesser one first", impl.OpSub, c, twelve),
		asAtom("a word too many to take away", impl.OpSub, twelve, word(1)),
		asAtom("too many to take away from a word", impl.OpSub, word(1), twelve),
		asAtom("far too many to take away", impl.OpSub, others, twelve),
		asAtom("far too many to take away, the lesser one first", impl.OpSub, twelve, others),
		asSum("four atoms", impl.OpMul, square, sumOf(part(3, 1, 20)), sumOf(part(3, 0, 0, 1, 20))),
		asSum("twelve parts", impl.OpMul, atomsFrom(0, 1), twelve, sumOf(part(1, 0, 0), part(1, 0, 1), part(1, 0, 2), part(1, 0, 3), part(1, 0, 4), part(1, 0, 5), part(1, 0, 6), part(1, 0, 7), part(1, 0, 8), part(1, 0, 9), part(1, 0, 10), part(1, 0, 11))),
		asSum("five atoms, but they come to 0", impl.OpMul, sumOf(part(256, 0, 0)), sumOf(part(256, 1, 1, 1)), nothing),
		asAtom("five atoms", impl.OpMul, square, cube),
		asAtom("five atoms in one part alone", impl.OpMul, sumOf(part(3), part(1, 0, 0)), sumOf(part(4), part(1, 1, 1, 1))),
		asAtom("too many parts", impl.OpMul, sumOf(part(1, 20), part(1, 21)), twelve),
		asAtom("far too many parts", impl.OpMul, twelve, others),
	}
}

// holdDoing fails unless sums in one order lead to what is wanted: with base's atoms, once more, and where there is no room.
func holdDoing(t *testing.T, c doing, x, y impl.TrmPoly) {
	t.Helper()
	what := fmt.Sprint(c.what, ", Op ", c.op)
	tab, full := base(), filledUp(base(), 200)
	got, sum := impl.TabDo(tab, c.op, x, y)
	whole, wholeSum := impl.TabDo(full, c.op, x, y)
	if c.want != nil {
		holdDone(t, what, got, sum, tab, *c.want)
		holdDone(t, what+", where atoms are AtmMost", whole, wholeSum, full, *c.want)
		return
	}
	atom := did(c.op, c.x, c.y)
	holdDone(t, what, got, sum, with(tab, atom), sumOf(part(1, 24)))
	holdDone(t, what+", where there is no room", whole, wholeSum, noTab, nothing)
	again, sum := impl.TabDo(got, c.op, x, y)
	holdDone(t, what+", once more", again, sum, got, sumOf(part(1, 24)))
	almost := filledUp(base(), 199)
	got, sum = impl.TabDo(almost, c.op, x, y)
	holdDone(t, what+", where there is room for one", got, sum, with(almost, atom), sumOf(part(1, 199)))
	again, sum = impl.TabDo(got, c.op, x, y)
	holdDone(t, what+", where it is the last there may be", again, sum, got, sumOf(part(1, 199)))
	there := filledUp(with(tab, atom, loaded(100)), 200)
	got, sum = impl.TabDo(there, c.op, x, y)
	holdDone(t, what+", where it is there, and no room", got, sum, there, sumOf(part(1, 24)))
}

func TestP28WhatIsReckonedByHand(t *testing.T) {
	for _, c := range doings() {
		holdDoing(t, c, c.x, c.y)
		holdDoing(t, c, lentSum(c.x), lentSum(c.y))
		if c.op != impl.OpSub {
			holdDoing(t, c, c.y, c.x)
		}
		want, wantSum := wantedDo(base(), c.op, c.x, c.y)
		got, sum := impl.TabDo(base(), c.op, c.x, c.y)
		holdDone(t, c.what, got, sum, want, wantSum)
	}
}

// An atom that is there with its sums in the other order is not that of TabDo, but for OpSub.
func TestP28TheOtherOrderIsAnother(t *testing.T) {
	a, b := impl.PolAtom(0), impl.PolAtom(1)
	turned := with(base(), did(impl.OpAnd, b, a))
	got, sum := impl.TabDo(turned, impl.OpAnd, b, a)
	holdDone(t, "put the other way round", got, sum, with(turned, did(impl.OpAnd, a, b)), sumOf(part(1, 25)))
	got, sum = impl.TabDo(filledUp(turned, 200), impl.OpAnd, b, a)
	holdDone(t, "put the other way round, and no room", got, sum, noTab, nothing)
	twelve, others := atomsFrom(0, 12), atomsFrom(12, 12)
	less := with(base(), did(impl.OpSub, others, twelve))
	got, sum = impl.TabDo(less, impl.OpSub, others, twelve)
	holdDone(t, "a difference", got, sum, less, sumOf(part(1, 24)))
	got, sum = impl.TabDo(less, impl.OpSub, twelve, others)
	holdDone(t, "a difference the other way round", got, sum, with(less, did(impl.OpSub, twelve, others)), sumOf(part(1, 25)))
	other := with(base(), did(impl.OpXor, a, b))
	got, sum = impl.TabDo(other, impl.OpAnd, a, b)
	holdDone(t, "another Op", got, sum, with(other, did(impl.OpAnd, a, b)), sumOf(part(1, 25)))
}

func TestP28InEitherOrderItIsOne(t *testing.T) {
	d := dice(2800280028)
	seen := map[[2]int]int{}
	for range 15000 {
		tab := d.anyTab(d.mostlyShort())
		x, y := d.anySumOf(len(tab.Atoms)), d.anySumOf(len(tab.Atoms))
		op := d.of(allOps...)
		there, one := impl.TabDo(tab, op, x, y)
		want, wantSum := wantedDo(tab, op, x, y)
		holdDone(t, "of two", there, one, want, wantSum)
		again, sum := impl.TabDo(there, op, x, y)
		holdDone(t, "once more", again, sum, there, one)
		more := len(there.Atoms) - len(tab.Atoms)
		if op != impl.OpSub {
			back, other := impl.TabDo(tab, op, y, x)
			holdDone(t, "the other way round", back, other, there, one)
			again, sum = impl.TabDo(there, op, y, x)
			holdDone(t, "once more, the other way round", again, sum, there, one)
		} else if more == 1 && (!sameSum(there.Atoms[len(tab.Atoms)].X, x) || !sameSum(there.Atoms[len(tab.Atoms)].Y, y)) {
			t.Fatalf("%v less %v is %v", x, y, there.Atoms[len(tab.Atoms)])
		}
		seen[[2]int{op, more}]++
	}
	for _, op := range allOps {
		if seen[[2]int{op, 0}] < 100 || seen[[2]int{op, 1}] < 100 {
			t.Fatalf("seen: %v", seen)
		}
	}
}

func TestP29WhatIsPlainIsSeen(t *testing.T) {
	d := dice(2900290029)
	full := filledUp(base(), 200)
	for round := range 6000 {
		tab := d.anyTab(d.mostlyShort())
		if round%50 == 0 {
			tab = full
		}
		p := d.anySumOf(len(tab.Atoms))
		for _, c := range []struct {
			what       string
			op         int
			x, y, want impl.TrmPoly
		}{
			{"less itself", impl.OpSub, p, apartSum(p), nothing},
			{"OpXor of it and itself", impl.OpXor, p, apartSum(p), nothing},
			{"OpAnd of it and itself", impl.OpAnd, p, apartSum(p), p},
			{"OpAnd with 0", impl.OpAnd, p, nothing, nothing},
			{"OpAnd of 0 and it", impl.OpAnd, nothing, p, nothing},
			{"OpAnd with all bits", impl.OpAnd, p, impl.PolConst(65535), p},
			{"OpAnd of all bits and it", impl.OpAnd, impl.PolConst(65535), p, p},
			{"OpXor with 0", impl.OpXor, p, nothing, p},
			{"OpXor of 0 and it", impl.OpXor, nothing, p, p},
			{"OpAdd with 0", impl.OpAdd, p, nothing, p},
			{"OpAdd of 0 and it", impl.OpAdd, nothing, p, p},
			{"less 0", impl.OpSub, p, nothing, p},
			{"OpMul with 1", impl.OpMul, p, impl.PolConst(1), p},
			{"OpMul of 0 and it", impl.OpMul, nothing, p, nothing},
		} {
			got, sum := impl.TabDo(tab, c.op, c.x, c.y)
			holdDone(t, c.what, got, sum, tab, c.want)
		}
	}
}

func TestP29WordsAreReckonedAtOnce(t *testing.T) {
	tab := tabOf(register(1), did(impl.OpAnd, impl.PolAtom(0), impl.PolConst(9)))
	for _, pair := range wordPairs() {
		for _, op := range allOps {
			want := nothing
			if n := reckoned(op, pair[0], pair[1]); n != 0 {
				want = sumOf(part(n))
			}
			got, sum := impl.TabDo(tab, op, impl.PolConst(pair[0]), impl.PolConst(pair[1]))
			if !sameTab(got, tab) || !sameSum(sum, want) {
				t.Fatalf("Op %d of %v is %v", op, pair, sum)
			}
		}
	}
	for _, tab := range []impl.TabTab{noTab, filledUp(base(), 200)} {
		for _, op := range allOps {
			got, sum := impl.TabDo(tab, op, impl.PolConst(58368), impl.PolConst(300))
			holdDone(t, "words", got, sum, tab, impl.PolConst(reckoned(op, 58368, 300)))
		}
	}
}

// One thing at a time is not ok: the Op, a sum, or an atom that is not there.
func TestP1WhatIsNotReckoned(t *testing.T) {
	tab := base()
	a, b := impl.PolAtom(0), impl.PolAtom(23)
	for _, op := range append(slices.Clone(noOps), extremes...) {
		for _, p := range []impl.TrmPoly{nothing, impl.PolConst(7), a, b, atomsFrom(0, 12)} {
			got, sum := impl.TabDo(tab, op, p, b)
			holdDone(t, fmt.Sprint("Op ", op), got, sum, noTab, nothing)
			got, sum = impl.TabDo(tab, op, p, p)
			holdDone(t, fmt.Sprint("Op ", op), got, sum, noTab, nothing)
		}
	}
	bad := []impl.TrmPoly{
		impl.PolAtom(24), impl.PolAtom(25), impl.PolAtom(199), sumOf(part(1, 0), part(1, 24)), sumOf(part(1, 24), part(1, 0, 0)), sumOf(part(3), part(1, 0, 1, 2, 24)), atomsFrom(13, 12),
		sumOf(part(0)), sumOf(part(-1)), sumOf(part(65536)), sumOf(part(0, 1)), sumOf(part(1, 1, 0)), sumOf(part(1, 1), part(1)), sumOf(part(1), part(1)), sumOf(part(1, 0, 0, 0, 0, 0)), sumOf(part(1, -1)), sumOf(part(1, 200)), sumOf(part(1, math.MinInt)), sumOf(part(1, math.MaxInt)),
		atomsFrom(0, 13), sumOf(make([]impl.TrmMono, 100000)...), sumOf(part(1, make([]int, 100000)...)),
	}
	for _, op := range allOps {
		for _, p := range bad {
			for _, q := range []impl.TrmPoly{nothing, impl.PolConst(1), impl.PolConst(65535), a, b, p} {
				got, sum := impl.TabDo(tab, op, p, q)
				holdDone(t, "the first one is not ok", got, sum, noTab, nothing)
				got, sum = impl.TabDo(tab, op, q, p)
				holdDone(t, "the second one is not ok", got, sum, noTab, nothing)
			}
		}
		got, sum := impl.TabDo(noTab, op, nothing, a)
		holdDone(t, "no atoms", got, sum, noTab, nothing)
		got, sum = impl.TabDo(noTab, op, a, nothing)
		holdDone(t, "no atoms", got, sum, noTab, nothing)
		// The same sums are ok where the atoms are there.
		more := with(tab, cameIn(0))
		got, sum = impl.TabDo(more, op, impl.PolAtom(24), a)
		want, wantSum := wantedDo(more, op, impl.PolAtom(24), a)
		holdDone(t, "the last atom there is", got, sum, want, wantSum)
		if len(got.Atoms) < 25 {
			t.Fatal("the last atom there is")
		}
	}
}

// world is registers, words that are loaded, and words that come in.
type world struct{ regs, loads, ins []int }

func (d *dice) anyWorld() world {
	many := func() int { return d.of(0, 1, 2, 3, 4, 4, 5, 30, 200, 201) }
	return world{d.anyList(many(), d.anyWord), d.anyList(many(), d.anyWord), d.anyList(many(), d.anyWord)}
}

func (w world) vals(t impl.TabTab) []int { return impl.TabVals(t, w.regs, w.loads, w.ins) }

func TestP1SumsComeToWhatWordsCome(t *testing.T) {
	d := dice(100010001)
	seen := map[[2]int]int{}
	for range 15000 {
		tab := d.anyTab(d.mostlyShort())
		x, y := d.anySumOf(len(tab.Atoms)), d.anySumOf(len(tab.Atoms))
		op := d.of(allOps...)
		got, sum := impl.TabDo(tab, op, x, y)
		if !impl.TabOk(got) || !impl.PolOk(sum) || !impl.PolUnder(sum, len(got.Atoms)) {
			t.Fatalf("%v of %v is not ok", sum, got)
		}
		more := len(got.Atoms) - len(tab.Atoms)
		if more < 0 || more > 1 || !sameTab(tabOf(got.Atoms[:len(tab.Atoms)]...), tab) {
			t.Fatalf("atoms that were there: %v, then %v", tab, got)
		}
		for range 3 {
			w := d.anyWorld()
			before, after := w.vals(tab), w.vals(got)
			if len(before) != len(tab.Atoms) || !slices.Equal(after[:len(before)], before) {
				t.Fatalf("what atoms are: %v, then %v", before, after)
			}
			want := impl.WrdDo(op, impl.PolEval(x, before), impl.PolEval(y, before))
			if n := impl.PolEval(sum, after); n != want || n != reckoned(op, wantedEval(x, before), wantedEval(y, before)) {
				t.Fatalf("Op %d of %v and %v comes to %d, not %d, where atoms are %v", op, x, y, n, want, after)
			}
		}
		seen[[2]int{op, more}]++
	}
	for _, op := range allOps {
		if seen[[2]int{op, 0}] < 100 || seen[[2]int{op, 1}] < 100 {
			t.Fatalf("seen: %v", seen)
		}
	}
}

// One is reckoned of another, again and again, until there is no room; beside each sum stands what words come to.
func TestP1UntilThereIsNoRoom(t *testing.T) {
	d := dice(100110011)
	for range 6 {
		tab := noTab
		var sums []impl.TrmPoly
		var words []int
		w := world{d.anyList(4, d.anyWord), d.anyList(200, d.anyWord), d.anyList(200, d.anyWord)}
		for k := range 4 {
			tab, _ = impl.TabPut(tab, register(k))
			sums, words = append(sums, impl.PolAtom(k)), append(words, w.regs[k])
		}
		full := false
		for round := 0; round < 1500 && !full; round++ {
			op := d.of(impl.OpAdd, impl.OpMul, impl.OpAnd, impl.OpXor, impl.OpSub)
			i, j := d.below(len(sums)), d.below(len(sums))
			if d.below(3) == 0 {
				i = len(sums) - 1
			}
			got, sum := impl.TabDo(tab, op, sums[i], sums[j])
			want, wantSum := wantedDo(tab, op, sums[i], sums[j])
			holdDone(t, "one more", got, sum, want, wantSum)
			if full = len(got.Atoms) == 0; full {
				if len(tab.Atoms) != 200 {
					t.Fatalf("no room behind %d atoms", len(tab.Atoms))
				}
				break
			}
			tab, sums, words = got, append(sums, sum), append(words, reckoned(op, words[i], words[j]))
		}
		if !full {
			t.Fatalf("there is room behind %d atoms", len(tab.Atoms))
		}
		vals := w.vals(tab)
		if !slices.Equal(vals, wantedVals(tab, w.regs, w.loads, w.ins)) {
			t.Fatalf("atoms are %v", vals)
		}
		for at, p := range sums {
			if n := impl.PolEval(p, vals); n != words[at] {
				t.Fatalf("%v comes to %d, not %d", p, n, words[at])
			}
		}
	}
}

func TestP31WhatAtomsCome(t *testing.T) {
	tab := tabOf(
		register(2), loaded(1), cameIn(0), register(0), loaded(199), cameIn(3),
		did(impl.OpAdd, sumOf(part(5), part(2, 0)), impl.PolAtom(1)),
		did(impl.OpSub, impl.PolAtom(6), sumOf(part(1, 2, 3))),
		did(impl.OpMul, impl.PolAtom(7), impl.PolAtom(7)),
		did(impl.OpAnd, impl.PolAtom(8), impl.PolConst(255)),
		did(impl.OpXor, nothing, sumOf(part(3), part(1, 6))),
		register(3),
	)
	four, lots := []int{100, 200, 300, 400}, make([]int, 200)
	lots[1], lots[199] = 9, 77
	for _, c := range []struct {
		what              string
		regs, loads, come []int
		want              []int
	}{
		{"all there", four, lots, []int{3, 0, 0, 8}, []int{300, 9, 3, 100, 77, 8, 614, 314, 33060, 36, 617, 400}},
		{"more than there may be", append(four, 5, 6), append(lots, 5, 6), append([]int{3, 0, 0, 8}, lots...), []int{300, 9, 3, 100, 77, 8, 614, 314, 33060, 36, 617, 400}},
		{"none", nil, nil, nil, []int{0, 0, 0, 0, 0, 0, 5, 5, 25, 25, 8, 0}},
		{"empty", []int{}, []int{}, []int{}, []int{0, 0, 0, 0, 0, 0, 5, 5, 25, 25, 8, 0}},
		{"registers alone", four, nil, nil, []int{300, 0, 0, 100, 0, 0, 605, 605, 38345, 201, 608, 400}},
		{"fewer registers", four[:2], lots, nil, []int{0, 9, 0, 100, 77, 0, 14, 14, 196, 196, 17, 0}},
		{"one register", four[:1], nil, []int{65535}, []int{0, 0, 65535, 100, 0, 0, 5, 105, 11025, 17, 8, 0}},
		{"three registers", four[:3], nil, nil, []int{300, 0, 0, 100, 0, 0, 605, 605, 38345, 201, 608, 0}},
		{"fewer loaded", four, lots[:199], []int{3, 0, 0, 8}, []int{300, 9, 3, 100, 0, 8, 614, 314, 33060, 36, 617, 400}},
		{"one loaded", four, []int{50}, []int{3, 0, 0, 8}, []int{300, 0, 3, 100, 0, 8, 605, 305, 27489, 97, 608, 400}},
		{"two loaded", four, []int{50, 65535}, []int{3, 0, 0, 8}, []int{300, 65535, 3, 100, 0, 8, 604, 304, 26880, 0, 607, 400}},
		{"fewer come in", four, lots, []int{3, 4, 5}, []int{300, 9, 3, 100, 77, 0, 614, 314, 33060, 36, 617, 400}},
		{"what is wrapped", []int{65535, 0, 65535, 0}, nil, []int{65535}, []int{65535, 0, 65535, 65535, 0, 0, 3, 2, 4, 4, 6, 0}},
	} {
		if got := impl.TabVals(tab, c.regs, c.loads, c.come); !slices.Equal(got, c.want) {
			t.Errorf("%s: they are %v, not %v", c.what, got, c.want)
		}
	}
}

func TestP31WhatIsNoWord(t *testing.T) {
	some := []int{1, 2, 3, 4}
	for _, tab := range []impl.TabTab{noTab, tabOf(register(0)), tabOf(loaded(0)), tabOf(cameIn(0)), tabOf(did(impl.OpAdd, impl.PolConst(3), nothing)), base()} {
		if got := impl.TabVals(tab, some, some, some); len(got) != len(tab.Atoms) {
			t.Fatalf("%d atoms are %v", len(tab.Atoms), got)
		}
		for _, n := range noWords {
			for _, bad := range [][]int{{n}, {n, 2, 3, 4}, {1, n, 3, 4}, {1, 2, 3, n}, append(make([]int, 300), n)} {
				for which, got := range [][]int{impl.TabVals(tab, bad, some, some), impl.TabVals(tab, some, bad, some), impl.TabVals(tab, some, some, bad), impl.TabVals(tab, bad, nil, nil), impl.TabVals(tab, nil, bad, nil), impl.TabVals(tab, nil, nil, bad)} {
					if len(got) != 0 {
						t.Fatalf("%d is no word, but atoms are %v (%d)", n, got, which)
					}
				}
			}
		}
	}
}

func TestP31EachKindByItsNumber(t *testing.T) {
	many := mixedWords(200)
	for k, n := range many {
		if got := impl.TabVals(tabOf(loaded(k)), nil, many, nil); !slices.Equal(got, []int{n}) {
			t.Fatalf("the word %d that is loaded is %v", k, got)
		}
		if got := impl.TabVals(tabOf(cameIn(k)), nil, nil, many); !slices.Equal(got, []int{n}) {
			t.Fatalf("the word %d that comes in is %v", k, got)
		}
		for _, tab := range []impl.TabTab{tabOf(loaded(k)), tabOf(cameIn(k))} {
			if got := impl.TabVals(tab, many, many[:k], many[:k]); !slices.Equal(got, []int{0}) {
				t.Fatalf("where there are %d words the next one is %v", k, got)
			}
		}
		if k < 4 {
			if got := impl.TabVals(tabOf(register(k)), many, nil, nil); !slices.Equal(got, []int{n}) {
				t.Fatalf("register %d is %v", k, got)
			}
			if got := impl.TabVals(tabOf(register(k)), many[:k], many, many); !slices.Equal(got, []int{0}) {
				t.Fatalf("where there are %d registers the next one is %v", k, got)
			}
		}
	}
	for _, op := range allOps {
		for _, pair := range wordPairs()[:2000] {
			tab := tabOf(register(0), register(1), did(op, impl.PolAtom(0), impl.PolAtom(1)), did(op, impl.PolAtom(1), impl.PolAtom(0)))
			want := []int{pair[0], pair[1], reckoned(op, pair[0], pair[1]), reckoned(op, pair[1], pair[0])}
			if got := impl.TabVals(tab, pair[:], nil, nil); !slices.Equal(got, want) {
				t.Fatalf("Op %d: atoms are %v, not %v", op, got, want)
			}
		}
	}
}

func TestP31AtomsAreWhatTheyAreMadeOf(t *testing.T) {
	d := dice(3100310031)
	for range 10000 {
		tab := d.anyTab(d.mostlyShort())
		w := d.anyWorld()
		got := w.vals(tab)
		if want := wantedVals(tab, w.regs, w.loads, w.ins); !slices.Equal(got, want) {
			t.Fatalf("atoms are %v, not %v", got, want)
		}
		for place, a := range tab.Atoms {
			if !impl.WrdOk(got[place]) {
				t.Fatalf("atom %d is %d", place, got[place])
			}
			if want := impl.WrdDo(a.K, impl.PolEval(a.X, got), impl.PolEval(a.Y, got)); a.Kind == impl.AtmDo && got[place] != want {
				t.Fatalf("atom %d is %d, not %d", place, got[place], want)
			}
			if a.Kind == impl.AtmReg && a.K < len(w.regs) && got[place] != w.regs[a.K] {
				t.Fatalf("atom %d is %d, not register %d", place, got[place], a.K)
			}
		}
		// What stands ahead hangs on nothing behind it.
		first := d.below(len(tab.Atoms) + 1)
		if few := w.vals(tabOf(tab.Atoms[:first]...)); !slices.Equal(few, got[:first]) {
			t.Fatalf("the first %d are %v, not %v", first, few, got[:first])
		}
	}
}

// lentTab is atoms whose lists have spare room, which a careless hand would write into.
func lentTab(t impl.TabTab) impl.TabTab {
	out := impl.TabTab{Atoms: append(slices.Clone(t.Atoms), did(7001, sumOf(part(7002, 7003)), sumOf(part(7004))), loaded(7005))[:len(t.Atoms)]}
	for place, a := range out.Atoms {
		out.Atoms[place].X, out.Atoms[place].Y = lentSum(a.X), lentSum(a.Y)
	}
	return out
}

// wholeTab is a copy of atoms with all that their lists have room for.
func wholeTab(t impl.TabTab) impl.TabTab {
	out := impl.TabTab{Atoms: slices.Clone(t.Atoms[:cap(t.Atoms)])}
	for place, a := range out.Atoms {
		out.Atoms[place].X, out.Atoms[place].Y = wholeSum(a.X), wholeSum(a.Y)
	}
	return out
}

// span is where a list lies in memory, with its spare room.
type span struct{ from, to uintptr }

func spanOf[T any](list []T) []span {
	if cap(list) == 0 {
		return nil
	}
	at := reflect.ValueOf(list)
	return []span{{at.Pointer(), at.Pointer() + uintptr(cap(list))*at.Type().Elem().Size()}}
}

// spansOfSum are those of all lists of a sum.
func spansOfSum(p impl.TrmPoly) []span {
	out := spanOf(p.Monos)
	for _, list := range atomLists(p) {
		out = append(out, spanOf(list)...)
	}
	return out
}

// spansOfTab are those of all lists of atoms.
func spansOfTab(t impl.TabTab) []span {
	out := spanOf(t.Atoms)
	for _, a := range t.Atoms[:cap(t.Atoms)] {
		out = append(out, spansOfSum(a.X)...)
		out = append(out, spansOfSum(a.Y)...)
	}
	return out
}

// holdSpans fails if a list of an answer lies over another one of it, or over one that was given, which may lie over each other.
func holdSpans(t *testing.T, what string, answer []span, given []span) {
	t.Helper()
	answer = slices.Clone(answer)
	slices.SortFunc(answer, func(a, b span) int { return cmp.Compare(a.from, b.from) })
	for at := range answer {
		if at > 0 && answer[at-1].to > answer[at].from {
			t.Fatalf("%s: two lists of an answer share memory", what)
		}
	}
	for _, g := range given {
		at, _ := slices.BinarySearchFunc(answer, g, func(a, b span) int { return cmp.Compare(a.to, b.from+1) })
		if at < len(answer) && answer[at].from < g.to {
			t.Fatalf("%s: an answer shares memory with what was given", what)
		}
	}
}

func TestP30NothingIsWrittenIntoOrShared(t *testing.T) {
	d := dice(1234512345)
	for round := range 3000 {
		tab := lentTab(d.anyTab(d.mostlyShort()))
		switch round % 20 {
		case 0:
			tab = lentTab(filledUp(d.anyTab(9), 200))
		case 1:
			tab = lentTab(with(d.anyTab(9), d.anyAtomAtAll()))
		}
		a := lentTab(tabOf(d.anyAtom(len(tab.Atoms)))).Atoms[0]
		if round%3 == 0 && len(tab.Atoms) > 0 {
			a = tab.Atoms[d.below(len(tab.Atoms))]
		} else if round%7 == 0 {
			a = lentTab(tabOf(d.anyAtomAtAll())).Atoms[0]
		}
		x, y := lentSum(d.anySumOf(len(tab.Atoms))), lentSum(d.anySumOf(len(tab.Atoms)))
		if round%5 == 0 {
			y = x
		}
		w := d.anyWorld()
		whole, wholeA, wholeX, wholeY := wholeTab(tab), wholeTab(tabOf(a)), wholeSum(x), wholeSum(y)
		lists := held([][]int{w.regs, w.loads, w.ins})
		given := slices.Concat(spansOfTab(tab), spansOfSum(a.X), spansOfSum(a.Y), spansOfSum(x), spansOfSum(y), spanOf(w.regs), spanOf(w.loads), spanOf(w.ins))
		impl.TabOk(tab)
		vals := w.vals(tab)
		holdSpans(t, "TabVals", spanOf(vals), given)
		put, _ := impl.TabPut(tab, a)
		holdSpans(t, "TabPut", spansOfTab(put), given)
		for _, op := range append([]int{0, 6}, allOps...) {
			done, sum := impl.TabDo(tab, op, x, y)
			holdSpans(t, "TabDo", append(spansOfTab(done), spansOfSum(sum)...), given)
		}
		if !sameTab(wholeTab(tab), whole) || !sameTab(wholeTab(tabOf(a)), wholeA) || !sameSum(wholeSum(x), wholeX) || !sameSum(wholeSum(y), wholeY) {
			t.Fatalf("what was given is written into: %v", whole)
		}
		for at, list := range [][]int{w.regs, w.loads, w.ins} {
			if !slices.Equal(list, lists[at]) {
				t.Fatalf("words are written into: %v", lists[at])
			}
		}
		runtime.KeepAlive([]any{tab, a, x, y, w, vals, put})
	}
}

// Two sums that are one and the same list, and atoms whose sums are, lead to lists of their own.
func TestP28ListsOverEachOther(t *testing.T) {
	parts := []impl.TrmMono{part(2), part(3, 0), part(5, 1), part(7, 0, 0), part(9, 0, 1, 1), part(11, 1, 1, 1)}
	p, q := impl.TrmPoly{Monos: parts[:4]}, impl.TrmPoly{Monos: parts[1:]}
	tab := tabOf(register(0), register(1), did(impl.OpMul, p, p), did(impl.OpMul, p, q), did(impl.OpAnd, q, p))
	if !impl.TabOk(tab) {
		t.Fatal("they are ok")
	}
	whole := wholeTab(tab)
	given := append(spansOfTab(tab), spansOfSum(sumOf(parts...))...)
	for _, op := range allOps {
		for _, pair := range [][2]impl.TrmPoly{{p, p}, {p, q}, {q, p}, {q, q}} {
			got, sum := impl.TabDo(tab, op, pair[0], pair[1])
			want, wantSum := wantedDo(tab, op, pair[0], pair[1])
			holdDone(t, "lists over each other", got, sum, want, wantSum)
			holdSpans(t, "TabDo", append(spansOfTab(got), spansOfSum(sum)...), given)
			put, place := impl.TabPut(tab, did(op, pair[0], pair[1]))
			wantPut, wantPlace := wantedPut(tab, did(op, pair[0], pair[1]))
			holdPut(t, "lists over each other", put, place, wantPut, wantPlace)
			holdSpans(t, "TabPut", spansOfTab(put), given)
		}
	}
	if !sameTab(wholeTab(tab), whole) {
		t.Fatalf("what was given is written into: %v", tab)
	}
}

// An answer that is written into turns no later one.
func TestP30NothingIsKept(t *testing.T) {
	spoil := func(tab impl.TabTab) {
		for place := range tab.Atoms {
			for _, p := range []impl.TrmPoly{tab.Atoms[place].X, tab.Atoms[place].Y} {
				for at := range p.Monos {
					p.Monos[at].Coef = -7
					for k := range p.Monos[at].Atoms {
						p.Monos[at].Atoms[k] = -7
					}
				}
			}
			tab.Atoms[place].Kind = -7
		}
	}
	tab := with(base(), did(impl.OpAnd, atomsFrom(0, 3), atomsFrom(5, 4)))
	for range 3 {
		put, place := impl.TabPut(tab, did(impl.OpXor, atomsFrom(2, 3), impl.PolAtom(24)))
		holdPut(t, "a new one", put, place, with(tab, did(impl.OpXor, atomsFrom(2, 3), impl.PolAtom(24))), 25)
		spoil(put)
		got, sum := impl.TabDo(tab, impl.OpAnd, atomsFrom(5, 4), atomsFrom(0, 3))
		holdDone(t, "one that is there", got, sum, tab, impl.PolAtom(24))
		spoil(got)
		sum.Monos[0].Atoms[0] = 9
		vals := impl.TabVals(tab, []int{1, 2}, []int{3}, nil)
		if want := wantedVals(tab, []int{1, 2}, []int{3}, nil); !slices.Equal(vals, want) {
			t.Fatalf("atoms are %v, not %v", vals, want)
		}
		clear(vals)
	}
}
