package tests

import (
	"math"
	"math/big"
	"slices"
	"testing"

	"loop.example/latimer/impl"
)

// The signatures that the document gives; another one would not compile here.
var (
	_ func(impl.TrmPoly) bool                               = impl.PolOk
	_ func(int) impl.TrmPoly                                = impl.PolConst
	_ func(int) impl.TrmPoly                                = impl.PolAtom
	_ func(impl.TrmPoly) (int, bool)                        = impl.PolNum
	_ func(impl.TrmPoly, impl.TrmPoly) (impl.TrmPoly, bool) = impl.PolAdd
	_ func(impl.TrmPoly, int) impl.TrmPoly                  = impl.PolScale
	_ func(impl.TrmPoly, impl.TrmPoly) (impl.TrmPoly, bool) = impl.PolMul
	_ func(impl.TrmPoly, []int) int                         = impl.PolEval
	_ func(impl.TrmPoly, impl.TrmPoly) int                  = impl.PolOrder
	_ func(impl.TrmPoly, int) bool                          = impl.PolUnder
)

// noAtoms are numbers that no atom has.
var noAtoms = append([]int{200, 201, 255, 456}, extremes...)

func part(coef int, atoms ...int) impl.TrmMono {
	return impl.TrmMono{Coef: coef, Atoms: atoms}
}

func sumOf(parts ...impl.TrmMono) impl.TrmPoly {
	return impl.TrmPoly{Monos: parts}
}

// nothing is the sum without parts.
var nothing = impl.TrmPoly{}

// atomsFrom is a sum of so many atoms, each once.
func atomsFrom(first, many int) impl.TrmPoly {
	var out impl.TrmPoly
	for k := range many {
		out.Monos = append(out.Monos, part(1, first+k))
	}
	return out
}

// sameSum holds two sums against each other; the empty list and the nil list are the same.
func sameSum(a, b impl.TrmPoly) bool {
	return slices.EqualFunc(a.Monos, b.Monos, func(x, y impl.TrmMono) bool {
		return x.Coef == y.Coef && slices.Equal(x.Atoms, y.Atoms)
	})
}

// holdSum fails unless a sum is the wanted one.
func holdSum(t *testing.T, what string, got, want impl.TrmPoly) {
	t.Helper()
	if !sameSum(got, want) {
		t.Fatalf("%s:\n got %v\nwant %v", what, got, want)
	}
}

// holdTold fails unless a sum is the wanted one, and what is told beside it, too.
func holdTold(t *testing.T, what string, got impl.TrmPoly, gotOk bool, want impl.TrmPoly, wantOk bool) {
	t.Helper()
	if !sameSum(got, want) || gotOk != wantOk {
		t.Fatalf("%s:\n got %v %v\nwant %v %v", what, got, gotOk, want, wantOk)
	}
}

// stands is how lists of atoms stand, told by hand.
func stands(a, b []int) int {
	for at := 0; len(a) == len(b) && at < len(a); at++ {
		if a[at] < b[at] {
			return -1
		}
		if a[at] > b[at] {
			return 1
		}
	}
	switch {
	case len(a) < len(b):
		return -1
	case len(a) > len(b):
		return 1
	}
	return 0
}

// wantedSum is what the document asks of parts that are put together: told by going through all of them for each.
func wantedSum(parts []impl.TrmMono) (impl.TrmPoly, bool) {
	var out impl.TrmPoly
	for at, x := range parts {
		atoms := slices.Sorted(slices.Values(x.Atoms))
		coef, first := 0, true
		for other, y := range parts {
			if slices.Equal(slices.Sorted(slices.Values(y.Atoms)), atoms) {
				coef = (coef + y.Coef) % 65536
				first = first && other >= at
			}
		}
		if !first || coef == 0 {
			continue
		}
		if len(atoms) > 4 {
			return nothing, false
		}
		out.Monos = append(out.Monos, impl.TrmMono{Coef: coef, Atoms: atoms})
	}
	if len(out.Monos) > 12 {
		return nothing, false
	}
	slices.SortFunc(out.Monos, func(x, y impl.TrmMono) int { return stands(x.Atoms, y.Atoms) })
	return out, true
}

func wantedAdd(a, b impl.TrmPoly) (impl.TrmPoly, bool) {
	return wantedSum(slices.Concat(a.Monos, b.Monos))
}

func wantedMul(a, b impl.TrmPoly) (impl.TrmPoly, bool) {
	var all []impl.TrmMono
	for _, x := range a.Monos {
		for _, y := range b.Monos {
			all = append(all, impl.TrmMono{Coef: reckoned(impl.OpMul, x.Coef, y.Coef), Atoms: slices.Concat(x.Atoms, y.Atoms)})
		}
	}
	return wantedSum(all)
}

// wantedEval is what a sum that is ok comes to, by numbers of any size that are wrapped only in the end.
func wantedEval(p impl.TrmPoly, vals []int) int {
	sum := new(big.Int)
	for _, x := range p.Monos {
		product := big.NewInt(int64(x.Coef))
		for _, k := range x.Atoms {
			val := 0
			if k < len(vals) {
				val = vals[k]
			}
			product.Mul(product, big.NewInt(int64(val)))
		}
		sum.Add(sum, product)
	}
	return int(sum.Mod(sum, big.NewInt(65536)).Int64())
}

// anyCoef is a small word, one with many noughts behind, one near an end, or any; never 0.
func (d *dice) anyCoef() int {
	switch d.below(4) {
	case 0:
		return 1 + d.below(4)
	case 1:
		return 1 << d.below(16)
	case 2:
		return d.of(255, 257, 16384, 32767, 32768, 32769, 49152, 65279, 65280, 65534, 65535)
	}
	return 1 + d.below(65535)
}

// anySum is a sum that is ok, of at most so many parts, with at most so many atoms each, out of a few.
func (d *dice) anySum(most, deg int, atoms ...int) impl.TrmPoly {
	var parts []impl.TrmMono
	for range d.below(most + 1) {
		parts = append(parts, part(d.anyCoef(), d.anyList(d.below(deg+1), func() int { return d.of(atoms...) })...))
	}
	out, _ := wantedSum(parts)
	return out
}

// sumPair is two sums that are ok, of one of several shapes: with many parts in common, with few, and long.
func (d *dice) sumPair() (impl.TrmPoly, impl.TrmPoly) {
	switch d.below(5) {
	case 0:
		return d.anySum(3, 2, 0, 1, 2), d.anySum(4, 2, 0, 1, 2)
	case 1:
		return d.anySum(12, 4, 0, 1, 127, 128, 199), d.anySum(12, 4, 0, 1, 127, 128, 199)
	case 2:
		return d.anySum(12, 1, 0, 1, 2, 3, 9, 10, 11, 99, 100), d.anySum(2, 2, 0, 1)
	case 3:
		return d.anySum(3, 4, 0, 7), d.anySum(3, 4, 0, 7)
	}
	p := d.anySum(9, 2, 5, 6, 7, 199)
	return p, impl.PolScale(p, d.anyCoef())
}

// anyVals are words for atoms, some for all of them, some for a few or none.
func (d *dice) anyVals() []int {
	return d.anyList(d.of(0, 1, 2, 3, 8, 100, 128, 129, 199, 200, 201, 300), d.anyWord)
}

func TestSumNumbers(t *testing.T) {
	got := []int{impl.PolMost, impl.PolDeg, impl.AtmMost}
	want := []int{12, 4, 200}
	for i := range want {
		if got[i] != want[i] {
			t.Errorf("constant %d of chapter 4 is %d, not %d", i, got[i], want[i])
		}
	}
}

// okSums are sums at the ends of what is ok.
func okSums() []impl.TrmPoly {
	return []impl.TrmPoly{
		nothing,
		sumOf(),
		sumOf(part(1)),
		sumOf(part(65535)),
		sumOf(impl.TrmMono{Coef: 7, Atoms: []int{}}),
		sumOf(part(1, 0)),
		sumOf(part(65535, 199)),
		sumOf(part(1, 0, 0, 0, 0)),
		sumOf(part(9, 199, 199, 199, 199)),
		sumOf(part(9, 0, 0, 1, 199)),
		sumOf(part(2, 5, 6, 7, 8)),
		sumOf(part(1), part(1, 0)),
		sumOf(part(3), part(2, 199), part(1, 0, 0)),
		sumOf(part(1, 9), part(1, 10), part(1, 100), part(1, 127), part(1, 128)),
		sumOf(part(1, 5, 9), part(1, 6, 6), part(1, 6, 7), part(1, 5, 5, 5)),
		sumOf(part(1, 1, 2, 3, 4), part(1, 1, 2, 3, 5), part(1, 1, 2, 4, 4), part(1, 1, 3, 3, 3), part(1, 2, 2, 2, 2)),
		sumOf(part(32768), part(32768, 3), part(32768, 3, 3), part(32768, 3, 3, 3), part(32768, 3, 3, 3, 3)),
		atomsFrom(0, 12),
		atomsFrom(188, 12),
	}
}

func TestP21WhatIsASum(t *testing.T) {
	for _, p := range okSums() {
		if !impl.PolOk(p) {
			t.Errorf("%v is ok, but PolOk is false", p)
		}
		for _, none := range []impl.TrmPoly{nothing, sumOf()} {
			there, thereOk := impl.PolAdd(p, none)
			holdTold(t, "and nothing", there, thereOk, p, true)
			back, backOk := impl.PolAdd(none, p)
			holdTold(t, "nothing, and it", back, backOk, p, true)
		}
	}
	for k := range 200 {
		if !impl.PolOk(sumOf(part(1, k))) || !impl.PolOk(sumOf(part(1, 0, k))) || !impl.PolOk(sumOf(part(1, k, 199))) {
			t.Errorf("%d is an atom", k)
		}
	}
	for n := 1; n < impl.WrdMany; n++ {
		if !impl.PolOk(sumOf(part(n))) || !impl.PolOk(sumOf(part(n, 4))) {
			t.Fatalf("%d is a word", n)
		}
	}
}

// holdNoSum fails unless a sum is answered as one that is not ok.
func holdNoSum(t *testing.T, p impl.TrmPoly) {
	t.Helper()
	if impl.PolOk(p) {
		t.Fatalf("%v is not ok, but PolOk is true", p)
	}
	if n, ok := impl.PolNum(p); n != 0 || ok {
		t.Fatalf("PolNum of %v, which is not ok, is %d, %v", p, n, ok)
	}
	for _, n := range append([]int{0, 1, 2, 32768, 65535}, noWords...) {
		holdSum(t, "PolScale of what is not ok", impl.PolScale(p, n), nothing)
	}
	for _, q := range []impl.TrmPoly{nothing, impl.PolConst(1), impl.PolConst(65535), impl.PolAtom(0), impl.PolAtom(9), p} {
		for _, way := range []func(impl.TrmPoly, impl.TrmPoly) (impl.TrmPoly, bool){impl.PolAdd, impl.PolMul} {
			first, firstOk := way(p, q)
			holdTold(t, "the first one is not ok", first, firstOk, nothing, false)
			second, secondOk := way(q, p)
			holdTold(t, "the second one is not ok", second, secondOk, nothing, false)
		}
	}
	for _, vals := range [][]int{nil, {1}, slices.Repeat([]int{1}, 200), mixedWords(200), {-1}} {
		if n := impl.PolEval(p, vals); n != 0 {
			t.Fatalf("PolEval of %v, which is not ok, is %d", p, n)
		}
	}
}

func TestP21WhatIsNoSum(t *testing.T) {
	long := make([]int, 100000)
	many := make([]impl.TrmMono, 100000)
	for _, p := range []impl.TrmPoly{
		atomsFrom(0, 13),
		atomsFrom(0, 14),
		atomsFrom(0, 200),
		sumOf(append([]impl.TrmMono{part(1)}, atomsFrom(0, 12).Monos...)...),
		sumOf(many...),
		sumOf(part(1, 0, 0, 0, 0, 0)),
		sumOf(part(1, 1, 2, 3, 4, 5)),
		sumOf(part(1), part(1, 1, 2, 3, 4, 5)),
		sumOf(part(1, long...)),
		sumOf(part(1, 1, 0)),
		sumOf(part(1, 199, 198)),
		sumOf(part(1, 0, 1, 0)),
		sumOf(part(1, 2, 1, 3, 4)),
		sumOf(part(1, 1, 2, 4, 3)),
		sumOf(part(1, 1, 3, 2, 4)),
		sumOf(part(3), part(3, 8), part(1, 9, 8)),
		sumOf(part(1), part(1)),
		sumOf(part(1), part(2)),
		sumOf(part(1), part(65535)),
		sumOf(part(1, 4), part(1, 4)),
		sumOf(part(1, 4), part(2, 4)),
		sumOf(part(2, 4), part(1, 4)),
		sumOf(part(1, 1, 2, 3, 4), part(5, 1, 2, 3, 4)),
		sumOf(part(1), part(1, 3), part(1, 4), part(1, 4)),
		sumOf(part(1, 0), part(1)),
		sumOf(part(1, 0, 0), part(1, 199)),
		sumOf(part(1, 0, 0, 0, 0), part(1, 1, 1, 1)),
		sumOf(part(1), part(1, 0, 0), part(1, 0)),
		sumOf(part(1, 1), part(1, 0)),
		sumOf(part(1, 199), part(1, 198)),
		sumOf(part(1, 128), part(1, 127)),
		sumOf(part(1, 0, 1), part(1, 0, 0)),
		sumOf(part(1, 1, 1), part(1, 0, 9)),
		sumOf(part(1, 1, 2, 3, 5), part(1, 1, 2, 3, 4)),
		sumOf(part(1, 1), part(1, 3), part(1, 2)),
	} {
		holdNoSum(t, p)
	}
}

// No Coef and no atom, at the first, a middle and the last place, of a sum with few parts and of one with PolMost.
func TestP21WhatIsNoWordOrNoAtomInASum(t *testing.T) {
	for _, n := range append([]int{0}, noWords...) {
		holdNoSum(t, sumOf(part(n)))
		holdNoSum(t, sumOf(part(n, 3)))
		holdNoSum(t, sumOf(part(n, 3, 3, 3, 3)))
		for _, at := range []int{0, 5, 11} {
			p := atomsFrom(20, 12)
			p.Monos[at].Coef = n
			holdNoSum(t, p)
		}
	}
	for _, k := range noAtoms {
		holdNoSum(t, sumOf(part(1, k)))
		holdNoSum(t, sumOf(part(1, k, k, k, k)))
		holdNoSum(t, sumOf(part(1), part(1, 0), part(1, slices.Sorted(slices.Values([]int{0, 199, k}))...)))
		for _, at := range []int{0, 5, 11} {
			p := atomsFrom(20, 12)
			p.Monos[at].Atoms[0] = k
			holdNoSum(t, p)
		}
	}
}

// The ends of atoms, where all else of the sum is as it must be.
func TestP21AtomsAboutTheirEnds(t *testing.T) {
	for k, ok := range map[int]bool{-1: false, 0: true, 199: true, 200: false} {
		if got := impl.PolOk(sumOf(part(1, k))); got != ok {
			t.Errorf("PolOk of the atom %d is %v", k, got)
		}
		low := impl.PolOk(sumOf(part(1, min(k, 5), max(k, 5))))
		if low != ok {
			t.Errorf("PolOk of the atoms %d and 5 is %v", k, low)
		}
	}
}

func TestP21Sums(t *testing.T) {
	twelve := atomsFrom(0, 12)
	for _, c := range []struct {
		what    string
		a, b    impl.TrmPoly
		want    impl.TrmPoly
		success bool
	}{
		{"nothing", nothing, nothing, nothing, true},
		{"words", impl.PolConst(3), impl.PolConst(4), impl.PolConst(7), true},
		{"words that are wrapped", impl.PolConst(65535), impl.PolConst(3), impl.PolConst(2), true},
		{"words that come to 0", impl.PolConst(65535), impl.PolConst(1), nothing, true},
		{"halves that come to 0", sumOf(part(32768, 1)), sumOf(part(32768, 1)), nothing, true},
		{"a word and an atom", impl.PolAtom(4), impl.PolConst(3), sumOf(part(3), part(1, 4)), true},
		{"an atom twice", impl.PolAtom(4), impl.PolAtom(4), sumOf(part(2, 4)), true},
		{"in their order", sumOf(part(1, 128), part(1, 0, 0)), sumOf(part(1, 2), part(1, 127), part(1, 199)), sumOf(part(1, 2), part(1, 127), part(1, 128), part(1, 199), part(1, 0, 0)), true},
		{"some come to 0", sumOf(part(5), part(3, 1), part(7, 1, 2)), sumOf(part(6), part(65533, 1), part(1, 1, 2)), sumOf(part(11), part(8, 1, 2)), true},
		{"the first comes to 0", sumOf(part(5), part(3, 1)), impl.PolConst(65531), sumOf(part(3, 1)), true},
		{"the last comes to 0", sumOf(part(5), part(3, 1)), sumOf(part(65533, 1)), impl.PolConst(5), true},
		{"all come to 0", sumOf(part(5), part(3, 1), part(7, 1, 2)), sumOf(part(65531), part(65533, 1), part(65529, 1, 2)), nothing, true},
		{"one more just fits", atomsFrom(0, 11), impl.PolAtom(11), twelve, true},
		{"half and half just fit", atomsFrom(0, 6), atomsFrom(6, 6), twelve, true},
		{"one more is too many", twelve, impl.PolAtom(12), nothing, false},
		{"a word is too many", twelve, impl.PolConst(1), nothing, false},
		{"one too many, not the last", atomsFrom(1, 12), impl.PolAtom(0), nothing, false},
		{"twice as many", twelve, atomsFrom(12, 12), nothing, false},
		{"the same ones", twelve, twelve, impl.PolScale(twelve, 2), true},
		{"thirteen on the way", twelve, sumOf(part(65535, 0), part(1, 12)), atomsFrom(1, 12), true},
		{"thirteen on the way, the new one first", sumOf(part(65535, 0), part(1, 0, 0)), twelve, sumOf(append(atomsFrom(1, 11).Monos, part(1, 0, 0))...), true},
		{"eighteen on the way", twelve, sumOf(append(impl.PolScale(atomsFrom(0, 6), 65535).Monos, atomsFrom(12, 6).Monos...)...), atomsFrom(6, 12), true},
		{"one of eighteen too many", twelve, sumOf(append(impl.PolScale(atomsFrom(0, 5), 65535).Monos, atomsFrom(12, 6).Monos...)...), nothing, false},
		{"PolDeg atoms", sumOf(part(1, 1, 2, 3, 4)), sumOf(part(1, 1, 1, 1, 1), part(2, 1, 2, 3, 4)), sumOf(part(1, 1, 1, 1, 1), part(3, 1, 2, 3, 4)), true},
	} {
		got, ok := impl.PolAdd(c.a, c.b)
		holdTold(t, c.what, got, ok, c.want, c.success)
		back, backOk := impl.PolAdd(c.b, c.a)
		holdTold(t, c.what+", the other way round", back, backOk, c.want, c.success)
	}
}

// holdWay fails unless two sums lead to what the document asks; it says whether that is true.
func holdWay(t *testing.T, d *dice, op int, a, b impl.TrmPoly) bool {
	t.Helper()
	way, wanted := impl.PolAdd, wantedAdd
	if op == impl.OpMul {
		way, wanted = impl.PolMul, wantedMul
	}
	got, ok := way(a, b)
	want, wantOk := wanted(a, b)
	holdTold(t, "of two", got, ok, want, wantOk)
	back, backOk := way(b, a)
	holdTold(t, "the other way round", back, backOk, got, ok)
	if !ok {
		return false
	}
	if !impl.PolOk(got) {
		t.Fatalf("%v is not ok", got)
	}
	for range 3 {
		vals := d.anyVals()
		if n, both := impl.PolEval(got, vals), impl.WrdDo(op, impl.PolEval(a, vals), impl.PolEval(b, vals)); n != both || n != wantedEval(got, vals) {
			t.Fatalf("%v comes to %d, and not %d, at %v", got, n, both, vals)
		}
	}
	return true
}

func TestP21ASumComesToBoth(t *testing.T) {
	d := dice(2100210021)
	success, failed, zeros := 0, 0, 0
	for range 20000 {
		a, b := d.sumPair()
		if !holdWay(t, &d, impl.OpAdd, a, b) {
			failed++
			continue
		}
		success++
		if got, _ := impl.PolAdd(a, b); len(got.Monos) < max(len(a.Monos), len(b.Monos)) {
			zeros++
		}
	}
	if success < 100 || failed < 100 || zeros < 100 {
		t.Fatalf("%d are true, %d false, %d of them with parts that come to 0", success, failed, zeros)
	}
}

func TestP21WithWhatUndoesItItIsNothing(t *testing.T) {
	d := dice(1221122112)
	sums := okSums()
	for range 5000 {
		p, q := d.sumPair()
		sums = append(sums, p, q)
		if both, ok := impl.PolAdd(p, q); ok {
			less, lessOk := impl.PolAdd(both, impl.PolScale(q, 65535))
			holdTold(t, "both, less the second", less, lessOk, p, true)
		}
	}
	for _, p := range sums {
		got, ok := impl.PolAdd(p, impl.PolScale(p, 65535))
		holdTold(t, "a sum, and what undoes it", got, ok, nothing, true)
	}
}

func TestP22Products(t *testing.T) {
	b := sumOf(part(1), part(1, 0), part(1, 1), part(1, 2), part(1, 3), part(1, 4), part(1, 5))
	c := sumOf(part(1), part(65535, 0), part(1, 1), part(1, 2), part(1, 3), part(1, 4), part(1, 5))
	fits := sumOf(part(1), part(1, 1), part(1, 2), part(1, 3), part(1, 4), part(1, 5), part(65535, 0, 0), part(1, 0, 1), part(1, 0, 2), part(1, 0, 3), part(1, 0, 4), part(1, 0, 5))
	onePlus := sumOf(part(1), part(1, 0))
	for _, c := range []struct {
		what    string
		a, b    impl.TrmPoly
		want    impl.TrmPoly
		success bool
	}{
		{"nothing", nothing, nothing, nothing, true},
		{"nothing, and much", nothing, atomsFrom(0, 12), nothing, true},
		{"nothing, and long", nothing, sumOf(part(1, 1, 2, 3, 4)), nothing, true},
		{"words", impl.PolConst(300), impl.PolConst(400), impl.PolConst(54464), true},
		{"words that come to 0", impl.PolConst(256), impl.PolConst(256), nothing, true},
		{"the greatest words", impl.PolConst(65535), impl.PolConst(65535), impl.PolConst(1), true},
		{"once", impl.PolConst(1), atomsFrom(0, 12), atomsFrom(0, 12), true},
		{"atoms", impl.PolAtom(9), impl.PolAtom(2), sumOf(part(1, 2, 9)), true},
		{"atoms in their order", sumOf(part(2, 127, 199)), sumOf(part(3, 0, 128)), sumOf(part(6, 0, 127, 128, 199)), true},
		{"squares", sumOf(part(3), part(1, 0)), sumOf(part(65533), part(1, 0)), sumOf(part(65527), part(1, 0, 0)), true},
		{"put together", onePlus, onePlus, sumOf(part(1), part(2, 0), part(1, 0, 0)), true},
		{"some come to 0", sumOf(part(1), part(256, 1)), sumOf(part(1), part(256, 1)), sumOf(part(1), part(512, 1)), true},
		{"all come to 0", sumOf(part(256), part(512, 1), part(1024, 1, 2)), sumOf(part(256), part(32768, 1), part(4096, 1, 2)), nothing, true},
		{"three times four just fit", atomsFrom(0, 3), atomsFrom(10, 4), sumOf(part(1, 0, 10), part(1, 0, 11), part(1, 0, 12), part(1, 0, 13), part(1, 1, 10), part(1, 1, 11), part(1, 1, 12), part(1, 1, 13), part(1, 2, 10), part(1, 2, 11), part(1, 2, 12), part(1, 2, 13)), true},
		{"thirteen are one too many", onePlus, b, nothing, false},
		{"of thirteen one comes to 0", onePlus, c, fits, true},
		{"two times seven", atomsFrom(0, 2), atomsFrom(10, 7), nothing, false},
		{"twelve times twelve", atomsFrom(0, 12), atomsFrom(20, 12), nothing, false},
		{"twelve times twelve that come to 0", impl.PolScale(atomsFrom(0, 12), 256), impl.PolScale(atomsFrom(20, 12), 256), nothing, true},
		{"twelve times twelve, of which one stays", sumOf(append([]impl.TrmMono{part(1)}, impl.PolScale(atomsFrom(0, 11), 32768).Monos...)...), sumOf(append([]impl.TrmMono{part(2)}, impl.PolScale(atomsFrom(20, 11), 32768).Monos...)...), sumOf(append([]impl.TrmMono{part(2)}, impl.PolScale(atomsFrom(20, 11), 32768).Monos...)...), true},
		{"three and one atoms", sumOf(part(1, 1, 2, 4)), impl.PolAtom(3), sumOf(part(1, 1, 2, 3, 4)), true},
		{"two and two atoms", sumOf(part(1, 7, 7)), sumOf(part(1, 7, 7)), sumOf(part(1, 7, 7, 7, 7)), true},
		{"four and none", sumOf(part(1, 1, 2, 3, 4)), impl.PolConst(5), sumOf(part(5, 1, 2, 3, 4)), true},
		{"one atom too many", sumOf(part(1, 1, 2, 3, 4)), impl.PolAtom(0), nothing, false},
		{"two and three atoms", sumOf(part(1, 1, 2)), sumOf(part(1, 0, 0, 0)), nothing, false},
		{"twice as many atoms", sumOf(part(1, 1, 2, 3, 4)), sumOf(part(1, 1, 2, 3, 4)), nothing, false},
		{"an atom too many beside others", sumOf(part(1), part(1, 1, 2, 3, 4)), sumOf(part(1), part(1, 0)), nothing, false},
		{"an atom too many comes to 0", sumOf(part(256, 1, 2, 3, 4)), sumOf(part(256, 0)), nothing, true},
		{"eight atoms come to 0", sumOf(part(256, 1, 2, 3, 4)), sumOf(part(256, 1, 2, 3, 4)), nothing, true},
		{"an atom too many nearly comes to 0", sumOf(part(256, 1, 2, 3, 4)), sumOf(part(128, 0)), nothing, false},
		{"an atom too many comes to 0 beside others", sumOf(part(1), part(256, 1, 2, 3)), sumOf(part(1), part(256, 0, 4)), sumOf(part(1), part(256, 0, 4), part(256, 1, 2, 3)), true},
		{"an atom too many, twice, comes to 0", sumOf(part(1, 0), part(256, 0, 1)), sumOf(part(65535, 2, 3, 4), part(256, 1, 2, 3, 4)), sumOf(part(65535, 0, 2, 3, 4)), true},
		{"an atom too many, twice, does not come to 0", sumOf(part(1, 0), part(256, 0, 1)), sumOf(part(65534, 2, 3, 4), part(256, 1, 2, 3, 4)), nothing, false},
	} {
		got, ok := impl.PolMul(c.a, c.b)
		holdTold(t, c.what, got, ok, c.want, c.success)
		back, backOk := impl.PolMul(c.b, c.a)
		holdTold(t, c.what+", the other way round", back, backOk, c.want, c.success)
	}
}

func TestP22AProductComesToBothMultiplied(t *testing.T) {
	d := dice(2200220022)
	success, failed := 0, 0
	for range 20000 {
		a, b := d.sumPair()
		if holdWay(t, &d, impl.OpMul, a, b) {
			success++
		} else {
			failed++
		}
	}
	if success < 100 || failed < 100 {
		t.Fatalf("%d are true, %d false", success, failed)
	}
}

func TestP23SoManyTimes(t *testing.T) {
	p := sumOf(part(1), part(2, 0), part(3, 1), part(4, 1, 1), part(32768, 1, 2), part(65535, 1, 2, 3, 4))
	for _, c := range []struct {
		n    int
		want impl.TrmPoly
	}{
		{0, nothing},
		{1, p},
		{2, sumOf(part(2), part(4, 0), part(6, 1), part(8, 1, 1), part(65534, 1, 2, 3, 4))},
		{3, sumOf(part(3), part(6, 0), part(9, 1), part(12, 1, 1), part(32768, 1, 2), part(65533, 1, 2, 3, 4))},
		{16384, sumOf(part(16384), part(32768, 0), part(49152, 1), part(49152, 1, 2, 3, 4))},
		{32768, sumOf(part(32768), part(32768, 1), part(32768, 1, 2, 3, 4))},
		{65535, sumOf(part(65535), part(65534, 0), part(65533, 1), part(65532, 1, 1), part(32768, 1, 2), part(1, 1, 2, 3, 4))},
		{65536, nothing},
		{65537, nothing},
		{-1, nothing},
		{-65535, nothing},
	} {
		holdSum(t, "so many times", impl.PolScale(p, c.n), c.want)
	}
	for _, p := range okSums() {
		holdSum(t, "by 0", impl.PolScale(p, 0), nothing)
		holdSum(t, "by 1", impl.PolScale(p, 1), p)
		for _, n := range noWords {
			holdSum(t, "by no word", impl.PolScale(p, n), nothing)
		}
	}
	holdSum(t, "all come to 0", impl.PolScale(sumOf(part(2), part(32768, 1), part(65534, 1, 1)), 32768), nothing)
	holdSum(t, "256 times 256", impl.PolScale(impl.PolScale(impl.PolAtom(1), 256), 256), nothing)
}

func TestP23IsTheProductWithThatWord(t *testing.T) {
	d := dice(2300230023)
	for range 10000 {
		p, _ := d.sumPair()
		for _, n := range []int{0, 1, d.anyWord(), d.anyCoef(), 32768, 65535} {
			scaled := impl.PolScale(p, n)
			product, ok := impl.PolMul(impl.PolConst(n), p)
			holdTold(t, "the product", product, ok, scaled, true)
			if !impl.PolOk(scaled) {
				t.Fatalf("%v is not ok", scaled)
			}
			vals := d.anyVals()
			if impl.PolEval(scaled, vals) != reckoned(impl.OpMul, n, wantedEval(p, vals)) {
				t.Fatalf("%d times %v at %v", n, p, vals)
			}
		}
	}
}

// all says whether all of several answers are true.
func all(oks ...bool) bool { return !slices.Contains(oks, false) }

func TestP24AProductIsSpread(t *testing.T) {
	d := dice(2400240024)
	held := 0
	for range 20000 {
		c := d.anySum(3, 2, 0, 1, 199)
		a, b := d.anySum(4, 2, 0, 1, 2), d.anySum(4, 2, 0, 1, 2)
		together, ok := impl.PolAdd(a, b)
		whole, ok1 := impl.PolMul(c, together)
		first, ok2 := impl.PolMul(c, a)
		second, ok3 := impl.PolMul(c, b)
		spread, ok4 := impl.PolAdd(first, second)
		if !all(ok, ok1, ok2, ok3, ok4) {
			continue
		}
		holdSum(t, "spread", spread, whole)
		if len(whole.Monos) > 3 {
			held++
		}
	}
	if held < 1000 {
		t.Fatalf("only %d were held", held)
	}
}

func TestP24ThreeTogether(t *testing.T) {
	d := dice(4200420042)
	held := map[string]int{}
	for range 20000 {
		a, b, c := d.anySum(5, 2, 0, 1, 2), d.anySum(5, 2, 0, 1, 2), d.anySum(5, 2, 0, 1, 199)
		for what, way := range map[string]func(impl.TrmPoly, impl.TrmPoly) (impl.TrmPoly, bool){"sum": impl.PolAdd, "product": impl.PolMul} {
			ab, ok1 := way(a, b)
			bc, ok2 := way(b, c)
			ac, ok3 := way(a, c)
			first, ok4 := way(ab, c)
			second, ok5 := way(a, bc)
			third, ok6 := way(b, ac)
			if all(ok1, ok2, ok3, ok4, ok5, ok6) {
				holdSum(t, what+" of three", first, second)
				holdSum(t, what+" of three", first, third)
				held[what] += len(first.Monos)
			}
		}
	}
	if held["sum"] < 10000 || held["product"] < 1000 {
		t.Fatalf("only so many parts were held: %v", held)
	}
}

// By hand, as a product that is spread could be wrong on both sides.
func TestP24ByHand(t *testing.T) {
	together, ok := impl.PolAdd(sumOf(part(1), part(2, 1)), sumOf(part(65535), part(3, 2)))
	holdTold(t, "two together", together, ok, sumOf(part(2, 1), part(3, 2)), true)
	whole, ok := impl.PolMul(sumOf(part(5), part(1, 1)), together)
	holdTold(t, "a product with two together", whole, ok, sumOf(part(10, 1), part(15, 2), part(2, 1, 1), part(3, 1, 2)), true)
}

func TestP25AWordAsASum(t *testing.T) {
	holdSum(t, "0", impl.PolConst(0), nothing)
	for n := 0; n < impl.WrdMany; n++ {
		p := impl.PolConst(n)
		if n > 0 {
			holdSum(t, "a word", p, sumOf(part(n)))
		}
		got, ok := impl.PolNum(p)
		if got != n || !ok || !impl.PolOk(p) || impl.PolEval(p, nil) != n || impl.PolEval(p, []int{9, 65535}) != n {
			t.Fatalf("PolNum of %v is %d, %v", p, got, ok)
		}
	}
	for _, n := range noWords {
		holdSum(t, "no word", impl.PolConst(n), nothing)
	}
}

func TestP25AnAtomIsNoWord(t *testing.T) {
	for k := range impl.AtmMost {
		p := impl.PolAtom(k)
		holdSum(t, "an atom", p, sumOf(part(1, k)))
		if n, ok := impl.PolNum(p); n != 0 || ok || !impl.PolOk(p) {
			t.Fatalf("PolNum of %v is %d, %v", p, n, ok)
		}
		vals := mixedWords(impl.AtmMost)
		if impl.PolEval(p, vals) != vals[k] || impl.PolEval(p, vals[:k]) != 0 || impl.PolEval(p, vals[:k+1]) != vals[k] {
			t.Fatalf("%v comes to %d", p, impl.PolEval(p, vals))
		}
	}
	for _, k := range noAtoms {
		holdSum(t, "no atom", impl.PolAtom(k), nothing)
	}
}

func TestP25WhichSumIsAWord(t *testing.T) {
	for _, c := range []struct {
		p  impl.TrmPoly
		n  int
		ok bool
	}{
		{nothing, 0, true},
		{sumOf(), 0, true},
		{sumOf(part(1)), 1, true},
		{sumOf(part(65535)), 65535, true},
		{sumOf(impl.TrmMono{Coef: 8, Atoms: []int{}}), 8, true},
		{sumOf(part(1, 0)), 0, false},
		{sumOf(part(5, 0, 0, 0, 0)), 0, false},
		{sumOf(part(7), part(1, 0)), 0, false},
		{sumOf(part(7), part(32768, 3, 4)), 0, false},
		{sumOf(part(1, 3), part(1, 4)), 0, false},
		{sumOf(part(0)), 0, false},
		{sumOf(part(65536)), 0, false},
		{sumOf(part(-1)), 0, false},
		{sumOf(part(3), part(4)), 0, false},
		{sumOf(part(1, 0), part(7)), 0, false},
		{sumOf(part(0, 0)), 0, false},
	} {
		if n, ok := impl.PolNum(c.p); n != c.n || ok != c.ok {
			t.Errorf("PolNum of %v is %d, %v", c.p, n, ok)
		}
	}
	d := dice(2500250025)
	told := 0
	for range 20000 {
		p := d.anySum(2, 1, 0, 9)
		n, ok := impl.PolNum(p)
		if ok != impl.PolUnder(p, 0) {
			t.Fatalf("PolNum of %v tells %v", p, ok)
		}
		if vals := d.anyVals(); ok && impl.PolEval(p, vals) != n || !ok && n != 0 {
			t.Fatalf("PolNum of %v is %d, and it comes to %d", p, n, impl.PolEval(p, vals))
		}
		if ok && n != 0 {
			told++
		}
	}
	if told < 100 {
		t.Fatalf("only %d were words", told)
	}
}

// risingSums stand one behind another, in PolOrder's order; many are not ok.
func risingSums() []impl.TrmPoly {
	return []impl.TrmPoly{
		nothing,
		sumOf(part(math.MinInt)),
		sumOf(part(-1)),
		sumOf(part(0)),
		sumOf(part(1)),
		sumOf(part(2)),
		sumOf(part(65535)),
		sumOf(part(65536)),
		sumOf(part(math.MaxInt)),
		sumOf(part(5, math.MinInt)),
		sumOf(part(5, -1)),
		sumOf(part(9, 0)),
		sumOf(part(-3, 1)),
		sumOf(part(1, 1)),
		sumOf(part(1, 2)),
		sumOf(part(1, 199)),
		sumOf(part(1, 200)),
		sumOf(part(0, math.MaxInt)),
		sumOf(part(4, -7, 3)),
		sumOf(part(1, 0, 0)),
		sumOf(part(1, 0, 5)),
		sumOf(part(1, 1, 0)),
		sumOf(part(1, 9, -9)),
		sumOf(part(1, 0, 0, 0)),
		sumOf(part(1, 0, 0, 0, 0)),
		sumOf(part(1, 0, 0, 0, 0, 0)),
		sumOf(part(1), part(1)),
		sumOf(part(1), part(2)),
		sumOf(part(1), part(1, 7)),
		sumOf(part(1), part(2, 7)),
		sumOf(part(2), part(1)),
		sumOf(part(2), part(1, 3)),
		sumOf(part(3), part(1, 0)),
		sumOf(part(65533), part(1, 0)),
		sumOf(part(1, 0), part(9)),
		sumOf(part(2, 0), part(1, 0)),
		sumOf(part(2, 0), part(1, 1)),
		sumOf(part(1, 1), part(1, 0)),
		sumOf(part(1, 0, 0), part(1)),
		sumOf(part(1), part(1, 0), part(1, 1)),
		sumOf(part(1), part(1, 0), part(1, 2)),
		sumOf(part(1), part(1, 0), part(1, 0, 0)),
		atomsFrom(0, 12),
		atomsFrom(0, 13),
		sumOf(slices.Repeat([]impl.TrmMono{part(7, 8)}, 500)...),
	}
}

func TestP26EachStandsBehindTheLast(t *testing.T) {
	list := risingSums()
	for i, a := range list {
		for j, b := range list {
			want := 0
			if i < j {
				want = -1
			} else if i > j {
				want = 1
			}
			if got := impl.PolOrder(a, b); got != want {
				t.Fatalf("PolOrder of %v and %v is %d, not %d", a, b, got, want)
			}
		}
	}
}

// anySumAtAll is a sum that is mostly not ok, out of so few parts that many are the same.
func (d *dice) anySumAtAll() impl.TrmPoly {
	var out impl.TrmPoly
	for range d.below(4) {
		out.Monos = append(out.Monos, part(d.of(-1, 0, 1, 2, 65536), d.anyList(d.below(3), func() int { return d.of(-1, 0, 1, 200) })...))
	}
	return out
}

// wantedOrder is what the document asks of PolOrder, by a part at a time.
func wantedOrder(a, b impl.TrmPoly) int {
	if len(a.Monos) != len(b.Monos) {
		if len(a.Monos) < len(b.Monos) {
			return -1
		}
		return 1
	}
	for at, x := range a.Monos {
		y := b.Monos[at]
		if order := stands(x.Atoms, y.Atoms); order != 0 {
			return order
		}
		if x.Coef != y.Coef {
			if x.Coef < y.Coef {
				return -1
			}
			return 1
		}
	}
	return 0
}

func TestP26TwoSumsStandInOneWay(t *testing.T) {
	d := dice(2600260026)
	seen := map[int]int{}
	for range 100000 {
		a, b := d.anySumAtAll(), d.anySumAtAll()
		if d.below(3) == 0 {
			a, b = d.sumPair()
		}
		there, back := impl.PolOrder(a, b), impl.PolOrder(b, a)
		if there != -back || (there == 0) != sameSum(a, b) || there != wantedOrder(a, b) {
			t.Fatalf("PolOrder of %v and %v is %d, and %d the other way round", a, b, there, back)
		}
		if impl.PolOrder(a, a) != 0 || impl.PolOrder(a, apartSum(a)) != 0 {
			t.Fatalf("PolOrder of %v and itself is %d", a, impl.PolOrder(a, a))
		}
		seen[there]++
	}
	if seen[-1] < 100 || seen[0] < 100 || seen[1] < 100 {
		t.Fatalf("seen: %v", seen)
	}
}

func TestP26EmptyListsAreTheSame(t *testing.T) {
	if impl.PolOrder(nothing, sumOf([]impl.TrmMono{}...)) != 0 || impl.PolOrder(impl.TrmPoly{Monos: []impl.TrmMono{}}, nothing) != 0 {
		t.Fatal("no parts")
	}
	nilAtoms, noAtoms := sumOf(impl.TrmMono{Coef: 3}), sumOf(impl.TrmMono{Coef: 3, Atoms: []int{}})
	if impl.PolOrder(nilAtoms, noAtoms) != 0 || impl.PolOrder(noAtoms, nilAtoms) != 0 {
		t.Fatal("no atoms")
	}
	both, ok := impl.PolAdd(nilAtoms, noAtoms)
	holdTold(t, "no atoms, twice", both, ok, impl.PolConst(6), true)
}

func TestP27WhatASumComesTo(t *testing.T) {
	p := sumOf(part(7), part(3, 0), part(5, 2), part(65535, 1, 2), part(2, 0, 0, 1, 2))
	for _, c := range []struct {
		vals []int
		want int
	}{
		{nil, 7},
		{[]int{}, 7},
		{[]int{4}, 19},
		{[]int{4, 9}, 19},
		{[]int{4, 9, 0}, 19},
		{[]int{4, 9, 1}, 303},
		{[]int{4, 9, 10}, 2859},
		{[]int{4, 9, 10, 65535, 3}, 2859},
		{[]int{65535, 65535, 1}, 8},
		{[]int{65535, 65535, 65535}, 0},
		{[]int{0, 0, 1}, 12},
		{[]int{256, 1, 1}, 779},
		{[]int{65536}, 0},
		{[]int{4, 9, 10, 65536}, 0},
		{[]int{4, 9, 10, -1}, 0},
		{[]int{-1, 9, 10}, 0},
		{append(make([]int, 200), 65536), 0},
		{append(make([]int, 500), -1), 0},
	} {
		if got := impl.PolEval(p, c.vals); got != c.want {
			t.Errorf("%v comes to %d, not %d, at %v", p, got, c.want, c.vals)
		}
	}
	for _, n := range noWords {
		for _, p := range append(okSums(), p) {
			for _, vals := range [][]int{{n}, {1, 2, n}, append(slices.Repeat([]int{1}, 200), n), append([]int{n}, make([]int, 300)...)} {
				if got := impl.PolEval(p, vals); got != 0 {
					t.Fatalf("%v comes to %d, where %d is no word", p, got, n)
				}
			}
		}
	}
}

func TestP27WhatIsUnder(t *testing.T) {
	for _, c := range []struct {
		p     impl.TrmPoly
		under int // the least number that all atoms are below
	}{
		{sumOf(part(1, 0)), 1},
		{sumOf(part(1, 199)), 200},
		{sumOf(part(9), part(1, 3), part(1, 7)), 8},
		{sumOf(part(9), part(1, 30), part(1, 2, 7)), 31},
		{sumOf(part(1, 1, 2, 3, 4)), 5},
		{atomsFrom(20, 12), 32},
		{sumOf(part(0, 5)), 6},
		{sumOf(part(-1, 8, 7, 6)), 9},
		{sumOf(part(1, 7, 9, 8)), 10},
		{sumOf(part(70000, 300, 2)), 301},
		{sumOf(part(1, -5)), -4},
		{sumOf(part(1, -5, -9), part(1, -7)), -4},
		{sumOf(part(1, math.MinInt)), math.MinInt + 1},
		{sumOf(part(1, math.MaxInt-1)), math.MaxInt},
		{sumOf(part(1, 1, 2, 3, 4, 5, 6), part(1)), 7},
		{atomsFrom(0, 300), 300},
	} {
		for _, n := range []int{c.under, c.under + min(1, math.MaxInt-c.under), max(c.under, 100000), math.MaxInt} {
			if !impl.PolUnder(c.p, n) {
				t.Errorf("all atoms of %v are below %d", c.p, n)
			}
		}
		for _, n := range []int{c.under - 1, min(c.under-1, -100000), math.MinInt} {
			if impl.PolUnder(c.p, n) {
				t.Errorf("not all atoms of %v are below %d", c.p, n)
			}
		}
	}
	for _, n := range append([]int{0, 1, 200}, extremes...) {
		for _, p := range []impl.TrmPoly{nothing, sumOf(), sumOf(part(5)), sumOf(part(0), part(-1), part(70000))} {
			if !impl.PolUnder(p, n) {
				t.Errorf("%v has no atom that is not below %d", p, n)
			}
		}
	}
	if impl.PolUnder(sumOf(part(1, math.MaxInt)), math.MaxInt) {
		t.Error("the greatest number is below none")
	}
}

func TestP27AtomsThatAreNotThere(t *testing.T) {
	d := dice(2700270027)
	under := 0
	for range 20000 {
		p := d.anySum(6, 3, 0, 1, 2, 5, 9, 40, 199)
		n := d.of(0, 1, 2, 3, 6, 10, 41, 199, 200, 201)
		vals := d.anyList(205, d.anyWord)
		got := impl.PolEval(p, vals)
		if got != wantedEval(p, vals) {
			t.Fatalf("%v comes to %d, not %d", p, got, wantedEval(p, vals))
		}
		few := impl.PolEval(p, vals[:n])
		if few != wantedEval(p, vals[:n]) {
			t.Fatalf("%v comes to %d, not %d, with %d words", p, few, wantedEval(p, vals[:n]), n)
		}
		if !impl.PolUnder(p, n) {
			continue
		}
		under++
		others := slices.Concat(vals[:n], d.anyList(d.below(50), d.anyWord))
		if few != got || impl.PolEval(p, others) != got {
			t.Fatalf("%v comes to %d, %d and %d, all of its atoms being below %d", p, got, few, impl.PolEval(p, others), n)
		}
	}
	if under < 1000 {
		t.Fatalf("only %d were under", under)
	}
}

func TestP69SumsThatFit(t *testing.T) {
	for many := range 13 {
		for more := range 13 {
			a, b := atomsFrom(0, many), atomsFrom(50, more)
			got, ok := impl.PolAdd(a, b)
			if ok != (many+more <= 12) || ok && len(got.Monos) != many+more || !ok && len(got.Monos) != 0 {
				t.Fatalf("%d parts and %d: %v, %v", many, more, got, ok)
			}
			for common := range min(many, more) + 1 {
				b := atomsFrom(many-common, more)
				got, ok := impl.PolAdd(a, b)
				if left := many + more - common; ok != (left <= 12) || ok && len(got.Monos) != left {
					t.Fatalf("%d parts and %d, %d of them in common: %v, %v", many, more, common, got, ok)
				}
			}
		}
	}
}

func TestP69ProductsThatFit(t *testing.T) {
	for many := range 13 {
		for more := range 13 {
			got, ok := impl.PolMul(atomsFrom(0, many), atomsFrom(50, more))
			if ok != (many*more <= 12) || ok && len(got.Monos) != many*more || !ok && len(got.Monos) != 0 {
				t.Fatalf("%d parts times %d: %v, %v", many, more, got, ok)
			}
		}
	}
	for deg := range 5 {
		for more := range 5 {
			a, b := sumOf(part(3, slices.Repeat([]int{7}, deg)...)), sumOf(part(5, slices.Repeat([]int{9}, more)...))
			got, ok := impl.PolMul(a, b)
			if ok != (deg+more <= 4) {
				t.Fatalf("%d atoms and %d: %v", deg, more, ok)
			}
			if want := sumOf(part(15, append(slices.Repeat([]int{7}, deg), slices.Repeat([]int{9}, more)...)...)); ok {
				holdSum(t, "atoms that fit", got, want)
			} else {
				holdSum(t, "too many atoms", got, nothing)
			}
		}
	}
}

// degree is the most atoms of a part.
func degree(p impl.TrmPoly) int {
	out := 0
	for _, x := range p.Monos {
		out = max(out, len(x.Atoms))
	}
	return out
}

func TestP69WhatFitsIsTold(t *testing.T) {
	d := dice(690069006)
	fits := [2]int{}
	for range 20000 {
		a, b := d.sumPair()
		if len(a.Monos)+len(b.Monos) <= 12 {
			fits[0]++
			if _, ok := impl.PolAdd(a, b); !ok {
				t.Fatalf("the sum of %v and %v fits", a, b)
			}
		}
		if len(a.Monos)*len(b.Monos) <= 12 && degree(a)+degree(b) <= 4 {
			fits[1]++
			if _, ok := impl.PolMul(a, b); !ok {
				t.Fatalf("the product of %v and %v fits", a, b)
			}
		}
	}
	if fits[0] < 1000 || fits[1] < 1000 {
		t.Fatalf("only so many fit: %v", fits)
	}
}

func TestP81ASumAndItself(t *testing.T) {
	d := dice(810081008)
	sums := okSums()
	for range 10000 {
		a, b := d.sumPair()
		sums = append(sums, a, b)
	}
	for _, p := range sums {
		twice, ok := impl.PolAdd(p, p)
		holdTold(t, "twice", twice, ok, impl.PolScale(p, 2), true)
		thrice, ok := impl.PolAdd(twice, p)
		holdTold(t, "three times", thrice, ok, impl.PolScale(p, 3), true)
		other, ok := impl.PolAdd(p, twice)
		holdTold(t, "three times, the other way round", other, ok, impl.PolScale(p, 3), true)
		want, _ := wantedAdd(p, p)
		holdSum(t, "twice, by hand", twice, want)
	}
	got, ok := impl.PolAdd(atomsFrom(3, 12), atomsFrom(3, 12))
	want := atomsFrom(3, 12)
	for at := range want.Monos {
		want.Monos[at].Coef = 2
	}
	holdTold(t, "twelve parts, twice", got, ok, want, true)
	half := sumOf(part(32768), part(1, 1), part(32768, 1, 1))
	got, ok = impl.PolAdd(half, half)
	holdTold(t, "halves, twice", got, ok, sumOf(part(2, 1)), true)
}

// apartSum is a sum that shares nothing with another one that is the same.
func apartSum(p impl.TrmPoly) impl.TrmPoly {
	out := impl.TrmPoly{Monos: slices.Clone(p.Monos)}
	for at := range out.Monos {
		out.Monos[at].Atoms = slices.Clone(out.Monos[at].Atoms)
	}
	return out
}

// lentSum is a sum whose lists have spare room, which a careless hand would write into.
func lentSum(p impl.TrmPoly) impl.TrmPoly {
	out := impl.TrmPoly{Monos: append(slices.Clone(p.Monos), part(7001, 7002), part(7003))[:len(p.Monos)]}
	for at, x := range out.Monos {
		out.Monos[at].Atoms = append(slices.Clone(x.Atoms), 7004, 7005, 7006)[:len(x.Atoms)]
	}
	return out
}

// atomLists are the lists of atoms of a sum, with their spare room, those in the spare room of its parts too.
func atomLists(p impl.TrmPoly) [][]int {
	var out [][]int
	for _, x := range p.Monos[:cap(p.Monos)] {
		out = append(out, x.Atoms[:cap(x.Atoms)])
	}
	return out
}

// wholeSum is a copy of a sum with all that its lists have room for.
func wholeSum(p impl.TrmPoly) impl.TrmPoly {
	out := apartSum(impl.TrmPoly{Monos: p.Monos[:cap(p.Monos)]})
	for at, list := range atomLists(p) {
		out.Monos[at].Atoms = slices.Clone(list)
	}
	return out
}

// holdApartSum fails if writing into a list of an answer, spare room included, is seen in another one of it, or in sums that were given.
func holdApartSum(t *testing.T, answer impl.TrmPoly, given ...impl.TrmPoly) {
	t.Helper()
	lists := atomLists(answer)
	mine := len(lists)
	for _, p := range given {
		lists = append(lists, atomLists(p)...)
	}
	for which, list := range lists[:mine] {
		before := held(lists)
		for at := range list {
			list[at] = -5 - which
		}
		for other := range lists {
			if other != which && !slices.Equal(lists[other], before[other]) {
				t.Fatalf("lists of atoms %d and %d share memory", which, other)
			}
		}
	}
	var before []impl.TrmPoly
	for _, p := range given {
		before = append(before, wholeSum(p))
	}
	parts := answer.Monos[:cap(answer.Monos)]
	for at := range parts {
		parts[at] = part(-9, -9)
	}
	for at, p := range given {
		if !sameSum(wholeSum(p), before[at]) {
			t.Fatalf("parts of the answer are parts of sum %d that was given", at)
		}
	}
}

func TestP21NothingIsWrittenIntoOrShared(t *testing.T) {
	d := dice(1357913579)
	for range 5000 {
		x, y := d.sumPair()
		a, b := lentSum(x), lentSum(y)
		vals := append(d.anyVals(), 7001)
		vals = vals[:len(vals)-1]
		wholeA, wholeB, wholeVals := wholeSum(a), wholeSum(b), slices.Clone(vals[:cap(vals)])
		sum, _ := impl.PolAdd(a, b)
		product, _ := impl.PolMul(a, b)
		twice, _ := impl.PolAdd(a, a)
		square, _ := impl.PolMul(b, b)
		same, _ := impl.PolAdd(a, nothing)
		once, _ := impl.PolMul(impl.PolConst(1), b)
		answers := []impl.TrmPoly{sum, product, twice, square, same, once, impl.PolScale(a, 1), impl.PolScale(b, 3), impl.PolScale(a, 0)}
		impl.PolOk(a)
		impl.PolNum(b)
		impl.PolOrder(a, b)
		impl.PolUnder(a, 3)
		impl.PolEval(a, vals)
		if !sameSum(wholeSum(a), wholeA) || !sameSum(wholeSum(b), wholeB) || !slices.Equal(vals[:cap(vals)], wholeVals) {
			t.Fatalf("what was given is written into: %v %v", wholeSum(a), wholeSum(b))
		}
		for at, answer := range answers {
			holdApartSum(t, answer, append(slices.Clone(answers[at+1:]), a, b)...)
		}
		again, _ := impl.PolAdd(a, b)
		want, _ := wantedAdd(x, y)
		holdSum(t, "once more, where answers were written into", again, want)
	}
}

// Sums that are not ok are not written into, either.
func TestP26NothingIsWrittenInto(t *testing.T) {
	for _, p := range risingSums() {
		a := lentSum(p)
		whole := wholeSum(a)
		impl.PolOk(a)
		impl.PolNum(a)
		impl.PolOrder(a, nothing)
		impl.PolOrder(a, apartSum(a))
		impl.PolUnder(a, 3)
		impl.PolEval(a, []int{1, 2})
		for _, answer := range []impl.TrmPoly{impl.PolScale(a, 2), impl.PolScale(a, 1)} {
			holdApartSum(t, answer, a)
		}
		for _, way := range []func(impl.TrmPoly, impl.TrmPoly) (impl.TrmPoly, bool){impl.PolAdd, impl.PolMul} {
			answer, _ := way(a, impl.PolAtom(1))
			holdApartSum(t, answer, a)
		}
		if !sameSum(wholeSum(a), whole) {
			t.Fatalf("what was given is written into: %v, then %v", whole, wholeSum(a))
		}
	}
}

func TestP25NothingIsShared(t *testing.T) {
	for _, n := range []int{0, 1, 5, 65535, 65536, -1} {
		first, second := impl.PolConst(n), impl.PolConst(n)
		holdApartSum(t, first, second)
		holdSum(t, "a word once more", impl.PolConst(n), second)
	}
	for _, k := range []int{0, 1, 5, 199, 200, -1} {
		first, second := impl.PolAtom(k), impl.PolAtom(k)
		holdApartSum(t, first, second)
		holdSum(t, "an atom once more", impl.PolAtom(k), second)
	}
}

// Sums whose lists lie over each other are answered as those whose lists do not.
func TestP21ListsOverEachOther(t *testing.T) {
	atoms := []int{3, 3, 4, 5, 7001}
	parts := []impl.TrmMono{{Coef: 2, Atoms: atoms[:0]}, {Coef: 3, Atoms: atoms[:1]}, {Coef: 5, Atoms: atoms[2:3]}, {Coef: 7, Atoms: atoms[:2]}, {Coef: 9, Atoms: atoms[1:3]}, {Coef: 11, Atoms: atoms[:4]}}
	a, b := sumOf(parts[:5]...), sumOf(parts[1:]...)
	a.Monos, b.Monos = parts[:5], parts[1:]
	whole := wholeSum(sumOf(parts...))
	got, ok := impl.PolAdd(a, b)
	want, wantOk := wantedAdd(a, b)
	holdTold(t, "the sum", got, ok, want, wantOk)
	holdSum(t, "the sum, by hand", got, sumOf(part(2), part(6, 3), part(10, 4), part(14, 3, 3), part(18, 3, 4), part(11, 3, 3, 4, 5)))
	product, productOk := impl.PolMul(sumOf(parts[:3]...), impl.TrmPoly{Monos: parts[3:5]})
	wantProduct, wantProductOk := wantedMul(sumOf(parts[:3]...), impl.TrmPoly{Monos: parts[3:5]})
	holdTold(t, "the product", product, productOk, wantProduct, wantProductOk)
	scaled := impl.PolScale(a, 32769)
	if !sameSum(wholeSum(sumOf(parts...)), whole) {
		t.Fatalf("what was given is written into: %v", parts)
	}
	for _, answer := range []impl.TrmPoly{got, product, scaled} {
		holdApartSum(t, answer, a, b)
	}
}
