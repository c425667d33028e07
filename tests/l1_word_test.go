package tests

import (
	"math"
	"math/big"
	"strings"
	"testing"

	"loop.example/latimer/impl"
)

// The signatures that the document gives; another one would not compile here.
var (
	_ func(int) bool           = impl.WrdOk
	_ func(int) int            = impl.WrdWrap
	_ func(int, int, int) int  = impl.WrdDo
	_ func(int, int, int) bool = impl.WrdRel
	_ func(int) string         = impl.WrdText
	_ func(string) (int, bool) = impl.WrdRead
)

var allOps = []int{impl.OpAdd, impl.OpSub, impl.OpMul, impl.OpAnd, impl.OpXor}

var noOps = []int{0, 6, 9, -1, -5, 65537, 1 << 32, 1<<32 + impl.OpAdd, math.MinInt, math.MaxInt, math.MinInt + impl.OpAdd}

var noRels = []int{0, 3, -1, -2, 65537, 1 << 32, 1<<32 + impl.RelSame, math.MinInt, math.MaxInt, math.MinInt + impl.RelLess}

var noWords = []int{-1, -2, -65535, -65536, -65537, 65536, 65537, 131071, 131072, 1 << 32, 1<<32 + 7, -1 << 32, math.MinInt, math.MinInt + 1, math.MaxInt, math.MaxInt - 1}

// edgeWords are both ends, and what stands beside each power of two.
func edgeWords() []int {
	out := []int{0, 12, 10, 300, 21845, 43690, 12345, 54321, 58368}
	for bit := 1; bit <= impl.WrdMany; bit *= 2 {
		for _, n := range []int{bit - 1, bit, bit + 1} {
			if n < impl.WrdMany {
				out = append(out, n)
			}
		}
	}
	return out
}

// mixedWords are words all over, the same ones each time.
func mixedWords(many int) []int {
	out := make([]int, many)
	state := uint32(2463534242)
	for i := range out {
		state ^= state << 13
		state ^= state >> 17
		state ^= state << 5
		out[i] = int(state >> 16)
	}
	return out
}

// wordPairs are all pairs of edges, and many mixed ones.
func wordPairs() [][2]int {
	var out [][2]int
	edges := edgeWords()
	for _, a := range edges {
		for _, b := range edges {
			out = append(out, [2]int{a, b})
		}
	}
	mixed := mixedWords(20000)
	for i := 0; i+1 < len(mixed); i += 2 {
		out = append(out, [2]int{mixed[i], mixed[i+1]})
	}
	return out
}

// bitByBit tells what OpAnd (two) or OpXor (one) leaves, by looking at each bit alone.
func bitByBit(a, b, wanted int) int {
	out := 0
	for value := 1; value < impl.WrdMany; value *= 2 {
		if a/value%2+b/value%2 == wanted {
			out += value
		}
	}
	return out
}

// reckoned is what the document asks of WrdDo, by plain numbers.
func reckoned(op, a, b int) int {
	switch op {
	case impl.OpAdd:
		return (a + b) % impl.WrdMany
	case impl.OpSub:
		return (a + impl.WrdMany - b) % impl.WrdMany
	case impl.OpMul:
		return int(int64(a) * int64(b) % impl.WrdMany)
	case impl.OpAnd:
		return bitByBit(a, b, 2)
	}
	return bitByBit(a, b, 1)
}

func TestWordNumbers(t *testing.T) {
	got := []int{impl.WrdMany, impl.OpAdd, impl.OpSub, impl.OpMul, impl.OpAnd, impl.OpXor, impl.RelSame, impl.RelLess}
	want := []int{65536, 1, 2, 3, 4, 5, 1, 2}
	for i := range want {
		if got[i] != want[i] {
			t.Errorf("constant %d of chapter 1 is %d, not %d", i, got[i], want[i])
		}
	}
}

func TestWhatIsAWord(t *testing.T) {
	for n := 0; n < impl.WrdMany; n++ {
		if !impl.WrdOk(n) {
			t.Fatalf("WrdOk(%d) is false", n)
		}
	}
	for _, n := range noWords {
		if impl.WrdOk(n) {
			t.Errorf("WrdOk(%d) is true", n)
		}
	}
}

// P9, by numbers of any size: an int would wrap where a word is taken from the least one.
func TestP9WrappedIsAWordAndTheSame(t *testing.T) {
	numbers := append(edgeWords(), noWords...)
	for _, n := range mixedWords(500) {
		numbers = append(numbers, n-impl.WrdMany, n+impl.WrdMany, n*n, -n*n, n*1000003, -n*1000003, math.MinInt+n, math.MaxInt-n)
	}
	for _, n := range numbers {
		w := impl.WrdWrap(n)
		if w < 0 || w >= impl.WrdMany || !impl.WrdOk(w) {
			t.Fatalf("WrdWrap(%d) is %d, no word", n, w)
		}
		apart := new(big.Int).Sub(big.NewInt(int64(n)), big.NewInt(int64(w)))
		if apart.Mod(apart, big.NewInt(impl.WrdMany)).Sign() != 0 {
			t.Fatalf("WrdWrap(%d) is %d, which is not so many times WrdMany away", n, w)
		}
	}
}

func TestP9AWordIsWrappedToItself(t *testing.T) {
	for n := 0; n < impl.WrdMany; n++ {
		if impl.WrdWrap(n) != n {
			t.Fatalf("WrdWrap(%d) is %d", n, impl.WrdWrap(n))
		}
	}
}

func TestP9Edges(t *testing.T) {
	for _, c := range [][2]int{{0, 0}, {65535, 65535}, {65536, 0}, {65537, 1}, {131071, 65535}, {-1, 65535}, {-65535, 1}, {-65536, 0}, {-65537, 65535}, {math.MinInt, 0}, {math.MinInt + 1, 1}, {math.MaxInt, 65535}, {math.MaxInt - 1, 65534}} {
		if got := impl.WrdWrap(c[0]); got != c[1] {
			t.Errorf("WrdWrap(%d) is %d, not %d", c[0], got, c[1])
		}
	}
}

func TestP10WhatIsReckoned(t *testing.T) {
	for _, op := range allOps {
		for _, p := range wordPairs() {
			if got, want := impl.WrdDo(op, p[0], p[1]), reckoned(op, p[0], p[1]); got != want {
				t.Fatalf("WrdDo(%d, %d, %d) is %d, not %d", op, p[0], p[1], got, want)
			}
		}
	}
}

func TestP10Edges(t *testing.T) {
	for _, c := range [][4]int{
		{impl.OpAdd, 65535, 1, 0}, {impl.OpAdd, 65535, 65535, 65534}, {impl.OpAdd, 0, 0, 0}, {impl.OpAdd, 32768, 32768, 0},
		{impl.OpSub, 0, 1, 65535}, {impl.OpSub, 0, 65535, 1}, {impl.OpSub, 65535, 65535, 0}, {impl.OpSub, 5, 2, 3},
		{impl.OpMul, 65535, 65535, 1}, {impl.OpMul, 256, 256, 0}, {impl.OpMul, 65535, 2, 65534}, {impl.OpMul, 65535, 0, 0},
		{impl.OpAnd, 65535, 43690, 43690}, {impl.OpAnd, 21845, 43690, 0}, {impl.OpAnd, 65535, 65535, 65535},
		{impl.OpXor, 65535, 43690, 21845}, {impl.OpXor, 21845, 43690, 65535}, {impl.OpXor, 65535, 65535, 0},
	} {
		if got := impl.WrdDo(c[0], c[1], c[2]); got != c[3] {
			t.Errorf("WrdDo(%d, %d, %d) is %d, not %d", c[0], c[1], c[2], got, c[3])
		}
	}
}

func TestP10SumsDifferencesAndBits(t *testing.T) {
	for _, p := range wordPairs() {
		a, b := p[0], p[1]
		if impl.WrdDo(impl.OpSub, impl.WrdDo(impl.OpAdd, a, b), b) != a || impl.WrdDo(impl.OpAdd, impl.WrdDo(impl.OpSub, a, b), b) != a {
			t.Fatalf("the sum and the difference of %d and %d do not undo each other", a, b)
		}
		one := impl.WrdDo(impl.OpXor, a, b)
		if impl.WrdDo(impl.OpXor, one, b) != a {
			t.Fatalf("%d, taken twice from %d by OpXor, is not gone", b, a)
		}
		both := impl.WrdDo(impl.OpAnd, a, b)
		if impl.WrdDo(impl.OpAdd, impl.WrdDo(impl.OpAdd, both, both), one) != impl.WrdDo(impl.OpAdd, a, b) {
			t.Fatalf("OpAnd, twice, with OpXor of %d and %d is not their sum", a, b)
		}
	}
}

func TestP10AProductIsSpread(t *testing.T) {
	for _, p := range wordPairs() {
		for _, c := range []int{0, 1, 3, 255, 32768, 43690, 65535} {
			together := impl.WrdDo(impl.OpMul, c, impl.WrdDo(impl.OpAdd, p[0], p[1]))
			spread := impl.WrdDo(impl.OpAdd, impl.WrdDo(impl.OpMul, c, p[0]), impl.WrdDo(impl.OpMul, c, p[1]))
			if together != spread {
				t.Fatalf("%d times %d and %d is %d, spread %d", c, p[0], p[1], together, spread)
			}
		}
	}
}

func TestP10OfNoWordItIsNought(t *testing.T) {
	for _, op := range allOps {
		for _, n := range noWords {
			for _, w := range append(edgeWords(), noWords...) {
				if impl.WrdDo(op, n, w) != 0 || impl.WrdDo(op, w, n) != 0 {
					t.Fatalf("WrdDo(%d) of %d, no word, and %d is not 0", op, n, w)
				}
			}
		}
	}
}

func TestP10OfNoOpItIsNought(t *testing.T) {
	for _, op := range noOps {
		for _, n := range append(edgeWords(), noWords...) {
			if impl.WrdDo(op, n, 1) != 0 || impl.WrdDo(op, 65535, n) != 0 {
				t.Fatalf("WrdDo(%d), no Op, of %d is not 0", op, n)
			}
		}
	}
}

func TestP11OneIsLessOrBothAreTheSame(t *testing.T) {
	for _, p := range wordPairs() {
		a, b := p[0], p[1]
		if impl.WrdRel(impl.RelSame, a, b) != (a == b) || impl.WrdRel(impl.RelSame, b, a) != (a == b) || !impl.WrdRel(impl.RelSame, a, a) {
			t.Fatalf("RelSame of %d and %d", a, b)
		}
		if impl.WrdRel(impl.RelLess, a, b) != (a < b) || impl.WrdRel(impl.RelLess, b, a) != (b < a) || impl.WrdRel(impl.RelLess, a, a) {
			t.Fatalf("RelLess of %d and %d", a, b)
		}
		held := 0
		for _, holds := range []bool{impl.WrdRel(impl.RelSame, a, b), impl.WrdRel(impl.RelLess, a, b), impl.WrdRel(impl.RelLess, b, a)} {
			if holds {
				held++
			}
		}
		if held != 1 {
			t.Fatalf("of %d and %d %d ways hold, not one", a, b, held)
		}
	}
}

func TestP11OfNoWordNothingHolds(t *testing.T) {
	for _, rel := range []int{impl.RelSame, impl.RelLess} {
		for _, n := range noWords {
			for _, w := range append(edgeWords(), noWords...) {
				if impl.WrdRel(rel, n, w) || impl.WrdRel(rel, w, n) {
					t.Fatalf("WrdRel(%d) of %d, no word, and %d is true", rel, n, w)
				}
			}
		}
	}
}

func TestP11OfNoRelNothingHolds(t *testing.T) {
	for _, rel := range noRels {
		for _, n := range append(edgeWords(), noWords...) {
			if impl.WrdRel(rel, n, n) || impl.WrdRel(rel, 0, n) || impl.WrdRel(rel, n, 0) {
				t.Fatalf("WrdRel(%d), no Rel, of %d is true", rel, n)
			}
		}
	}
}

// decimals writes a word digit by digit, ahead of any library.
func decimals(n int) string {
	out := string(rune('0' + n%10))
	for n /= 10; n > 0; n /= 10 {
		out = string(rune('0'+n%10)) + out
	}
	return out
}

func TestP12TextIsReadAsTheWord(t *testing.T) {
	for n := 0; n < impl.WrdMany; n++ {
		s := impl.WrdText(n)
		if s != decimals(n) {
			t.Fatalf("WrdText(%d) is %q", n, s)
		}
		if got, ok := impl.WrdRead(s); !ok || got != n {
			t.Fatalf("WrdRead(%q) is %d, %v", s, got, ok)
		}
	}
}

func TestP12OfNoWordTheTextIsEmpty(t *testing.T) {
	for _, n := range noWords {
		if s := impl.WrdText(n); s != "" {
			t.Errorf("WrdText(%d) is %q", n, s)
		}
	}
}

func TestP12WhatIsNoWordsText(t *testing.T) {
	texts := []string{
		"", "00", "000", "007", "01", "00000", "065535", "0000000001",
		"+0", "+1", "-0", "-1", "-65535", "+65535", "--1", "1-", "+", "-",
		" ", " 1", "1 ", "1 2", "\t1", "1\n", "1\r", "\u00a01", "1\u00a0",
		"65536", "65537", "70000", "99999", "100000", "131072", "655350", "4294967297", "18446744073709551617", "9223372036854775808",
		"a", "0x1", "0b1", "0o7", "1e3", "1.0", "1.", ".1", "1_0", "1,000", "x12", "12x", "NaN", "Inf",
		"\x00", "1\x00", "\x001", "\xff", "1\xff", "\u0661", "\u00b2", "\uff11",
		strings.Repeat("0", 100000), strings.Repeat("9", 100000), strings.Repeat("1", 1<<20), strings.Repeat("0", 1<<20) + "1", strings.Repeat(" ", 100000) + "1", "1" + strings.Repeat(" ", 100000),
	}
	for _, s := range texts {
		if n, ok := impl.WrdRead(s); ok || n != 0 {
			t.Errorf("WrdRead of %.20q, of %d bytes, is %d, %v", s, len(s), n, ok)
		}
	}
}

// All texts of a few bytes: what is read has that text, and all else is 0 and false.
func TestP12WhatIsReadHasThatText(t *testing.T) {
	letters := "0156789+-_ .xe\x00\xff"
	texts := []string{""}
	for from, size := 0, 1; size <= 4; size++ {
		upTo := len(texts)
		for _, s := range texts[from:upTo] {
			for i := range len(letters) {
				texts = append(texts, s+letters[i:i+1])
			}
		}
		from = upTo
	}
	for _, s := range texts {
		n, ok := impl.WrdRead(s)
		if ok && (impl.WrdText(n) != s || decimals(n) != s) || !ok && n != 0 {
			t.Fatalf("WrdRead(%q) is %d, %v", s, n, ok)
		}
	}
}

func TestP12PastTheEnd(t *testing.T) {
	for n := impl.WrdMany; n < 2*impl.WrdMany; n++ {
		if got, ok := impl.WrdRead(decimals(n)); ok || got != 0 {
			t.Fatalf("WrdRead of %d is %d, %v", n, got, ok)
		}
	}
}

// P79: both together are not wrapped here, as 65535 and 1 would come to 0.
func TestP79BitsAreWithin(t *testing.T) {
	for _, p := range wordPairs() {
		a, b := p[0], p[1]
		if both := impl.WrdDo(impl.OpAnd, a, b); both > a || both > b {
			t.Fatalf("OpAnd of %d and %d is %d", a, b, both)
		}
		if one := impl.WrdDo(impl.OpXor, a, b); one > a+b {
			t.Fatalf("OpXor of %d and %d is %d", a, b, one)
		}
	}
}

func TestP79TheSameBothWays(t *testing.T) {
	for _, op := range []int{impl.OpAnd, impl.OpXor, impl.OpMul, impl.OpAdd} {
		for _, p := range wordPairs() {
			if there, back := impl.WrdDo(op, p[0], p[1]), impl.WrdDo(op, p[1], p[0]); there != back {
				t.Fatalf("WrdDo(%d) of %d and %d is %d, and %d the other way round", op, p[0], p[1], there, back)
			}
		}
	}
}

// All pairs of small words, and the same in the higher byte, where carries are lost.
func TestP79AllBytes(t *testing.T) {
	for a := range 256 {
		for b := range 256 {
			for _, scale := range []int{1, 256} {
				x, y := a*scale, b*scale
				both, one := impl.WrdDo(impl.OpAnd, x, y), impl.WrdDo(impl.OpXor, x, y)
				if both != bitByBit(x, y, 2) || one != bitByBit(x, y, 1) || both > x || both > y || one > x+y {
					t.Fatalf("bits of %d and %d: %d and %d", x, y, both, one)
				}
			}
		}
	}
}
