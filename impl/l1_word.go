package impl

import "strconv"

// WrdMany is how many words there are.
const WrdMany = 65536

// What is reckoned with two words.
const (
	OpAdd = 1
	OpSub = 2
	OpMul = 3
	OpAnd = 4
	OpXor = 5
)

// How two words stand.
const (
	RelSame = 1
	RelLess = 2
)

// wrdLongest is the size of the longest text of a word, that of WrdMany-1.
const wrdLongest = 5

// word has as many values as there are words, so that what is reckoned with it wraps by itself.
type word uint16

func (a word) add(b word) word { return a + b }
func (a word) sub(b word) word { return a - b }
func (a word) mul(b word) word { return a * b }
func (a word) and(b word) word { return a & b }
func (a word) xor(b word) word { return a ^ b }

func (a word) same(b word) bool { return a == b }
func (a word) less(b word) bool { return a < b }

func (a word) text() string { return strconv.Itoa(int(a)) }

// isOp says whether something is reckoned so.
func isOp(op int) bool { return OpAdd <= op && op <= OpXor }

// WrdOk says whether a number is a word.
func WrdOk(n int) bool {
	return 0 <= n && n < WrdMany
}

// WrdWrap is the word that a number is, but for so many times WrdMany.
func WrdWrap(n int) int {
	return int(word(n))
}

// WrdDo reckons with two words; 0, if one is none, or nothing is reckoned so.
func WrdDo(op int, a int, b int) int {
	if !WrdOk(a) || !WrdOk(b) || !isOp(op) {
		return 0
	}
	ways := []func(word, word) word{word.add, word.sub, word.mul, word.and, word.xor}
	return int(ways[op-OpAdd](word(a), word(b)))
}

// WrdRel says whether two words stand so.
func WrdRel(rel int, a int, b int) bool {
	if !WrdOk(a) || !WrdOk(b) {
		return false
	}
	switch rel {
	case RelSame:
		return word(a).same(word(b))
	case RelLess:
		return word(a).less(word(b))
	}
	return false
}

// WrdText writes a word.
func WrdText(n int) string {
	if !WrdOk(n) {
		return ""
	}
	return word(n).text()
}

// WrdRead reads a word.
func WrdRead(s string) (int, bool) {
	// A long text is refused by its size, as reading it would take as long as it is.
	if len(s) > wrdLongest {
		return 0, false
	}
	n, err := strconv.Atoi(s)
	// Atoi also takes signs and needless noughts, which no word's text has.
	if err != nil || WrdText(n) != s {
		return 0, false
	}
	return n, true
}
