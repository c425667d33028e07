package tests

import (
	"bytes"
	"math"
	"runtime"
	"slices"
	"testing"

	"loop.example/latimer/impl"
)

// The signatures that the document gives; another one would not compile here.
var (
	_ func(impl.IrBlock) []byte         = impl.IrBytes
	_ func([]byte) (impl.IrBlock, bool) = impl.IrRead
)

// How many bytes a piece of code has but for its operations, and how many each of these has.
const (
	headBytes = 7
	opBytes   = 6
)

// wantedBytes is what the document asks of IrBytes.
func wantedBytes(b impl.IrBlock) []byte {
	if !wantedCode(b) {
		return nil
	}
	numbers := []int{b.Pc, b.Len, b.End, b.X, b.Y, b.K / 256, b.K % 256}
	for _, o := range b.Ops {
		numbers = append(numbers, o.Kind, o.X, o.Y, o.K/256, o.K%256, o.At)
	}
	var out []byte
	for _, n := range numbers {
		out = append(out, uint8(n))
	}
	return out
}

// saidBy is the piece of code, ok or not, that bytes say which are a head and whole operations.
func saidBy(w []byte) impl.IrBlock {
	n := func(place int) int { return int(w[place]) }
	b := impl.IrBlock{Pc: n(0), Len: n(1), End: n(2), X: n(3), Y: n(4), K: 256*n(5) + n(6)}
	for at := headBytes; at < len(w); at += opBytes {
		b.Ops = append(b.Ops, impl.IrOp{Kind: n(at), X: n(at + 1), Y: n(at + 2), K: 256*n(at+3) + n(at+4), At: n(at + 5)})
	}
	return b
}

// wantedRead is what the document asks of IrRead.
func wantedRead(w []byte) (impl.IrBlock, bool) {
	if len(w) < headBytes || (len(w)-headBytes)%opBytes != 0 || !wantedCode(saidBy(w)) {
		return impl.IrBlock{}, false
	}
	return saidBy(w), true
}

// holdWritten fails unless a piece of code that is ok has these bytes, and is read from them.
func holdWritten(t *testing.T, what string, b impl.IrBlock, want ...byte) {
	t.Helper()
	if got := impl.IrBytes(b); !bytes.Equal(got, want) {
		t.Fatalf("%s: %+v has the bytes\n%v, not\n%v", what, b, got, want)
	}
	got, ok := impl.IrRead(want)
	if !ok || !sameBlock(got, b) || !impl.IrOk(got) {
		t.Fatalf("%s: of the bytes %v is read\n%+v, %v, not\n%+v", what, want, got, ok, b)
	}
	holdIrSame(t, what, b, got, true)
}

// holdUnread fails unless nothing is read from bytes, and nothing told beside false.
func holdUnread(t *testing.T, what string, w []byte) {
	t.Helper()
	if got, ok := impl.IrRead(w); ok || !sameBlock(got, impl.IrBlock{}) {
		t.Fatalf("%s: of the %d bytes %v is read\n%+v, %v", what, len(w), w[:min(len(w), 400)], got, ok)
	}
}

// holdRead fails unless what is read from bytes is as wanted, is ok, and has all these bytes; it is whether something is read.
func holdRead(t *testing.T, what string, w []byte) bool {
	t.Helper()
	want, wantOk := wantedRead(w)
	if !wantOk {
		holdUnread(t, what, w)
		return false
	}
	holdWritten(t, what, want, w...)
	return true
}

// codeOfAllBytes is a piece of code with operations that have something of all that there is, and its bytes by hand.
func codeOfAllBytes() (impl.IrBlock, []byte) {
	b := impl.IrBlock{Pc: 50, Len: 7, End: impl.EndLess, X: 3, Y: 5, K: 0x1234, Ops: opsOf(
		constant(0xfedc), gets(3), reckons(impl.OpXor, 1, 0), loads(2, 6), stores(3, 1, 5), letsIn(4), letsOut(5, 3), sets(2, 3),
	)}
	return b, []byte{
		50, 7, 4, 3, 5, 0x12, 0x34,
		1, 0, 0, 0xfe, 0xdc, 0,
		2, 0, 0, 0, 3, 0,
		3, 1, 0, 0, 5, 0,
		4, 2, 0, 0, 0, 6,
		5, 3, 1, 0, 0, 5,
		6, 0, 0, 0, 0, 4,
		7, 5, 0, 0, 0, 3,
		8, 3, 0, 0, 2, 0,
	}
}

func TestP47ByHand(t *testing.T) {
	b, w := codeOfAllBytes()
	holdWritten(t, "all that there is", b, w...)
	holdWritten(t, "no operations", codeOf(), 5, 3, 1, 0, 0, 0, 20)
	holdWritten(t, "an empty list of them", impl.IrBlock{Len: 1, Ops: []impl.IrOp{}, End: impl.EndGo}, 0, 1, 1, 0, 0, 0, 0)
	holdWritten(t, "the last place", impl.IrBlock{Pc: 63, Len: 1, End: impl.EndGo, K: 65535}, 63, 1, 1, 0, 0, 255, 255)
	holdWritten(t, "as long as there may be", impl.IrBlock{Pc: 56, Len: 8, End: impl.EndGo, Ops: opsOf(letsIn(7))}, 56, 8, 1, 0, 0, 0, 0, 6, 0, 0, 0, 0, 7)
	holdWritten(t, "at a word", on(impl.EndWord, 1, 0, 0, constant(1), gets(0)), 5, 3, 2, 1, 0, 0, 0, 1, 0, 0, 0, 1, 0, 2, 0, 0, 0, 0, 0)
	holdWritten(t, "if two are the same", on(impl.EndSame, 1, 0, 256, constant(1), gets(0)), 5, 3, 3, 1, 0, 1, 0, 1, 0, 0, 0, 1, 0, 2, 0, 0, 0, 0, 0)
	holdWritten(t, "instructions", impl.BlkLower(2, insOf("set d 200")), 2, 1, 1, 0, 0, 0, 3, 1, 0, 0, 0, 200, 0, 8, 0, 0, 0, 3, 0)
	holdWritten(t, "our own hand", impl.OptAll(impl.BlkLower(0, insOf("set a 255", "set b 3", "add a a b", "out a", "go a"))),
		0, 5, 1, 0, 0, 1, 2, 1, 0, 0, 0, 3, 0, 8, 0, 0, 0, 1, 0, 1, 0, 0, 1, 2, 0, 8, 2, 0, 0, 0, 0, 7, 2, 0, 0, 0, 3)
}

// Both bytes of K, the higher first, in the head and in an operation, over all words.
func TestP47BothBytesOfAWord(t *testing.T) {
	for _, c := range []struct {
		k         int
		high, low byte
	}{{0, 0, 0}, {1, 0, 1}, {127, 0, 127}, {128, 0, 128}, {255, 0, 255}, {256, 1, 0}, {257, 1, 1}, {258, 1, 2}, {513, 2, 1}, {32767, 127, 255}, {32768, 128, 0}, {65280, 255, 0}, {65534, 255, 254}, {65535, 255, 255}} {
		holdWritten(t, "K of the head", ended(codeOf(), impl.EndGo, 0, 0, c.k), 5, 3, 1, 0, 0, c.high, c.low)
		holdWritten(t, "K of an operation", codeOf(constant(c.k)), 5, 3, 1, 0, 0, 0, 20, 1, 0, 0, c.high, c.low, 0)
	}
	for k := range impl.WrdMany {
		b := impl.IrBlock{Pc: 1, Len: 2, End: impl.EndGo, K: k, Ops: opsOf(constant(65535 - k))}
		want := []byte{1, 2, 1, 0, 0, byte(k / 256), byte(k % 256), 1, 0, 0, byte(255 - k/256), byte(255 - k%256), 0}
		if got := impl.IrBytes(b); !bytes.Equal(got, want) {
			t.Fatalf("%d: %v, not %v", k, got, want)
		}
		if got, ok := impl.IrRead(want); !ok || !sameBlock(got, b) {
			t.Fatalf("%d: %+v, %v is read", k, got, ok)
		}
	}
}

// Each field alone, at each number that it may have, in code of one thing each; a field at another one's place would be seen.
func TestP47EachFieldAtItsPlace(t *testing.T) {
	base := impl.IrBlock{Pc: 9, Len: 8, End: impl.EndSame, X: 0, Y: 0, K: 0, Ops: opsOf(constant(1), gets(1), letsIn(1))}
	w := wantedBytes(base)
	for pc := range 57 {
		holdWritten(t, "Pc", turnedCode(base, func(b *impl.IrBlock) { b.Pc = pc }), put(w, 0, byte(pc))...)
	}
	for long := 2; long <= 8; long++ {
		holdWritten(t, "Len", turnedCode(base, func(b *impl.IrBlock) { b.Len = long }), put(w, 1, byte(long))...)
	}
	for place := range 3 {
		holdWritten(t, "X", turnedCode(base, func(b *impl.IrBlock) { b.X = place }), put(w, 3, byte(place))...)
		holdWritten(t, "Y", turnedCode(base, func(b *impl.IrBlock) { b.Y = place }), put(w, 4, byte(place))...)
	}
	holdWritten(t, "End", turnedCode(base, func(b *impl.IrBlock) { b.End = impl.EndLess }), put(w, 2, 4)...)
	behind := func(o impl.IrOp, more ...byte) {
		t.Helper()
		holdWritten(t, "an operation", turnedCode(base, func(b *impl.IrBlock) { b.Ops = append(b.Ops, o) }), slices.Concat(w, more)...)
	}
	for x := range 3 {
		behind(sets(3, x), 8, byte(x), 0, 0, 3, 0)
		for y := range 3 {
			for op := impl.OpAdd; op <= impl.OpXor; op++ {
				behind(reckons(op, x, y), 3, byte(x), byte(y), 0, byte(op), 0)
			}
			for at := range 8 {
				behind(stores(x, y, at), 5, byte(x), byte(y), 0, 0, byte(at))
				behind(loads(x, at), 4, byte(x), 0, 0, 0, byte(at))
				behind(letsOut(x, at), 7, byte(x), 0, 0, 0, byte(at))
				behind(letsIn(at), 6, 0, 0, 0, 0, byte(at))
			}
		}
	}
	for register := range 4 {
		behind(gets(register), 2, 0, 0, 0, byte(register), 0)
		behind(sets(register, 2), 8, 2, 0, 0, byte(register), 0)
	}
}

func TestP47HowMany(t *testing.T) {
	for many := range 49 {
		b := codeOf(manyOps(many)...)
		w := impl.IrBytes(b)
		if len(w) != headBytes+opBytes*many {
			t.Fatalf("%d operations have %d bytes", many, len(w))
		}
		holdWritten(t, "many operations", b, wantedBytes(b)...)
	}
	// The last one is of the one ahead of it, and End of both: no place is greater.
	most := on(impl.EndLess, 47, 46, 65535, append(slices.Repeat(opsOf(constant(65535)), 47), reckons(impl.OpXor, 46, 45))...)
	w := impl.IrBytes(most)
	holdWritten(t, "as many as there may be", most, wantedBytes(most)...)
	if len(w) != 295 || w[3] != 47 || w[4] != 46 || !bytes.Equal(w[289:], []byte{3, 46, 45, 0, 5, 0}) {
		t.Fatalf("as many as there may be: %v", w)
	}
}

// Code that is not ok has no bytes, not even where its numbers' lowest ones are those of code that is.
func TestP47OfCodeThatIsNotOk(t *testing.T) {
	none := func(what string, b impl.IrBlock) {
		t.Helper()
		if got := impl.IrBytes(b); len(got) != 0 || impl.IrOk(b) {
			t.Fatalf("%s: %+v has the bytes %v", what, b, got)
		}
	}
	for what, b := range badCodes() {
		none(what, b)
	}
	for _, many := range []int{49, 50, 96, 304, 100000} {
		none("too many", codeOf(slices.Repeat(opsOf(constant(1)), many)...))
	}
	all, _ := codeOfAllBytes()
	for _, b := range []impl.IrBlock{all, codeOf(), on(impl.EndWord, 0, 0, 0, gets(1)), codeOf(manyOps(48)...)} {
		for _, off := range []int{-256, 256, 512, 4096, -65536, 65536, 1 << 24, 1 << 32, -1 << 32, math.MinInt} {
			for field := range 6 {
				none("a field of the head", turnedCode(b, func(b *impl.IrBlock) {
					*[]*int{&b.Pc, &b.Len, &b.End, &b.X, &b.Y, &b.K}[field] += wide(field == 5, off)
				}))
			}
			for place := range b.Ops {
				for field := range 5 {
					none("a field of an operation", turnedCode(b, func(b *impl.IrBlock) {
						o := &b.Ops[place]
						*[]*int{&o.Kind, &o.X, &o.Y, &o.K, &o.At}[field] += wide(field == 3, off)
					}))
				}
			}
		}
	}
}

// wide is how far off a field is put that has the same bytes then, one, or two if it is a word.
func wide(word bool, off int) int {
	if word && off < 65536 && off > -65536 {
		return off * 65536
	}
	return off
}

func TestP47TooFewOrTooMany(t *testing.T) {
	holdUnread(t, "no bytes", nil)
	holdUnread(t, "no bytes", []byte{})
	_, all := codeOfAllBytes()
	for _, w := range [][]byte{all, wantedBytes(codeOf()), wantedBytes(codeOf(manyOps(48)...)), wantedBytes(codeOf(letsIn(2), letsIn(1)))} {
		for many := range headBytes {
			holdUnread(t, "fewer than a head", w[:many])
		}
		holdUnread(t, "one byte fewer", w[:len(w)-1])
		holdUnread(t, "all but the first", w[1:])
		for at := headBytes; at < len(w); at++ {
			if (at-headBytes)%opBytes != 0 {
				holdUnread(t, "a part of an operation", w[:at])
			}
			// What is left is whole, but End may be of what is not.
			holdRead(t, "its beginning", w[:at])
		}
		for _, more := range []byte{0, 1, 6, 255} {
			for many := 1; many < opBytes; many++ {
				holdUnread(t, "more behind", slices.Concat(w, bytes.Repeat([]byte{more}, many)))
			}
			holdUnread(t, "one more ahead", slices.Concat([]byte{more}, w))
		}
		holdUnread(t, "an empty operation more", slices.Concat(w, make([]byte, opBytes)))
		holdUnread(t, "twice", slices.Concat(w, w))
	}
	head := wantedBytes(codeOf())
	holdWritten(t, "a head alone", codeOf(), head...)
	holdUnread(t, "a head alone that goes on at a word", []byte{5, 3, 2, 0, 0, 0, 0})
	for many := range 49 {
		holdWritten(t, "so many", codeOf(slices.Repeat(opsOf(letsIn(1)), many)...), slices.Concat(head, bytes.Repeat([]byte{6, 0, 0, 0, 0, 1}, many))...)
	}
	for _, many := range []int{49, 50, 96, 97, 255, 256, 257, 304, 305, 1000, 65536 + 1, 400000} {
		for _, o := range [][]byte{{6, 0, 0, 0, 0, 1}, {1, 0, 0, 0, 0, 0}, {0, 0, 0, 0, 0, 0}} {
			holdUnread(t, "too many", slices.Concat(head, bytes.Repeat(o, many)))
			holdUnread(t, "too many, and a part", slices.Concat(head, bytes.Repeat(o, many), o[:3]))
		}
	}
	full := wantedBytes(codeOf(manyOps(48)...))
	holdUnread(t, "one operation more than there may be", slices.Concat(full, []byte{1, 0, 0, 0, 0, 0}))
	for many := range opBytes - 1 {
		holdUnread(t, "a part of one more than there may be", slices.Concat(full, full[headBytes:headBytes+many+1]))
	}
}

func TestP47BytesThatSayWhatIsNotOk(t *testing.T) {
	_, w := codeOfAllBytes()
	const one, get, do, load, store, in, out, set = headBytes, headBytes + 6, headBytes + 12, headBytes + 18, headBytes + 24, headBytes + 30, headBytes + 36, headBytes + 42
	for _, c := range []struct {
		what   string
		place  int
		values []byte
	}{
		{"Pc too great", 0, []byte{58, 63, 64, 128, 255}},
		{"Len", 1, []byte{0, 9, 128, 255}},
		{"Len that At is past", 1, []byte{1, 2, 6}},
		{"End", 2, []byte{0, 5, 128, 255}},
		{"an End without Y and K", 2, []byte{1, 2}},
		{"X of End that makes no word", 3, []byte{4, 6, 7}},
		{"X of End past all", 3, []byte{8, 9, 48, 255}},
		{"Y of End that makes no word", 4, []byte{4, 6, 7}},
		{"Y of End past all", 4, []byte{8, 9, 48, 255}},
		{"a Kind", one, []byte{0, 9, 128, 255}},
		{"a Kind with a register", one, []byte{2, 8}},
		{"a Kind without K", set, []byte{4, 5, 6, 7}},
		{"X of a word", one + 1, []byte{1, 255}},
		{"Y of a word", one + 2, []byte{1, 255}},
		{"At of a word", one + 5, []byte{1, 6, 255}},
		{"X of what is got", get + 1, []byte{1, 255}},
		{"Y of what is got", get + 2, []byte{1, 255}},
		{"a register too great", get + 4, []byte{4, 5, 255}},
		{"a register with a higher byte", get + 3, []byte{1, 128, 255}},
		{"At of what is got", get + 5, []byte{1, 255}},
		{"X of what is reckoned, itself and behind", do + 1, []byte{2, 3, 5, 8, 255}},
		{"Y of what is reckoned, itself and behind", do + 2, []byte{2, 3, 5, 8, 255}},
		{"an Op", do + 4, []byte{0, 6, 255}},
		{"an Op with a higher byte", do + 3, []byte{1, 255}},
		{"At of what is reckoned", do + 5, []byte{1, 255}},
		{"X of a load, itself and behind", load + 1, []byte{3, 4, 5, 255}},
		{"Y of a load", load + 2, []byte{1, 2, 255}},
		{"K of a load", load + 4, []byte{1, 255}},
		{"K of a load, its higher byte", load + 3, []byte{1, 255}},
		{"At of a load", load + 5, []byte{7, 8, 255}},
		{"X of a store, itself and behind", store + 1, []byte{4, 5, 255}},
		{"Y of a store, itself and behind", store + 2, []byte{4, 5, 255}},
		{"K of a store", store + 4, []byte{1, 255}},
		{"K of a store, its higher byte", store + 3, []byte{1, 255}},
		{"At of a store", store + 5, []byte{7, 8, 255}},
		{"X of what comes in", in + 1, []byte{1, 255}},
		{"Y of what comes in", in + 2, []byte{1, 255}},
		{"K of what comes in", in + 4, []byte{1, 255}},
		{"K of what comes in, its higher byte", in + 3, []byte{1, 255}},
		{"At of what comes in", in + 5, []byte{7, 8, 255}},
		{"X of what goes out, that makes no word, itself and behind", out + 1, []byte{4, 6, 7, 255}},
		{"Y of what goes out", out + 2, []byte{1, 255}},
		{"K of what goes out", out + 4, []byte{1, 255}},
		{"K of what goes out, its higher byte", out + 3, []byte{1, 255}},
		{"At of what goes out", out + 5, []byte{7, 8, 255}},
		{"X of what is set, that makes no word, itself and behind", set + 1, []byte{4, 6, 7, 8, 255}},
		{"Y of what is set", set + 2, []byte{1, 255}},
		{"no register to set", set + 4, []byte{4, 255}},
		{"a register to set with a higher byte", set + 3, []byte{1, 255}},
		{"At of what is set", set + 5, []byte{1, 6, 255}},
	} {
		for _, value := range c.values {
			holdUnread(t, c.what, put(w, c.place, value))
		}
	}
	for _, end := range []byte{1, 2} {
		for place := 3; place <= 6; place++ {
			if end == 2 && place == 3 {
				continue
			}
			head := put([]byte{5, 3, end, 0, 0, 0, 0, 1, 0, 0, 0, 0, 0, 1, 0, 0, 0, 0, 0}, place, 1)
			if end == 1 && place >= 5 {
				holdRead(t, "a place where it goes on", head)
				continue
			}
			holdUnread(t, "what an End has not", head)
		}
	}
	for _, value := range []byte{0, 1, 2, 127, 128, 254, 255} {
		for many := range 320 {
			holdRead(t, "all bytes the same", bytes.Repeat([]byte{value}, many))
		}
	}
}

// Each byte of some pieces of code, with each value that it may have.
func TestP47EachByteAtEachValue(t *testing.T) {
	all, _ := codeOfAllBytes()
	for _, b := range []impl.IrBlock{all, eachKind(), codeOf(), on(impl.EndWord, 0, 0, 0, letsIn(1)), impl.BlkLower(60, insOf("load a b 3", "store a c 4", "go a"))} {
		w := wantedBytes(b)
		good, bad := 0, 0
		for place := range w {
			for value := range 256 {
				if holdRead(t, "a byte", put(w, place, byte(value))) {
					good++
				} else {
					bad++
				}
			}
		}
		if good < 50 || bad < 800 {
			t.Fatalf("%+v: only %d are read, and %d are not", b, good, bad)
		}
	}
}

// anyBytes are bytes of many sizes, some of them small, so that they may say something.
func (d *dice) anyBytes() []byte {
	many := d.of(d.below(320), headBytes+opBytes*d.below(51))
	most := d.of(3, 9, 256)
	var out []byte
	for range many {
		out = append(out, byte(d.below(most)))
	}
	if len(out) >= headBytes && d.below(2) == 0 {
		copy(out, []byte{byte(d.below(60)), byte(1 + d.below(4)), impl.EndGo, 0, 0})
	}
	return out
}

func TestP47OfAnyBytes(t *testing.T) {
	d := dice(474747471)
	good, bad := 0, 0
	for range 60000 {
		if holdRead(t, "any bytes", d.anyBytes()) {
			good++
		} else {
			bad++
		}
	}
	if good < 300 || bad < 20000 {
		t.Fatalf("only %d are read, and %d are not", good, bad)
	}
}

// turnedBytes are bytes of which one is turned, is more or is less.
func (d *dice) turnedBytes(w []byte) []byte {
	place := d.below(len(w))
	switch d.below(8) {
	case 0:
		return slices.Delete(slices.Clone(w), place, place+1)
	case 1:
		return slices.Insert(slices.Clone(w), place, byte(d.below(256)))
	case 2:
		return put(w, place, byte(d.below(256)))
	case 3:
		return put(w, place, w[place]^1<<d.below(8))
	case 4, 5:
		return put(w, place, w[place]-1)
	}
	return put(w, place, w[place]+1)
}

func TestP47OfAnyCode(t *testing.T) {
	d := dice(474747499)
	kinds := map[[2]int]int{}
	good, bad := 0, 0
	for range 4000 {
		b := d.anyOwn()
		w := impl.IrBytes(b)
		if len(w) != headBytes+opBytes*len(b.Ops) {
			t.Fatalf("%+v has %d bytes", b, len(w))
		}
		holdWritten(t, "any code", b, wantedBytes(b)...)
		for _, o := range b.Ops {
			kinds[[2]int{o.Kind, b.End}]++
		}
		for range 12 {
			if holdRead(t, "turned by one", d.turnedBytes(w)) {
				good++
			} else {
				bad++
			}
		}
	}
	for kind := 1; kind <= 8; kind++ {
		for end := 1; end <= 4; end++ {
			if kinds[[2]int{kind, end}] < 200 {
				t.Fatalf("of Kind and End: %v", kinds)
			}
		}
	}
	if good < 4000 || bad < 4000 {
		t.Fatalf("only %d are read, and %d are not", good, bad)
	}
}

// What bytes say is told from what other bytes say: no two pieces of code have the same.
func TestP47NoTwoHaveTheSame(t *testing.T) {
	d := dice(471147117)
	of := map[string]impl.IrBlock{}
	for range 6000 {
		b := d.anyOwn()
		w := string(impl.IrBytes(b))
		if other, there := of[w]; there && !sameBlock(b, other) {
			t.Fatalf("%+v and\n%+v have the bytes %v", b, other, []byte(w))
		}
		of[w] = b
	}
	if len(of) < 3000 {
		t.Fatalf("only %d differ", len(of))
	}
}

// holdSameBytes fails unless two pieces of code are the same, both ways, as wanted; and, if they are, have the same bytes, but none of those that are not ok.
func holdSameBytes(t *testing.T, what string, b, c impl.IrBlock, want bool) {
	t.Helper()
	holdIrSame(t, what, b, c, want)
	first, second := impl.IrBytes(b), impl.IrBytes(c)
	if !bytes.Equal(first, wantedBytes(b)) || !bytes.Equal(second, wantedBytes(c)) {
		t.Fatalf("%s: the bytes of\n%+v\n%+v\nare\n%v\n%v", what, b, c, first, second)
	}
	if want && !bytes.Equal(first, second) {
		t.Fatalf("%s: the same, with the bytes\n%v\n%v", what, first, second)
	}
	if !want && len(first) > 0 && bytes.Equal(first, second) {
		t.Fatalf("%s: not the same, but both have the bytes %v:\n%+v\n%+v", what, first, b, c)
	}
}

func TestP39TheSameBytes(t *testing.T) {
	list := someCodes()
	for _, b := range list {
		for _, c := range list {
			holdSameBytes(t, "any two", b, c, sameBlock(b, c))
		}
		holdSameBytes(t, "another list", b, lentCode(b), true)
		for _, c := range turnsOfCode(b) {
			holdSameBytes(t, "one thing turned", b, c, false)
		}
	}
	holdSameBytes(t, "none, and an empty list", codeOf(), impl.IrBlock{Pc: 5, Len: 3, Ops: []impl.IrOp{}, End: impl.EndGo, K: 20}, true)
	holdSameBytes(t, "nothing, and nothing", impl.IrBlock{}, impl.IrBlock{}, true)
	// They do the same, but are not.
	for _, p := range unseenPairs() {
		holdSameBytes(t, p.what, p.b, p.c, sameBlock(p.b, p.c))
	}
}

func TestP39WhatIsReadIsTheSame(t *testing.T) {
	d := dice(393911397)
	same, apart := 0, 0
	for range 3000 {
		b := d.anyOwn()
		c := d.otherHand(b)
		if d.below(3) == 0 {
			c = turnedCode(b, func(*impl.IrBlock) {})
		}
		want := sameBlock(b, c)
		holdSameBytes(t, "as they are", b, c, want)
		x, ok := impl.IrRead(impl.IrBytes(b))
		if !ok {
			t.Fatalf("%+v is not read", b)
		}
		holdSameBytes(t, "read, and as it was", x, b, true)
		holdSameBytes(t, "read, and another one", x, c, want)
		if y, ok := impl.IrRead(impl.IrBytes(c)); ok {
			holdSameBytes(t, "both read", x, y, want)
		} else if wantedCode(c) {
			t.Fatalf("%+v is not read", c)
		}
		if want {
			same++
		} else {
			apart++
		}
	}
	if same < 500 || apart < 500 {
		t.Fatalf("only %d are the same, and %d are not", same, apart)
	}
}

// holdNoLie fails unless what is read from the bytes of two pieces of code that are ok may stand for each other, and for these, just if they may.
func holdNoLie(t *testing.T, what string, b, c impl.IrBlock, want bool) {
	t.Helper()
	x, xOk := impl.IrRead(impl.IrBytes(b))
	y, yOk := impl.IrRead(impl.IrBytes(c))
	if !xOk || !yOk {
		t.Fatalf("%s: %v, %v are read of\n%+v\n%+v", what, xOk, yOk, b, c)
	}
	holdStands(t, what+": as they are", b, c, want)
	holdStands(t, what+": one read", x, c, want)
	holdStands(t, what+": the other one read", b, y, want)
	holdStands(t, what+": both read", x, y, want)
	holdStands(t, what+": read, and as it was", x, b, true)
	holdStands(t, what+": read, and as it was", y, c, true)
}

func TestP71ByHand(t *testing.T) {
	for _, p := range unseenPairs() {
		holdNoLie(t, p.what, p.b, p.c, true)
	}
	for _, p := range seenPairs() {
		holdNoLie(t, p.what, p.b, p.c, false)
	}
	// At another place, or of another length, nothing may stand for it.
	holdNoLie(t, "another place", codeOf(), turnedCode(codeOf(), func(b *impl.IrBlock) { b.Pc = 6 }), false)
	holdNoLie(t, "another length", codeOf(), turnedCode(codeOf(), func(b *impl.IrBlock) { b.Len = 4 }), false)
	holdNoLie(t, "as many as there may be", codeOf(manyOps(48)...), impl.OptAll(codeOf(manyOps(48)...)), true)
}

func TestP71OfAnyCode(t *testing.T) {
	d := dice(717171711)
	may, mayNot := 0, 0
	for range 1200 {
		b := d.anyOwn()
		holdNoLie(t, "our own hand", b, impl.OptAll(b), true)
		c := d.otherHands(b)
		want := wantedStand(b, c)
		holdNoLie(t, "another hand", b, c, want)
		x, _ := impl.IrRead(impl.IrBytes(c))
		for _, m := range d.manyAt(b, 3) {
			holdAlike(t, "what is read", c, x, m)
			if want {
				holdAlike(t, "what is read, and may stand for it", b, x, m)
			}
		}
		switch {
		case want && !sameBlock(b, c):
			may++
		case !want:
			mayNot++
		}
	}
	if may < 200 || mayNot < 200 {
		t.Fatalf("only %d may stand for it, and %d may not", may, mayNot)
	}
}

// Bytes of which one was turned are read as what they say, which may stand for the code, or not, by that alone.
func TestP71BytesTurnedByOne(t *testing.T) {
	d := dice(717117717)
	may, mayNot := 0, 0
	for range 1500 {
		b := d.anyOwn()
		w := d.turnedBytes(impl.IrBytes(b))
		x, ok := impl.IrRead(w)
		if !ok {
			if _, should := wantedRead(w); should {
				t.Fatalf("the bytes %v are not read", w)
			}
			continue
		}
		want := wantedStand(b, saidBy(w))
		holdStands(t, "turned by one", b, x, want)
		if want {
			may++
			holdAlike(t, "turned by one", b, x, d.anyAt(b))
		} else {
			mayNot++
		}
	}
	if may < 50 || mayNot < 200 {
		t.Fatalf("only %d may stand for it, and %d may not", may, mayNot)
	}
}

func TestP47NothingIsWrittenIntoOrShared(t *testing.T) {
	d := dice(470047007)
	for round := range 3000 {
		b := d.anyOwn()
		switch round % 8 {
		case 0:
			b.End = 9
		case 1:
			b = codeOf()
		}
		b = lentCode(b)
		whole := b.Ops[:cap(b.Ops)]
		before, want := slices.Clone(whole), wantedBytes(b)
		one, two := impl.IrBytes(b), impl.IrBytes(b)
		holdSpans(t, "IrBytes", spanOf(one), slices.Concat(spanOf(b.Ops), spanOf(two)))
		for at := range one[:cap(one)] {
			one[:cap(one)][at] ^= 255
		}
		if !bytes.Equal(two, want) || !bytes.Equal(impl.IrBytes(b), want) {
			t.Fatalf("IrBytes of %+v: %v, not %v", b, two, want)
		}
		if !slices.Equal(whole, before) {
			t.Fatalf("operations were %v, and now %v", before, whole)
		}
		runtime.KeepAlive(b)
		holdReadApart(t, want)
	}
}

// holdReadApart fails if IrRead writes into bytes, or the bytes behind them, or shares memory with them or with what was read from them ahead; bytes behind their end say nothing.
func holdReadApart(t *testing.T, w []byte) {
	t.Helper()
	want, wantOk := wantedRead(w)
	given := lentList(w, 1, 0, 0, 0, 7, 0, 255)
	whole := given[:cap(given)]
	before := slices.Clone(whole)
	one, oneOk := impl.IrRead(given)
	two, twoOk := impl.IrRead(given)
	holdSpans(t, "IrRead", spanOf(one.Ops), slices.Concat(spanOf(given), spanOf(two.Ops)))
	for at := range one.Ops[:cap(one.Ops)] {
		one.Ops[:cap(one.Ops)][at] = impl.IrOp{Kind: -9}
	}
	if !bytes.Equal(whole, before) {
		t.Fatalf("bytes were %v, and now %v", before, whole)
	}
	for at := range whole {
		whole[at] ^= 255
	}
	if oneOk != wantOk || twoOk != wantOk || !sameBlock(two, want) {
		t.Fatalf("of %v is read %+v, %v and %v, not %+v, %v", w, two, oneOk, twoOk, want, wantOk)
	}
	if again, ok := impl.IrRead(w); ok != wantOk || !sameBlock(again, want) {
		t.Fatalf("of %v is then read %+v, %v, not %+v, %v", w, again, ok, want, wantOk)
	}
}
