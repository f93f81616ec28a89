package frame_test

import (
	"bytes"
	"encoding/binary"
	"encoding/hex"
	"hash/crc32"
	"math"
	"math/rand/v2"
	"slices"
	"testing"

	"theodolite/api"
	"theodolite/frame"
)

// kinds is each kind, and how many numbers it has, told by 12.1.
var kinds = []struct{ kind, numbers int }{
	{1, 3}, {2, 2}, {3, 2}, {4, 0}, {5, 1}, {6, 3}, {7, 2},
}

// noKinds is what is no kind; much of it is one in its lowest bits.
var noKinds = []int{
	math.MinInt, math.MinInt + 1, -1<<32 + 1, -1<<16 + 4, -256 + 1, -256 + 7, -8, -7, -4, -2, -1, 0,
	8, 9, 10, 15, 16, 126, 127, 128, 255, 256, 256 + 1, 256 + 2, 256 + 3, 256 + 4, 256 + 5, 256 + 6, 256 + 7, 256 + 8,
	1<<16 + 1, 1<<16 + 4, 1<<32 + 1, 1<<32 + 4, 1<<32 + 7, math.MaxInt - 1, math.MaxInt,
}

// edges is numbers at their ends, and such as tell where each byte of them lies.
var edges = []int32{0, 1, -1, math.MinInt32, math.MaxInt32, 0x01020304, -0x01020304, 126, 256}

// seqs and times are edges of a frame's number and its time.
var (
	seqs  = []uint16{0, 1, 126, 255, 256, 0x0102, 32767, 32768, 65535}
	times = []uint32{0, 1, 126, 0x01020304, 1 << 24, 1<<31 - 1, 1 << 31, math.MaxUint32}
)

// numbersOf is how many numbers a kind has; -1, if it is none.
func numbersOf(kind int) int {
	for _, k := range kinds {
		if k.kind == kind {
			return k.numbers
		}
	}
	return -1
}

// with is a frame of a kind, of whose numbers those alone are taken that the kind has.
func with(kind int, seq uint16, time uint32, l [3]int32) api.Frame {
	clear(l[numbersOf(kind):])
	return api.Frame{Kind: kind, Seq: seq, Time: time, A: l[0], B: l[1], C: l[2]}
}

// edgeFrames is frames of each kind, with each edge of each of their parts.
func edgeFrames() []api.Frame {
	var all []api.Frame
	for _, k := range kinds {
		for i, seq := range seqs {
			all = append(all, with(k.kind, seq, times[i%len(times)], [3]int32{1, -2, 3}))
		}
		for _, time := range times {
			all = append(all, with(k.kind, 3, time, [3]int32{-1, 2, -3}))
		}
		for _, a := range edges {
			for _, b := range edges {
				for _, c := range edges {
					all = append(all, with(k.kind, 65535, math.MaxUint32, [3]int32{a, b, c}))
				}
			}
		}
	}
	return all
}

// anyFrame is a frame of any kind, of whose bytes many are as a mark, or a kind.
func anyFrame(c *rand.Rand) api.Frame {
	number := func() uint32 {
		switch c.IntN(4) {
		case 0:
			return 0x047e017e
		case 1:
			return 0x7e
		}
		return c.Uint32() >> c.IntN(32)
	}
	k := kinds[c.IntN(len(kinds))]
	return with(k.kind, uint16(number()), number(), [3]int32{int32(number()), -int32(number()), int32(number())})
}

// seal is bytes with their sum behind, told by the library's own.
func seal(b ...byte) []byte {
	return binary.LittleEndian.AppendUint32(slices.Clip(b), crc32.ChecksumIEEE(b))
}

// raw is a frame's bytes, told by 12.1, word by word.
func raw(f api.Frame) []byte {
	b := []byte{126, byte(f.Kind)}
	b = binary.LittleEndian.AppendUint16(b, f.Seq)
	b = binary.LittleEndian.AppendUint32(b, f.Time)
	for _, x := range []int32{f.A, f.B, f.C}[:numbersOf(f.Kind)] {
		b = binary.LittleEndian.AppendUint32(b, uint32(x))
	}
	return seal(b...)
}

// told is what 12.2 tells of bytes: that they begin with just these bytes of a frame is held against what that frame is written as.
func told(b []byte) (api.Frame, int, api.Code) {
	if len(b) == 0 {
		return api.Frame{}, 0, api.ErrSize
	}
	if b[0] != 126 {
		return api.Frame{}, 0, api.ErrForm
	}
	if len(b) == 1 {
		return api.Frame{}, 0, api.ErrSize
	}
	n := numbersOf(int(b[1]))
	if n == -1 {
		return api.Frame{}, 0, api.ErrKind
	}
	if len(b) < 12+4*n {
		return api.Frame{}, 0, api.ErrSize
	}
	var l [3]int32
	for i := range n {
		l[i] = int32(binary.LittleEndian.Uint32(b[8+4*i:]))
	}
	f := with(int(b[1]), binary.LittleEndian.Uint16(b[2:]), binary.LittleEndian.Uint32(b[4:]), l)
	if !bytes.HasPrefix(b, raw(f)) {
		return api.Frame{}, 0, api.ErrSum
	}
	return f, 12 + 4*n, api.OK
}

// placed is a frame, and where it begins.
type placed struct {
	at int
	f  api.Frame
}

// found is the frames that stand in bytes, told by 12.3.
func found(b []byte) []placed {
	var all []placed
	for at := 0; at < len(b); at++ {
		if f, n, code := told(b[at:]); code == api.OK {
			all = append(all, placed{at, f})
			at += n - 1
		}
	}
	return all
}

// fed is what 12.4 tells of bytes that come at once: the frames, how many bytes were passed, and how many wait.
func fed(b []byte) ([]api.Frame, int, int) {
	var all []api.Frame
	lost := 0
	for {
		f, n, code := told(b)
		if code == api.ErrSize {
			return all, lost, len(b)
		}
		if code == api.OK {
			all, b = append(all, f), b[n:]
			continue
		}
		lost, b = lost+1, b[1:]
	}
}

// all is what All tells of bytes, gone through to the end.
func all(b []byte) []placed {
	var l []placed
	for at, f := range frame.All(b) {
		l = append(l, placed{at, f})
	}
	return l
}

// isNone fails if First tells a frame, or another code.
func isNone(t *testing.T, b []byte, want api.Code) {
	t.Helper()
	if f, n, code := frame.First(b); f != (api.Frame{}) || n != 0 || code != want {
		t.Errorf("%x: %v, %d, %d, not %d", b, f, n, code, want)
	}
}

// isFirst fails if First tells another frame, or another size.
func isFirst(t *testing.T, b []byte, want api.Frame, size int) {
	t.Helper()
	if f, n, code := frame.First(b); f != want || n != size || code != api.OK {
		t.Errorf("%x: %v, %d, %d, not %v, %d", b, f, n, code, want, size)
	}
}

// isAll fails if All tells other frames, or other places.
func isAll(t *testing.T, b []byte, want ...placed) {
	t.Helper()
	if l := all(b); !slices.Equal(l, want) {
		t.Errorf("%x: %v, not %v", b, l, want)
	}
}

// pushed is a feed, all that it was given, and all that it told.
type pushed struct {
	feed frame.Feed
	b    []byte
	l    []api.Frame
}

// push gives bytes to the feed, and fails if it is not behind them as if all bytes had come at once.
func (p *pushed) push(t *testing.T, b []byte) []api.Frame {
	t.Helper()
	l := p.feed.Push(b)
	p.b, p.l = append(p.b, b...), append(p.l, l...)
	want, lost, waits := fed(p.b)
	if !slices.Equal(p.l, want) || p.feed.Lost() != lost || p.feed.Waits() != waits {
		t.Fatalf("%x, the last %d bytes at once: %v, %d passed, %d wait; not %v, %d, %d", p.b, len(b), p.l, p.feed.Lost(), p.feed.Waits(), want, lost, waits)
	}
	return l
}

// pushAll gives bytes to a new feed in pieces that end at these places, and what is left behind them.
func pushAll(t *testing.T, b []byte, ends ...int) *pushed {
	t.Helper()
	var p pushed
	from := 0
	for _, to := range ends {
		p.push(t, b[from:to])
		from = to
	}
	p.push(t, b[from:])
	return &p
}

// tick is a frame of the fewest bytes, start one of 16, radar that of the chapter's example, and move one of the most.
var (
	tick  = api.Frame{Kind: api.FrameTick, Seq: 5, Time: 77}
	start = api.Frame{Kind: api.FrameStart, Seq: 6, Time: 78, A: -1}
	radar = api.Frame{Kind: api.FrameRadar, Seq: 3, Time: 20, A: 800}
	move  = api.Frame{Kind: api.FrameMove, Seq: 1, Time: 2, A: -3, B: 4, C: 5}
)

// outer is a move whose three numbers are the twelve bytes of tick.
func outer() api.Frame {
	b := raw(tick)
	number := func(at int) int32 { return int32(binary.LittleEndian.Uint32(b[at:])) }
	return api.Frame{Kind: api.FrameMove, Seq: 8, Time: 9, A: number(0), B: number(4), C: number(8)}
}

// broken is bytes of which the last bit is turned.
func broken(b []byte) []byte {
	b = slices.Clone(b)
	b[len(b)-1] ^= 0x80
	return b
}

// anyStream is bytes of frames, whole, cut and broken, and of others, of which many are as a mark and a kind.
func anyStream(c *rand.Rand, parts int) []byte {
	var all []byte
	for range parts {
		b := raw(anyFrame(c))
		switch c.IntN(7) {
		case 0, 1:
			all = append(all, b...)
		case 2:
			all = append(all, b[:c.IntN(len(b))]...)
		case 3:
			b[c.IntN(len(b))] ^= 1 << c.IntN(8)
			all = append(all, b...)
		case 4:
			all = append(all, 126)
		case 5:
			all = append(all, 126, byte(c.IntN(9)))
		default:
			all = append(all, byte(c.Uint32()))
		}
	}
	return all
}

// 12.1: the constants.
func TestConstants(t *testing.T) {
	if frame.Mark != 0x7e || frame.Head != 8 || frame.Tail != 4 || frame.Most != 24 || frame.Least != 12 {
		t.Error(frame.Mark, frame.Head, frame.Tail, frame.Most, frame.Least)
	}
}

// 12.1: how many numbers each kind has, and how many bytes its frames.
func TestKinds(t *testing.T) {
	for _, k := range []struct{ kind, numbers, size int }{
		{api.FrameMove, 3, 24},
		{api.FrameCorrect, 3, 24},
		{api.FrameRadar, 2, 20},
		{api.FrameBaro, 2, 20},
		{api.FrameMode, 2, 20},
		{api.FrameStart, 1, 16},
		{api.FrameTick, 0, 12},
	} {
		if n, size := frame.Numbers(k.kind), frame.Size(k.kind); n != k.numbers || size != k.size {
			t.Error(k.kind, n, size)
		}
	}
}

// 12.1: what is no kind has no numbers, no bytes, and is told ahead of numbers that are not 0.
func TestNoKind(t *testing.T) {
	c := rand.New(rand.NewPCG(12, 1))
	none := slices.Clone(noKinds)
	for range 1000 {
		if kind := int(c.Uint64()); kind < 1 || kind > 7 {
			none = append(none, kind)
		}
	}
	for _, kind := range none {
		if n, size := frame.Numbers(kind), frame.Size(kind); n != -1 || size != -1 {
			t.Error(kind, n, size)
		}
		for _, f := range []api.Frame{{Kind: kind}, {Kind: kind, C: 1}, {Kind: kind, Seq: 1, Time: 2, A: 3, B: 4, C: 5}} {
			if b, code := frame.Put(f); len(b) != 0 || code != api.ErrKind {
				t.Errorf("%v: %x, %d", f, b, code)
			}
		}
	}
}

// 12.1: the bytes of a frame of each kind, told beforehand.
func TestPutKnown(t *testing.T) {
	for _, k := range []struct {
		f    api.Frame
		want string
	}{
		{api.Frame{Kind: api.FrameMove, Seq: 1, Time: 2, A: -3, B: 4, C: 5}, "7e01010002000000fdffffff0400000005000000cfc17abd"},
		{api.Frame{Kind: api.FrameRadar, Seq: 3, Time: 20, A: 800}, "7e020300140000002003000000000000e5343800"},
		{api.Frame{Kind: api.FrameBaro, A: -1}, "7e03000000000000ffffffff000000000844ff98"},
		{api.Frame{Kind: api.FrameTick, Seq: 65535, Time: math.MaxUint32}, "7e04ffffffffffff7b34acd8"},
		{api.Frame{Kind: api.FrameStart, Seq: 258, Time: 16909060, A: 1}, "7e05020104030201010000000007c1a9"},
		{api.Frame{Kind: api.FrameCorrect, Time: 1, A: math.MinInt32, B: math.MaxInt32}, "7e0600000100000000000080ffffff7f000000001b8135a7"},
		{api.Frame{Kind: api.FrameMode, Seq: 4660, Time: 305419896, A: 2, B: -16}, "7e0734127856341202000000f0ffffffd346e17b"},
	} {
		b, code := frame.Put(k.f)
		if hex.EncodeToString(b) != k.want || code != api.OK {
			t.Errorf("%v: %x, %d, not %s", k.f, b, code, k.want)
		}
		isFirst(t, b, k.f, len(k.want)/2)
	}
}

// 12.1: each kind, with each edge of its parts.
func TestPut(t *testing.T) {
	for _, f := range edgeFrames() {
		if b, code := frame.Put(f); !bytes.Equal(b, raw(f)) || code != api.OK || len(b) != frame.Size(f.Kind) {
			t.Fatalf("%v: %x, %d, not %x", f, b, code, raw(f))
		}
	}
}

// isArg fails if a frame is written whose kind has no use for one of its numbers, or refused by another code.
func isArg(t *testing.T, kind int, l [3]int32) {
	t.Helper()
	f := api.Frame{Kind: kind, Seq: 1, Time: 2, A: l[0], B: l[1], C: l[2]}
	if b, code := frame.Put(f); len(b) != 0 || code != api.ErrArg {
		t.Errorf("%v: %x, %d", f, b, code)
	}
}

// 12.1: a number that is not 0 behind as many as the kind has: alone, and with others that are 0 or not.
func TestPutNumberOver(t *testing.T) {
	for _, k := range kinds {
		for at := k.numbers; at < 3; at++ {
			for _, x := range edges {
				if x == 0 {
					continue
				}
				for _, other := range edges {
					l := [3]int32{other, other, other}
					l[at] = x
					isArg(t, k.kind, l)
				}
			}
		}
	}
}

// 12.1 and R3: what Put tells is new memory.
func TestPutIsNew(t *testing.T) {
	for _, k := range kinds {
		f := with(k.kind, 7, 8, [3]int32{9, 10, 11})
		b, _ := frame.Put(f)
		for i := range b {
			b[i] = 0xff
		}
		if b, _ := frame.Put(f); !bytes.Equal(b, raw(f)) {
			t.Errorf("%x", b)
		}
		if n := frame.Numbers(k.kind); n != k.numbers {
			t.Error(k.kind, n)
		}
	}
}

// 12.2: each frame, with other bytes behind it and without.
func TestFirst(t *testing.T) {
	for _, f := range edgeFrames() {
		b := raw(f)
		for _, behind := range [][]byte{nil, {0}, {126}, {126, 1}, raw(tick), raw(move), make([]byte, 50)} {
			isFirst(t, slices.Concat(b, behind), f, len(b))
		}
	}
}

// 12.2: no bytes, nil or not.
func TestFirstEmpty(t *testing.T) {
	isNone(t, nil, api.ErrSize)
	isNone(t, []byte{}, api.ErrSize)
}

// 12.2: bytes of a frame that are not all there, up to the one of which just the last byte is missing; what lies behind a list's length is not read.
func TestFirstShort(t *testing.T) {
	for _, k := range kinds {
		b := raw(with(k.kind, 1, 2, [3]int32{3, 4, 5}))
		for n := range b {
			isNone(t, b[:n], api.ErrSize)
			isNone(t, slices.Clone(b[:n]), api.ErrSize)
		}
		isNone(t, append([]byte{126, byte(k.kind)}, make([]byte, len(b)-3)...), api.ErrSize)
	}
}

// 12.2: bytes that do not begin with a mark, few of them or many, whatever comes behind.
func TestFirstForm(t *testing.T) {
	for first := range 256 {
		if first == 126 {
			continue
		}
		for _, behind := range [][]byte{nil, {126}, {4}, {0}, raw(tick), raw(tick)[1:], raw(move)[1:]} {
			isNone(t, append([]byte{byte(first)}, behind...), api.ErrForm)
		}
	}
	// The right sum does not make it a frame.
	isNone(t, seal(125, 4, 0, 0, 0, 0, 0, 0), api.ErrForm)
}

// 12.2: a mark alone, and one with each byte behind it: a kind or none, with few bytes behind or many.
func TestFirstSecond(t *testing.T) {
	isNone(t, []byte{126}, api.ErrSize)
	for second := range 256 {
		short, long := api.ErrKind, api.ErrKind
		if second >= 1 && second <= 7 {
			short, long = api.ErrSize, api.ErrSum
		}
		isNone(t, []byte{126, byte(second)}, short)
		isNone(t, append([]byte{126, byte(second)}, make([]byte, 8)...), short)
		isNone(t, append([]byte{126, byte(second)}, make([]byte, 40)...), long)
	}
	// The right sum makes no kind.
	for _, none := range []byte{0, 8, 126, 255} {
		for size := 4; size <= 20; size += 4 {
			isNone(t, seal(append([]byte{126, none}, make([]byte, size)...)...), api.ErrKind)
		}
	}
}

// turned is the code of a frame of which one bit is turned, by how many bytes stand there: the mark's, the kind's, or another one.
func turned(b []byte, bit int) api.Code {
	if bit < 8 {
		return api.ErrForm
	}
	if bit >= 16 {
		return api.ErrSum
	}
	n := numbersOf(int(b[1]))
	if n < 0 {
		return api.ErrKind
	}
	if len(b) < 12+4*n {
		return api.ErrSize
	}
	return api.ErrSum
}

// 12.2: a frame with any one of its bits turned, alone and with others behind it.
func TestFirstTurned(t *testing.T) {
	c := rand.New(rand.NewPCG(12, 2))
	codes := map[api.Code]int{}
	for range 300 {
		f := anyFrame(c)
		whole := raw(f)
		for bit := range 8 * len(whole) {
			b := slices.Clone(whole)
			b[bit/8] ^= 1 << (bit % 8)
			for _, behind := range [][]byte{nil, {0}, whole, raw(tick)} {
				all := slices.Concat(b, behind)
				want := turned(all, bit)
				isNone(t, all, want)
				codes[want]++
			}
		}
	}
	if len(codes) != 4 {
		t.Error("not all codes were told:", codes)
	}
}

// 12.2: a sum that stands there otherwise, that is of other bytes, or that stands elsewhere, is none.
func TestFirstSum(t *testing.T) {
	for _, k := range kinds {
		b := raw(with(k.kind, 1, 2, [3]int32{3, 4, 5}))
		n := len(b) - 4
		high := slices.Clone(b)
		slices.Reverse(high[n:])
		isNone(t, high, api.ErrSum)
		isNone(t, slices.Concat(b[:n], seal(b[1:n]...)[n-1:]), api.ErrSum)
		isNone(t, slices.Concat(b[:n], make([]byte, 4)), api.ErrSum)
		isNone(t, slices.Concat(b[:n], []byte{0}, b[n:]), api.ErrSum)
		isNone(t, slices.Concat(b[:n], raw(tick)), api.ErrSum)
		isFirst(t, seal(b[:n]...), with(k.kind, 1, 2, [3]int32{3, 4, 5}), len(b))
	}
	// With the sum of a longer frame a shorter one is none.
	isNone(t, seal(append([]byte{126, 4}, make([]byte, 10)...)...), api.ErrSum)
}

// 12.2: a frame that ends early, and another one right behind it: the first one takes its bytes, as many as there are.
func TestFirstEndsEarly(t *testing.T) {
	for _, k := range kinds {
		b := raw(with(k.kind, 1, 2, [3]int32{3, 4, 5}))
		for n := 2; n < len(b); n++ {
			for _, behind := range []api.Frame{tick, start, radar, move} {
				all := slices.Concat(b[:n], raw(behind))
				want := api.ErrSum
				if len(all) < len(b) {
					want = api.ErrSize
				}
				isNone(t, all, want)
				isFirst(t, all[n:], behind, len(raw(behind)))
			}
		}
	}
}

// 12.2 to 12.4, R3: what is handed in is not changed, nor is what lies behind it.
func TestBytesAreNotChanged(t *testing.T) {
	c := rand.New(rand.NewPCG(12, 3))
	for range 300 {
		b := append(anyStream(c, 6), raw(move)...)
		was := slices.Clone(b)
		var feed frame.Feed
		n := c.IntN(len(b) + 1)
		frame.First(b[:n])
		all(b[:n])
		feed.Push(b[:n])
		feed.Push(b[n:n])
		if !bytes.Equal(b, was) {
			t.Fatalf("%x, not %x", b, was)
		}
		feed.Push(b[n:])
		if !bytes.Equal(b, was) {
			t.Fatalf("%x, not %x", b, was)
		}
	}
}

// 12.3: frames right behind one another, of each kind.
func TestAllBehindOneAnother(t *testing.T) {
	var b []byte
	var want []placed
	for round := range 3 {
		for _, k := range kinds {
			f := with(k.kind, uint16(round), 2, [3]int32{3, 4, 5})
			want = append(want, placed{len(b), f})
			b = append(b, raw(f)...)
		}
	}
	isAll(t, b, want...)
}

// 12.3: no bytes, and bytes without a frame.
func TestAllNone(t *testing.T) {
	for _, b := range [][]byte{nil, {}, {126}, {126, 126}, {126, 1}, {0}, {126, 0}, raw(move)[1:], raw(move)[:23], raw(tick)[:11], broken(raw(tick)), make([]byte, 100), bytes.Repeat([]byte{126}, 100), bytes.Repeat([]byte{126, 1}, 100)} {
		if frame.All(b) == nil {
			t.Fatalf("%x: nothing to go through", b)
		}
		isAll(t, b)
	}
}

// 12.3: a frame among bytes that hold marks, at the beginning, between, and at the end.
func TestAllAmong(t *testing.T) {
	for _, ahead := range [][]byte{{126}, {126, 126}, {126, 0}, {126, 1}, {126, 7}, {0, 126, 4, 126}, broken(raw(tick)), raw(move)[:23], raw(move)[1:]} {
		for _, f := range []api.Frame{tick, start, radar, move} {
			b := raw(f)
			isAll(t, slices.Concat(ahead, b), placed{len(ahead), f})
			isAll(t, slices.Concat(b, ahead), placed{0, f})
			isAll(t, slices.Concat(ahead, b, ahead, b, ahead), placed{len(ahead), f}, placed{2*len(ahead) + len(b), f})
		}
	}
}

// 12.3: a frame inside of another one is told just if the sum of that is wrong, or its last byte is missing.
func TestAllInside(t *testing.T) {
	b := raw(outer())
	isAll(t, b, placed{0, outer()})
	isAll(t, broken(b), placed{8, tick})
	isAll(t, b[:23], placed{8, tick})
	isAll(t, b[1:], placed{7, tick})
	isAll(t, slices.Concat(broken(b), b, raw(tick)), placed{8, tick}, placed{24, outer()}, placed{48, tick})
	// Two that overlap: the one that begins first is told, the other one just if the first one is none.
	over := slices.Concat(b[:20], broken(b)[20:], raw(start))
	isAll(t, over, placed{8, tick}, placed{24, start})
}

// 12.3: a frame that ends early, and another one right behind it.
func TestAllEndsEarly(t *testing.T) {
	for _, k := range kinds {
		b := raw(with(k.kind, 1, 2, [3]int32{3, 4, 5}))
		for n := range b {
			for _, f := range []api.Frame{tick, start, radar, move} {
				isAll(t, slices.Concat(b[:n], raw(f)), placed{n, f})
			}
		}
	}
}

// 12.3: any bytes.
func TestAllAny(t *testing.T) {
	c := rand.New(rand.NewPCG(12, 4))
	inside := 0
	for range 20000 {
		b := anyStream(c, 1+c.IntN(12))
		want := found(b)
		isAll(t, b, want...)
		inside += len(want)
	}
	if inside < 20000 {
		t.Error("too few frames:", inside)
	}
}

// 12.3 and R4: it can be left at any place, and gone through again.
func TestAllLeft(t *testing.T) {
	b := slices.Concat(raw(tick), []byte{126, 0}, raw(move), raw(radar), broken(raw(move)), raw(start))
	want := []placed{{0, tick}, {14, move}, {38, radar}, {82, start}}
	s := frame.All(b)
	for most := range len(want) + 1 {
		var l []placed
		for at, f := range s {
			l = append(l, placed{at, f})
			if len(l) >= most {
				break
			}
		}
		if !slices.Equal(l, want[:max(1, most)]) {
			t.Error(most, l)
		}
	}
	for range 3 {
		var l []placed
		for at, f := range s {
			l = append(l, placed{at, f})
			// One that is gone through inside of itself does not change it.
			n := 0
			for range s {
				n++
			}
			if n != len(want) {
				t.Fatal(n)
			}
		}
		if !slices.Equal(l, want) {
			t.Error(l)
		}
	}
}

// 12.3 and R3: the bytes are not kept: what becomes of them changes nothing.
func TestAllIsNotKept(t *testing.T) {
	b := slices.Concat(raw(tick), raw(move), raw(start))
	want := []placed{{0, tick}, {12, move}, {36, start}}
	s := frame.All(b)
	for range 2 {
		var l []placed
		for at, f := range s {
			l = append(l, placed{at, f})
			clear(b)
		}
		if !slices.Equal(l, want) {
			t.Error(l)
		}
	}
}

// 12.4: a zero Feed, and such as is given nothing.
func TestFeedOfNone(t *testing.T) {
	var feed frame.Feed
	for _, b := range [][]byte{nil, {}, nil} {
		if feed.Lost() != 0 || feed.Waits() != 0 {
			t.Fatal(feed.Lost(), feed.Waits())
		}
		if l := feed.Push(b); len(l) != 0 {
			t.Fatal(l)
		}
	}
}

// step is a piece, what is told of it, how many bytes were passed behind it, and how many wait.
type step struct {
	b     []byte
	want  []api.Frame
	lost  int
	waits int
}

// isSteps gives pieces to a feed, one by one, and no bytes between any two.
func isSteps(t *testing.T, l ...step) {
	t.Helper()
	var feed frame.Feed
	for i, s := range l {
		if got := feed.Push(s.b); !slices.Equal(got, s.want) || feed.Lost() != s.lost || feed.Waits() != s.waits {
			t.Errorf("piece %d: %v, %d passed, %d wait; not %v, %d, %d", i, got, feed.Lost(), feed.Waits(), s.want, s.lost, s.waits)
		}
		if got := feed.Push(nil); len(got) != 0 || feed.Lost() != s.lost || feed.Waits() != s.waits {
			t.Errorf("no bytes behind piece %d: %v, %d passed, %d wait", i, got, feed.Lost(), feed.Waits())
		}
	}
}

// 12.4: pieces that end in the middle of a frame, behind its mark, and behind its second byte.
func TestFeedKnown(t *testing.T) {
	one, two := raw(tick), raw(move)
	isSteps(t,
		step{one[:1], nil, 0, 1},
		step{one[1:2], nil, 0, 2},
		step{one[2:7], nil, 0, 7},
		step{one[7:11], nil, 0, 11},
		step{one[11:], []api.Frame{tick}, 0, 0},
	)
	isSteps(t,
		step{slices.Concat(one, two, one), []api.Frame{tick, move, tick}, 0, 0},
		step{slices.Concat(two, one[:1]), []api.Frame{move}, 0, 1},
		step{slices.Concat(one[1:], two[:2]), []api.Frame{tick}, 0, 2},
		step{slices.Concat(two[2:], two[:23]), []api.Frame{move}, 0, 23},
		step{two[23:], []api.Frame{move}, 0, 0},
	)
	isSteps(t,
		step{[]byte{1, 2, 126}, nil, 2, 1},
		step{[]byte{126}, nil, 3, 1},
		step{[]byte{0}, nil, 5, 0},
		step{[]byte{126, 8, 126, 1}, nil, 7, 2},
		step{slices.Concat(two[2:], []byte{9}), []api.Frame{move}, 8, 0},
		step{broken(one), nil, 20, 0},
		step{one, []api.Frame{tick}, 20, 0},
	)
}

// 12.4: a frame that ends early keeps the one right behind it waiting, up to its own last byte; then its first byte is passed, and so on.
func TestFeedEndsEarly(t *testing.T) {
	one, two := raw(tick), raw(move)
	isSteps(t,
		step{two[:2], nil, 0, 2},
		step{one, nil, 0, 14},
		step{make([]byte, 9), nil, 0, 23},
		step{one[:1], []api.Frame{tick}, 11, 1},
		step{one[1:], []api.Frame{tick}, 11, 0},
	)
	isSteps(t, step{slices.Concat(two[:23], two), []api.Frame{move}, 23, 0})
	isSteps(t, step{slices.Concat(two[:2], one), nil, 0, 14}, step{two, []api.Frame{tick, move}, 2, 0})
}

// 12.4: a frame inside of another one is told just if the sum of that is wrong.
func TestFeedInside(t *testing.T) {
	b := raw(outer())
	isSteps(t, step{b[:23], nil, 0, 23}, step{b[23:], []api.Frame{outer()}, 0, 0})
	isSteps(t, step{b[:23], nil, 0, 23}, step{broken(b)[23:], []api.Frame{tick}, 12, 0})
	isSteps(t, step{b[1:], []api.Frame{tick}, 11, 0})
}

// 12.4: the bytes one by one, and all at once.
func TestFeedOneByOne(t *testing.T) {
	c := rand.New(rand.NewPCG(12, 5))
	for range 200 {
		b := anyStream(c, 10)
		var p pushed
		for i := range b {
			p.push(t, b[i:i+1])
		}
		once := pushAll(t, b)
		if !slices.Equal(p.l, once.l) || p.feed.Lost() != once.feed.Lost() || p.feed.Waits() != once.feed.Waits() {
			t.Fatalf("%x: %v, %v", b, p.l, once.l)
		}
	}
}

// 12.4 and 12.5: every way to cut a few bytes.
func TestFeedEveryWay(t *testing.T) {
	one := raw(tick)
	for _, b := range [][]byte{
		one,
		slices.Concat([]byte{126}, one),
		slices.Concat([]byte{126, 0}, one[:11]),
		slices.Concat(one, []byte{126, 4}),
		slices.Concat([]byte{126, 4}, one),
		append(broken(one), 126),
		raw(start)[2:],
		{126, 126, 126, 1, 126, 7, 0, 126, 4, 8, 126, 0, 126},
	} {
		for ways := range 1 << (len(b) - 1) {
			var ends []int
			for i := range len(b) - 1 {
				if ways>>i&1 == 1 {
					ends = append(ends, i+1)
				}
			}
			pushAll(t, b, ends...)
		}
	}
}

// 12.4 and 12.5: all ways to cut many bytes into up to three pieces, of which any may be empty.
func TestFeedThreePieces(t *testing.T) {
	inside := raw(outer())
	for _, b := range [][]byte{
		slices.Concat(raw(move), raw(tick), raw(radar)),
		slices.Concat([]byte{126, 0}, raw(move), []byte{126}, raw(start), []byte{126, 5}),
		slices.Concat(raw(move)[:5], raw(tick), raw(radar)[:19], raw(start)),
		slices.Concat(broken(inside), inside, raw(start)),
	} {
		for first := range len(b) + 1 {
			for second := first; second <= len(b); second++ {
				pushAll(t, b, first, second)
			}
		}
	}
}

// 12.4 and 12.5: any bytes in any pieces; what was passed, what was told and what waits is all that came; what waits is less than one frame.
func TestFeedAny(t *testing.T) {
	c := rand.New(rand.NewPCG(12, 6))
	frames := 0
	for range 3000 {
		b := anyStream(c, 1+c.IntN(20))
		var p pushed
		for rest := b; len(rest) > 0; {
			n := c.IntN(min(len(rest), 1+c.IntN(40)) + 1)
			p.push(t, rest[:n])
			rest = rest[n:]
			if p.feed.Waits() >= 24 {
				t.Fatal(p.feed.Waits())
			}
		}
		sum := p.feed.Lost() + p.feed.Waits()
		for _, f := range p.l {
			sum += len(raw(f))
		}
		if sum != len(b) {
			t.Fatal(sum, len(b))
		}
		frames += len(p.l)
	}
	if frames < 5000 {
		t.Error("too few frames:", frames)
	}
}

// 12.4 and R3: neither the bytes that come nor the frames that are told are kept.
func TestFeedIsNotKept(t *testing.T) {
	b := slices.Concat(raw(tick), raw(move), raw(radar))
	for first := range len(b) + 1 {
		for second := first; second <= len(b); second++ {
			var feed frame.Feed
			var all []api.Frame
			room := make([]byte, len(b))
			for _, piece := range [][]byte{b[:first], b[first:second], b[second:]} {
				copy(room, piece)
				l := feed.Push(room[:len(piece)])
				all = append(all, l...)
				clear(l)
				clear(room)
			}
			if !slices.Equal(all, []api.Frame{tick, move, radar}) || feed.Lost() != 0 || feed.Waits() != 0 {
				t.Fatal(first, second, all, feed.Lost(), feed.Waits())
			}
		}
	}
}

// 12.4 and R3: what was told once is not changed by what is told later.
func TestFeedTellsNew(t *testing.T) {
	var feed frame.Feed
	var lists [][]api.Frame
	pieces := [][]api.Frame{{tick, move}, {radar}, {start, tick, move}, {move}, {tick, start}}
	for _, piece := range pieces {
		var b []byte
		for _, f := range piece {
			b = append(b, raw(f)...)
		}
		lists = append(lists, feed.Push(b))
	}
	for i, l := range lists {
		if !slices.Equal(l, pieces[i]) {
			t.Error(i, l)
		}
	}
}

// 12.4: two feeds know nothing of each other.
func TestTwoFeeds(t *testing.T) {
	c := rand.New(rand.NewPCG(12, 7))
	for range 200 {
		var p, q pushed
		for range 10 {
			p.push(t, anyStream(c, 2))
			q.push(t, anyStream(c, 2))
		}
	}
}

// 12.5: there and back frames are the same.
func TestThereAndBack(t *testing.T) {
	c := rand.New(rand.NewPCG(12, 8))
	list := edgeFrames()
	for range 5000 {
		list = append(list, anyFrame(c))
	}
	for _, f := range list {
		b, code := frame.Put(f)
		if code != api.OK {
			t.Fatal(f, code)
		}
		isFirst(t, b, f, len(b))
		isAll(t, b, placed{0, f})
		var feed frame.Feed
		if l := feed.Push(b); len(l) != 1 || l[0] != f {
			t.Fatal(f, l)
		}
	}
}

// 12.5: a frame is written in one way alone: what is read of any bytes is written as just these.
func TestOneWay(t *testing.T) {
	c := rand.New(rand.NewPCG(12, 9))
	frames := 0
	for range 5000 {
		b := anyStream(c, 5)
		for at := range b {
			f, n, code := frame.First(b[at:])
			want, size, wantCode := told(b[at:])
			if f != want || n != size || code != wantCode {
				t.Fatalf("%x: %v, %d, %d, not %v, %d, %d", b[at:], f, n, code, want, size, wantCode)
			}
			if code != api.OK {
				continue
			}
			frames++
			if again, code := frame.Put(f); !bytes.Equal(again, b[at:at+n]) || code != api.OK {
				t.Fatalf("%v: %x, %d, not %x", f, again, code, b[at:at+n])
			}
		}
	}
	if frames < 5000 {
		t.Error("too few frames:", frames)
	}
}

// 12.5: what is written behind one another is told piece by piece as at once, and as All does, when nothing waits in the end.
func TestPieces(t *testing.T) {
	c := rand.New(rand.NewPCG(12, 10))
	for range 500 {
		var b []byte
		var list []api.Frame
		for range 1 + c.IntN(10) {
			f := anyFrame(c)
			one, code := frame.Put(f)
			if code != api.OK {
				t.Fatal(f, code)
			}
			list, b = append(list, f), append(b, one...)
		}
		var p pushed
		for rest := b; len(rest) > 0; {
			n := 1 + c.IntN(len(rest))
			p.push(t, rest[:n])
			rest = rest[n:]
		}
		var through []api.Frame
		for _, f := range frame.All(b) {
			through = append(through, f)
		}
		if !slices.Equal(p.l, list) || !slices.Equal(through, list) || p.feed.Lost() != 0 || p.feed.Waits() != 0 {
			t.Fatal(list, p.l, through, p.feed.Lost(), p.feed.Waits())
		}
	}
}

// The chapter's example: a radar's frame has 20 bytes.
func TestExample(t *testing.T) {
	if b, code := frame.Put(radar); len(b) != 20 || code != api.OK || frame.Size(api.FrameRadar) != 20 {
		t.Error(len(b), code)
	}
}
