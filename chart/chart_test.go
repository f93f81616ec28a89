package chart_test

import (
	"bytes"
	"encoding/binary"
	"hash/crc32"
	"math"
	"math/rand/v2"
	"reflect"
	"slices"
	"testing"

	"theodolite/api"
	"theodolite/bits"
	"theodolite/chart"
	"theodolite/rice"
	"theodolite/tile"
)

// sides is how many columns or rows maps of the tests have: the ends, and what is about a tile's end.
var sides = []int{2, 3, 15, 16, 17, 32, 33, 48, 100, 255, 256}

// noSides is how many columns or rows no map has.
var noSides = []int{math.MinInt, -256, -2, -1, 0, 1, 257, 258, 1 << 16, 1<<16 + 2, 1 << 32, 1<<32 + 2, math.MaxInt}

// noCells is how many metres no cell has.
var noCells = []int{math.MinInt, math.MinInt + 1, -1<<32 + 30, -1<<16 + 1, -1000, -1, 0, 1001, 1002, 1 << 16, 1<<16 + 1, 1 << 32, 1<<32 + 1, math.MaxInt}

// origins is where maps of the tests begin.
var origins = []int32{math.MinInt32, -65536, -100, -1, 0, 1, 200, 1 << 24, math.MaxInt32}

// anyHeight is a height that looks like any; often one of the ends, which api.Void is, too.
func anyHeight(c *rand.Rand) int16 {
	switch c.IntN(8) {
	case 0:
		return api.Void
	case 1:
		return math.MaxInt16
	}
	return int16(c.Uint32()) >> c.IntN(16)
}

// anyMap is a map that looks like any: of heights that are far apart, near to each other, or all the same.
func anyMap(c *rand.Rand, w, h int) api.Chart {
	m := api.Chart{F: api.Heights{W: w, H: h}, Cell: 1 + c.IntN(1000), OX: int32(c.Uint32()), OY: int32(c.Uint32())}
	kind, step := c.IntN(3), 1+c.IntN(30)
	for range w * h {
		switch kind {
		case 0:
			m.F.Z = append(m.F.Z, anyHeight(c))
		case 1:
			m.F.Z = append(m.F.Z, int16(c.IntN(step)-10))
		default:
			m.F.Z = append(m.F.Z, int16(step))
		}
	}
	return m
}

// example is the map of the chapter's example.
func example() api.Chart {
	m := api.Chart{F: api.Heights{W: 22, H: 5}, Cell: 30, OX: -100, OY: 200}
	for i := range 22 * 5 {
		m.F.Z = append(m.F.Z, int16(i*i%97))
	}
	return m
}

// raw is a map's bytes, told part by part, be it a map or not.
type raw struct {
	magic      uint32
	w, h, cell int
	ox, oy     int32
	at, sizes  []int
	tiles      []byte
}

// sum is a sum as bytes, told by the library's own.
func sum(b []byte) []byte { return binary.LittleEndian.AppendUint32(nil, crc32.ChecksumIEEE(b)) }

// bytes is what 9.2 writes of these parts, with the right sum of the header and the directory.
func (r raw) bytes() []byte {
	b := binary.LittleEndian.AppendUint32(nil, r.magic)
	for _, n := range []int{r.w, r.h, r.cell} {
		b = binary.LittleEndian.AppendUint16(b, uint16(n))
	}
	b = binary.LittleEndian.AppendUint32(b, uint32(r.ox))
	b = binary.LittleEndian.AppendUint32(b, uint32(r.oy))
	for i := range r.at {
		b = binary.LittleEndian.AppendUint32(b, uint32(r.at[i]))
		b = binary.LittleEndian.AppendUint16(b, uint16(r.sizes[i]))
	}
	return slices.Concat(b, sum(b), r.tiles)
}

// part is heights of a map, height by height: all that lie in a tile's columns and rows; and how many columns these are.
func part(f api.Heights, x, y int) ([]int16, int) {
	var z []int16
	cols := 0
	for i, height := range f.Z {
		if i%f.W/16 != x || i/f.W/16 != y {
			continue
		}
		z = append(z, height)
		cols = max(cols, i%f.W-16*x+1)
	}
	return z, cols
}

// cut is the heights of all tiles of a map, row by row, and the bytes of each.
func cut(f api.Heights) ([][]int16, [][]byte) {
	var all [][]int16
	var put [][]byte
	for y := 0; 16*y < f.H; y++ {
		for x := 0; 16*x < f.W; x++ {
			z, cols := part(f, x, y)
			b, _ := tile.Put(cols, len(z)/cols, z)
			all, put = append(all, z), append(put, b)
		}
	}
	return all, put
}

// lay is parts of a map's bytes, of which the tiles are these, each with its sum.
func lay(m api.Chart, tiles [][]byte) raw {
	r := raw{magic: 0x4d4e5254, w: m.F.W, h: m.F.H, cell: m.Cell, ox: m.OX, oy: m.OY}
	for _, b := range tiles {
		r.at = append(r.at, 18+6*len(tiles)+4+len(r.tiles))
		r.sizes = append(r.sizes, len(b)+4)
		r.tiles = slices.Concat(r.tiles, b, sum(b))
	}
	return r
}

// rawOf is a map as parts, told by 9.2, word by word.
func rawOf(m api.Chart) raw {
	_, tiles := cut(m.F)
	return lay(m, tiles)
}

// resum puts the right sum behind the header and the directory of bytes, as many as W and H in them tell.
func resum(b []byte) []byte {
	w, h := int(binary.LittleEndian.Uint16(b[4:])), int(binary.LittleEndian.Uint16(b[6:]))
	n := 18 + 6*((w+15)/16)*((h+15)/16)
	if n+4 > len(b) {
		return b
	}
	return slices.Concat(b[:n], sum(b[:n]), b[n+4:])
}

// without is a map without its heights.
func without(m api.Chart) api.Chart {
	m.F.Z = nil
	return m
}

// same tells whether two maps are the same, whatever an empty list is.
func same(a, b api.Chart) bool {
	return slices.Equal(a.F.Z, b.F.Z) && reflect.DeepEqual(without(a), without(b))
}

// isNoMap fails if bytes are opened, or got, or by another code; or if anything is told beside it (9.4).
func isNoMap(t *testing.T, b []byte, want api.Code) {
	t.Helper()
	if d, code := chart.Open(b); code != want || !isNoDir(d) {
		t.Errorf("Open: %v, %d, not %d", d, code, want)
	}
	isNotGot(t, b, want)
}

// isNotGot fails if bytes are got as a map, or refused by another code; or if anything is told beside it (9.4).
func isNotGot(t *testing.T, b []byte, want api.Code) {
	t.Helper()
	if m, code := chart.Get(b); code != want || !same(m, api.Chart{}) {
		t.Errorf("Get: %v, %d, not %d", m, code, want)
	}
}

// isNoDir tells whether nothing stands in a directory.
func isNoDir(d chart.Dir) bool {
	return same(d.C, api.Chart{}) && len(d.At) == 0 && len(d.Sizes) == 0
}

// isNoTile fails if the i-th tile is read, or refused by another code; or if anything is told beside it (9.4).
func isNoTile(t *testing.T, b []byte, d chart.Dir, i int, want api.Code) {
	t.Helper()
	if z, code := chart.Tile(b, d, i); code != want || len(z) != 0 {
		t.Errorf("tile %d: %v, %d, not %d", i, z, code, want)
	}
}

// opened is the directory of bytes that have one.
func opened(t *testing.T, b []byte) chart.Dir {
	t.Helper()
	d, code := chart.Open(b)
	if code != api.OK {
		t.Fatal(code)
	}
	return d
}

// put is a map as bytes, that has to be one.
func put(t *testing.T, m api.Chart) []byte {
	t.Helper()
	b, code := chart.Put(m)
	if code != api.OK {
		t.Fatal(code)
	}
	return b
}

// 9.1: the constants.
func TestConstants(t *testing.T) {
	if chart.Magic != 0x4d4e5254 || chart.Header != 18 || chart.Entry != 6 || chart.MaxCell != 1000 {
		t.Error(chart.Magic, chart.Header, chart.Entry, chart.MaxCell)
	}
}

// 9.1: maps of 2 to 256 columns and rows, of cells from 1 to 1000 metres, wherever they begin.
func TestCheck(t *testing.T) {
	for _, w := range sides {
		for _, h := range sides {
			f := api.Heights{W: w, H: h, Z: make([]int16, w*h)}
			for _, cell := range []int{1, 2, 30, 999, 1000} {
				for _, at := range origins {
					if code := chart.Check(api.Chart{F: f, Cell: cell, OX: at, OY: ^at}); code != api.OK {
						t.Error(w, h, cell, at, code)
					}
				}
			}
		}
	}
}

// isRefused fails if Check or Put of a map tell another code, or if anything is told beside it (9.1, 9.2, 9.4).
func isRefused(t *testing.T, m api.Chart, want api.Code) {
	t.Helper()
	if code := chart.Check(m); code != want {
		t.Error("Check:", m.F.W, m.F.H, len(m.F.Z), m.Cell, code, want)
	}
	if b, code := chart.Put(m); code != want || len(b) != 0 {
		t.Error("Put:", m.F.W, m.F.H, len(m.F.Z), m.Cell, b, code, want)
	}
}

// 9.1, 9.2 and R6: sides that no field has are told ahead of all else.
func TestCheckSides(t *testing.T) {
	for _, wrong := range noSides {
		for _, right := range sides {
			for _, n := range []int{0, right, 2 * right} {
				for _, cell := range []int{0, 1, 1000, 1001} {
					isRefused(t, api.Chart{F: api.Heights{W: wrong, H: right, Z: make([]int16, n)}, Cell: cell}, api.ErrRange)
					isRefused(t, api.Chart{F: api.Heights{W: right, H: wrong, Z: make([]int16, n)}, Cell: cell}, api.ErrRange)
				}
			}
		}
	}
	isRefused(t, api.Chart{}, api.ErrRange)
	isRefused(t, api.Chart{F: api.Heights{W: 1, H: 2, Z: make([]int16, 2)}, Cell: 1}, api.ErrRange)
	isRefused(t, api.Chart{F: api.Heights{W: 257, H: 2, Z: make([]int16, 514)}, Cell: 1}, api.ErrRange)
	isRefused(t, api.Chart{F: api.Heights{W: -2, H: -2, Z: make([]int16, 4)}, Cell: 1}, api.ErrRange)
}

// 9.1, 9.2 and R6: heights that are too few or too many, told ahead of a cell that is wrong; what room is behind them is not asked for.
func TestCheckSize(t *testing.T) {
	for _, w := range sides {
		for _, h := range sides {
			room := make([]int16, w*h+w)
			for _, n := range []int{0, 1, w*h - 1, w*h + 1, w*h + w} {
				for _, cell := range []int{-1, 0, 1, 1000, 1001} {
					isRefused(t, api.Chart{F: api.Heights{W: w, H: h, Z: room[:n]}, Cell: cell}, api.ErrSize)
				}
			}
		}
	}
}

// 9.1, 9.2: cells that are not from 1 to 1000 metres, be it that they would be so in fewer bits.
func TestCheckCell(t *testing.T) {
	for _, w := range sides {
		for _, cell := range noCells {
			isRefused(t, api.Chart{F: api.Heights{W: w, H: 2, Z: make([]int16, 2*w)}, Cell: cell}, api.ErrArg)
		}
	}
}

// 9.1: all tiles' places, row by row, in each row column by column, as the heights come that lie in them; and how long what stands ahead of them is.
func TestPlaces(t *testing.T) {
	for w := 2; w <= 256; w++ {
		for _, h := range sides {
			var want []tile.Place
			for y := 0; y < h; y += 16 {
				for x := 0; x < w; x += 16 {
					want = append(want, tile.Place{X: x / 16, Y: y / 16})
				}
			}
			if got := chart.Places(w, h); !slices.Equal(got, want) {
				t.Error(w, h, got, want)
			}
			if got := chart.Head(w, h); got != 18+6*len(want)+4 {
				t.Error(w, h, got)
			}
			turned := chart.Places(h, w)
			if len(turned) != len(want) || chart.Head(h, w) != 18+6*len(want)+4 {
				t.Error(h, w, turned)
			}
		}
	}
}

// 9.1: places and lengths that are told one by one.
func TestPlacesKnown(t *testing.T) {
	for _, c := range []struct {
		w, h, head int
		want       [][2]int
	}{
		{2, 2, 28, [][2]int{{0, 0}}},
		{16, 16, 28, [][2]int{{0, 0}}},
		{17, 16, 34, [][2]int{{0, 0}, {1, 0}}},
		{16, 17, 34, [][2]int{{0, 0}, {0, 1}}},
		{22, 5, 34, [][2]int{{0, 0}, {1, 0}}},
		{33, 32, 58, [][2]int{{0, 0}, {1, 0}, {2, 0}, {0, 1}, {1, 1}, {2, 1}}},
		{32, 33, 58, [][2]int{{0, 0}, {1, 0}, {0, 1}, {1, 1}, {0, 2}, {1, 2}}},
	} {
		var got [][2]int
		for _, p := range chart.Places(c.w, c.h) {
			got = append(got, [2]int{p.X, p.Y})
		}
		if !slices.Equal(got, c.want) {
			t.Error(c.w, c.h, got)
		}
		if got := chart.Head(c.w, c.h); got != c.head {
			t.Error(c.w, c.h, got)
		}
	}
	l := chart.Places(256, 256)
	if len(l) != 256 || l[255] != (tile.Place{X: 15, Y: 15}) || l[17] != (tile.Place{X: 1, Y: 1}) || chart.Head(256, 256) != 1558 {
		t.Error(l, chart.Head(256, 256))
	}
}

// 9.1 and R3: what is told is new memory.
func TestPlacesAreNew(t *testing.T) {
	one, two := chart.Places(40, 40), chart.Places(40, 40)
	one[0] = tile.Place{X: 9, Y: 9}
	one = append(one[:3], tile.Place{X: 9, Y: 9})
	if two[0] != (tile.Place{}) || two[3] != (tile.Place{X: 0, Y: 1}) || len(two) != 9 {
		t.Error(two)
	}
}

// R5: no field has tiles, and nothing stands ahead of them.
func TestPlacesOfNoField(t *testing.T) {
	for _, wrong := range noSides {
		for _, other := range []int{wrong, -1, 0, 2, 16, 256} {
			if len(chart.Places(wrong, other))+len(chart.Places(other, wrong)) != 0 {
				t.Error(wrong, other, chart.Places(wrong, other))
			}
			if chart.Head(wrong, other) != 0 || chart.Head(other, wrong) != 0 {
				t.Error(wrong, other, chart.Head(wrong, other))
			}
		}
	}
}

// 9.2: a map whose bytes are told one by one.
func TestPutKnown(t *testing.T) {
	m := api.Chart{F: api.Heights{W: 2, H: 3, Z: []int16{0, -1, 1, 6, 1, 1}}, Cell: 1000, OX: -2, OY: 0x01020304}
	// By the parameter 1: 0, -1, 1, 5, 0, 0 are folded to 0, 1, 2, 10, 0, 0.
	bitwise := []byte{0b00001_00_0, 0b1_100_1111, 0b100_00_00_0}
	head := []byte{
		0x54, 0x52, 0x4e, 0x4d, // Magic
		2, 0, 3, 0, 0xe8, 0x03,
		0xfe, 0xff, 0xff, 0xff,
		0x04, 0x03, 0x02, 0x01,
		28, 0, 0, 0, 7, 0, // the only tile
	}
	want := slices.Concat(head, sum(head), bitwise, sum(bitwise))
	if b, code := chart.Put(m); code != api.OK || !bytes.Equal(b, want) {
		t.Errorf("%x, not %x, %d", b, want, code)
	}
	if got, code := chart.Get(want); code != api.OK || !same(got, m) {
		t.Error(got, code)
	}
}

// 9.2: maps of all sides, as 9.2 tells it part by part.
func TestPut(t *testing.T) {
	c := rand.New(rand.NewPCG(9, 1))
	for _, w := range sides {
		for _, h := range sides {
			m := anyMap(c, w, h)
			kept := slices.Clone(m.F.Z)
			b, code := chart.Put(m)
			if want := rawOf(m).bytes(); code != api.OK || !bytes.Equal(b, want) {
				t.Fatal(w, h, code)
			}
			if !slices.Equal(m.F.Z, kept) {
				t.Fatal(w, h, "the heights have changed")
			}
		}
	}
}

// 9.2: where a map begins, and how many metres its cells have, there and back.
func TestPutEnds(t *testing.T) {
	for _, cell := range []int{1, 2, 255, 256, 999, 1000} {
		for _, ox := range origins {
			for _, oy := range origins {
				m := api.Chart{F: api.Heights{W: 2, H: 2, Z: []int16{1, 2, 3, 4}}, Cell: cell, OX: ox, OY: oy}
				b := put(t, m)
				if !bytes.Equal(b, rawOf(m).bytes()) {
					t.Errorf("%d, %d, %d: %x", cell, ox, oy, b)
				}
				if d := opened(t, b); !same(d.C, without(m)) {
					t.Error(d.C, m)
				}
				if got, code := chart.Get(b); code != api.OK || !same(got, m) {
					t.Error(got, code)
				}
			}
		}
	}
}

// 9.2: a number below 0 is 2^32 more, the lowest byte first.
func TestPutBelow(t *testing.T) {
	m := api.Chart{F: api.Heights{W: 2, H: 2, Z: make([]int16, 4)}, Cell: 1, OX: -1, OY: math.MinInt32}
	if b := put(t, m); !bytes.Equal(b[10:18], []byte{0xff, 0xff, 0xff, 0xff, 0, 0, 0, 0x80}) {
		t.Errorf("%x", b)
	}
}

// wild is the map of which the bytes are the most: each height is an end, and another one than all beside it.
func wild() api.Chart {
	m := api.Chart{F: api.Heights{W: 256, H: 256}, Cell: 1}
	for i := range 256 * 256 {
		height := int16(api.Void)
		if (i+i/256)%2 == 0 {
			height = math.MaxInt16
		}
		m.F.Z = append(m.F.Z, height)
	}
	return m
}

// 9.2: places and lengths that have more than one byte, and more than two.
func TestPutGreat(t *testing.T) {
	m := wild()
	b := put(t, m)
	if !bytes.Equal(b, rawOf(m).bytes()) {
		t.Fatal("the bytes are others")
	}
	d := opened(t, b)
	if d.At[255] < 1<<16 || d.Sizes[255] < 1<<8 || d.At[255]+d.Sizes[255] != len(b) {
		t.Error(d.At[255], d.Sizes[255], len(b))
	}
	if got, code := chart.Get(b); code != api.OK || !same(got, m) {
		t.Error(code)
	}
}

// 9.2 and R3: what is put is new memory, and nothing behind the heights is read.
func TestPutIsNew(t *testing.T) {
	m := example()
	want := put(t, m)
	m.F.Z = append(m.F.Z, 7, 7, 7)[:110]
	one, two := put(t, m), put(t, m)
	for i := range one {
		one[i] ^= 0xff
	}
	one = append(one, 9)
	if !bytes.Equal(two, want) || !same(m, example()) {
		t.Errorf("%x", two)
	}
	m.F.Z[0] = 5
	if !bytes.Equal(two, want) {
		t.Error("what was put has changed with the heights")
	}
}

// 9.3: the map without heights, and where each tile lies, of maps of all sides.
func TestOpen(t *testing.T) {
	c := rand.New(rand.NewPCG(9, 2))
	for _, w := range sides {
		for _, h := range sides {
			m := anyMap(c, w, h)
			r := rawOf(m)
			b := r.bytes()
			kept := slices.Clone(b)
			d, code := chart.Open(b)
			if code != api.OK || !same(d.C, without(m)) || len(d.C.F.Z) != 0 {
				t.Fatal(w, h, d.C, code)
			}
			if !slices.Equal(d.At, r.at) || !slices.Equal(d.Sizes, r.sizes) {
				t.Fatal(w, h, d.At, r.at, d.Sizes, r.sizes)
			}
			if !bytes.Equal(b, kept) {
				t.Fatal(w, h, "the bytes have changed")
			}
		}
	}
}

// 9.3 and R3: a directory is new memory, and stays as it is whatever becomes of the bytes.
func TestOpenIsNew(t *testing.T) {
	b := put(t, example())
	one, two := opened(t, b), opened(t, b)
	one.At[0], one.Sizes[0] = 1, 1
	one.At, one.Sizes = append(one.At[:1], 9), append(one.Sizes[:1], 9)
	clear(b)
	if r := rawOf(example()); !slices.Equal(two.At, r.at) || !slices.Equal(two.Sizes, r.sizes) {
		t.Error(two)
	}
}

// 9.3: fewer bytes than 18, whatever they are.
func TestOpenShort(t *testing.T) {
	b := put(t, example())
	isNoMap(t, nil, api.ErrSize)
	for n := range 18 {
		isNoMap(t, b[:n], api.ErrSize)
		isNoMap(t, make([]byte, n), api.ErrSize)
		isNoMap(t, bytes.Repeat([]byte{0xff}, n), api.ErrSize)
	}
}

// 9.3 and R6: bytes that do not begin with Magic, whatever else is wrong.
func TestOpenMagic(t *testing.T) {
	isNoMap(t, make([]byte, 18), api.ErrForm)
	isNoMap(t, bytes.Repeat([]byte{0xff}, 1000), api.ErrForm)
	for bit := range 32 {
		r := rawOf(example())
		r.magic ^= 1 << bit
		b := r.bytes()
		isNoMap(t, b, api.ErrForm)
		isNoMap(t, b[:18], api.ErrForm)
		isNoMap(t, append(b, 0), api.ErrForm)
		r.w, r.cell = 0, 0
		isNoMap(t, r.bytes(), api.ErrForm)
	}
	r := rawOf(example())
	r.magic = 0x54524e4d
	isNoMap(t, r.bytes(), api.ErrForm)
}

// 9.3 and R6: a W, H or Cell that no map has, ahead of how many bytes there are, and of their sum.
func TestOpenRange(t *testing.T) {
	wrong := func(change func(r *raw)) {
		t.Helper()
		r := rawOf(example())
		change(&r)
		b := r.bytes()
		isNoMap(t, b, api.ErrRange)
		isNoMap(t, b[:18], api.ErrRange)
		isNoMap(t, append(b, 0), api.ErrRange)
		isNoMap(t, resum(b), api.ErrRange)
		b[18] ^= 1
		isNoMap(t, b, api.ErrRange)
	}
	for _, n := range []int{0, 1, 257, 258, 512, 1 << 15, 1<<16 - 2, 1<<16 - 1} {
		wrong(func(r *raw) { r.w = n })
		wrong(func(r *raw) { r.h = n })
		wrong(func(r *raw) { r.w, r.h = n, n })
	}
	for _, n := range []int{0, 1001, 1024, 1 << 15, 1<<16 - 1} {
		wrong(func(r *raw) { r.cell = n })
	}
	// Below a tile there is no directory, so that its sum would stand behind 18 bytes.
	for _, r := range []raw{{w: 0, h: 5}, {w: 5, h: 0}, {w: 1, h: 1}} {
		r.magic, r.cell = 0x4d4e5254, 1
		isNoMap(t, r.bytes(), api.ErrRange)
	}
}

// 9.3: the ends of W, H and Cell are no reason to refuse.
func TestOpenEnds(t *testing.T) {
	for _, c := range [][3]int{{2, 2, 1}, {256, 2, 1000}, {2, 256, 1}, {256, 256, 1000}} {
		m := api.Chart{F: api.Heights{W: c[0], H: c[1], Z: make([]int16, c[0]*c[1])}, Cell: c[2]}
		if d := opened(t, rawOf(m).bytes()); !same(d.C, without(m)) {
			t.Error(d.C)
		}
	}
}

// 9.3: as many bytes as a header, and more, but fewer than what stands ahead of the tiles; what lies behind a length is not there (R3).
func TestOpenHead(t *testing.T) {
	for _, w := range []int{2, 16, 17, 256} {
		m := api.Chart{F: api.Heights{W: w, H: 40, Z: make([]int16, w*40)}, Cell: 1}
		b := put(t, m)
		for n := 18; n < chart.Head(w, 40); n++ {
			isNoMap(t, b[:n], api.ErrSize)
			isNoMap(t, slices.Clone(b[:n]), api.ErrSize)
		}
	}
}

// plainCode is 9.3's code of a header, told word by word, of bytes that are at least 18.
func plainCode(b []byte) api.Code {
	at := func(i int) int { return int(b[i]) + int(b[i+1])*256 }
	w, h, cell := at(4), at(6), at(8)
	head := 18 + 6*((w+15)/16)*((h+15)/16) + 4
	switch {
	case string(b[:4]) != "TRNM":
		return api.ErrForm
	case w < 2 || w > 256 || h < 2 || h > 256 || cell < 1 || cell > 1000:
		return api.ErrRange
	case len(b) < head:
		return api.ErrSize
	case !bytes.Equal(sum(b[:head-4]), b[head-4:head]):
		return api.ErrSum
	}
	return api.OK
}

// 9.3: a header, a directory, or their sum, of which a bit was turned; of a flat map, too, whose bytes are so few that a greater one would have a longer head.
func TestOpenSum(t *testing.T) {
	flat := api.Chart{F: api.Heights{W: 22, H: 5, Z: make([]int16, 110)}, Cell: 30}
	found := map[api.Code]int{}
	for _, m := range []api.Chart{example(), flat} {
		b := put(t, m)
		for i := range 8 * 34 {
			b[i/8] ^= 1 << (i % 8)
			want := plainCode(b)
			if want == api.OK || i >= 80 && want != api.ErrSum {
				t.Fatal(i, want)
			}
			isNoMap(t, b, want)
			found[want]++
			b[i/8] ^= 1 << (i % 8)
		}
	}
	if found[api.ErrForm] != 64 || found[api.ErrRange] == 0 || found[api.ErrSize] == 0 || found[api.ErrSum] < 384 {
		t.Error(found)
	}
}

// 9.3 and R6: a wrong sum is told ahead of places that are wrong, and of an end that is.
func TestOpenSumFirst(t *testing.T) {
	r := rawOf(example())
	r.at[1]++
	b := append(r.bytes(), 0)
	b[30] ^= 1
	isNoMap(t, b, api.ErrSum)
	b[30] ^= 1
	isNoMap(t, b, api.ErrRange)
	isNoMap(t, b[:34], api.ErrRange)
	isNoMap(t, b[:33], api.ErrSize)
}

// 9.3: a tile whose place is not where the one ahead of it ends, of the first one Head; told ahead of where the last one ends.
func TestOpenPlaces(t *testing.T) {
	m := anyMap(rand.New(rand.NewPCG(9, 3)), 40, 40)
	for i := range 9 {
		for _, off := range []int{-1 << 31, -65536, -256, -18, -1, 1, 2, 4, 256, 65536, 1 << 24, 1 << 31} {
			r := rawOf(m)
			r.at[i] += off
			isNoMap(t, r.bytes(), api.ErrRange)
			isNoMap(t, append(r.bytes(), 0), api.ErrRange)
		}
		if i == 8 {
			break
		}
		for _, off := range []int{-4, -1, 1, 2, 256} {
			r := rawOf(m)
			r.sizes[i] += off
			isNoMap(t, r.bytes(), api.ErrRange)
			isNoMap(t, append(r.bytes(), 0), api.ErrRange)
		}
	}
}

// 9.3: tiles that all lie elsewhere by as much, so that they fit each other alone; and tiles of which two are in each other's places.
func TestOpenPlacesElsewhere(t *testing.T) {
	r := rawOf(example())
	r.at[0]++
	r.at[1]++
	r.tiles = slices.Concat([]byte{0}, r.tiles)
	isNoMap(t, r.bytes(), api.ErrRange)
	r = rawOf(example())
	r.at[0], r.at[1] = r.at[1], r.at[0]
	r.sizes[0], r.sizes[1] = r.sizes[1], r.sizes[0]
	isNoMap(t, r.bytes(), api.ErrRange)
	r = rawOf(example())
	r.at[1], r.sizes[1] = r.at[0], r.sizes[0]
	isNoMap(t, r.bytes(), api.ErrRange)
	r = rawOf(example())
	r.at[0], r.at[1] = 0, r.sizes[0]
	isNoMap(t, r.bytes(), api.ErrRange)
}

// 9.3: a last tile that does not end with the bytes.
func TestOpenEnd(t *testing.T) {
	for _, m := range []api.Chart{example(), anyMap(rand.New(rand.NewPCG(9, 4)), 7, 9), anyMap(rand.New(rand.NewPCG(9, 5)), 40, 40)} {
		b := put(t, m)
		for n := chart.Head(m.F.W, m.F.H); n < len(b); n++ {
			isNoMap(t, b[:n], api.ErrSize)
		}
		isNoMap(t, append(slices.Clone(b), 0), api.ErrSize)
		isNoMap(t, append(slices.Clone(b), b...), api.ErrSize)
		r := rawOf(m)
		last := len(r.sizes) - 1
		for _, off := range []int{-r.sizes[last], -4, -1, 1, 256} {
			r = rawOf(m)
			r.sizes[last] += off
			isNoMap(t, r.bytes(), api.ErrSize)
		}
	}
}

// 9.3: all tiles of a map, the first and the last one among them, are its heights.
func TestTile(t *testing.T) {
	c := rand.New(rand.NewPCG(9, 6))
	for _, w := range sides {
		for _, h := range sides {
			m := anyMap(c, w, h)
			want, _ := cut(m.F)
			b := put(t, m)
			kept := slices.Clone(b)
			d := opened(t, b)
			for i := range want {
				if z, code := chart.Tile(b, d, i); code != api.OK || !slices.Equal(z, want[i]) {
					t.Fatal(w, h, i, z, code)
				}
			}
			if !bytes.Equal(b, kept) {
				t.Fatal(w, h, "the bytes have changed")
			}
		}
	}
}

// 9.3 and R3: a tile is new memory, and neither bytes nor directory are changed.
func TestTileIsNew(t *testing.T) {
	b := put(t, example())
	d := opened(t, b)
	want, _ := cut(example().F)
	one, _ := chart.Tile(b, d, 1)
	two, _ := chart.Tile(b, d, 1)
	one[3] = 999
	one = append(one, 9)
	if r := rawOf(example()); !slices.Equal(d.At, r.at) || !slices.Equal(d.Sizes, r.sizes) || !bytes.Equal(b, r.bytes()) {
		t.Error(d, b)
	}
	clear(b)
	if !slices.Equal(two, want[1]) {
		t.Error(two)
	}
}

// 9.3: a tile below 0, and beyond the last one.
func TestTileNone(t *testing.T) {
	for _, m := range []api.Chart{example(), anyMap(rand.New(rand.NewPCG(9, 7)), 16, 16), anyMap(rand.New(rand.NewPCG(9, 8)), 33, 256)} {
		b := put(t, m)
		d := opened(t, b)
		n := len(d.At)
		for _, i := range []int{math.MinInt, -n - 1, -n, -2, -1, n, n + 1, 2 * n, 256, 1 << 32, math.MaxInt} {
			isNoTile(t, b, d, i, api.ErrNone)
			isNoTile(t, nil, d, i, api.ErrNone)
		}
	}
}

// 9.3: a tile of which a bit was turned is told to be so, by itself; the others stay as they are, and the map is none.
func TestTileSum(t *testing.T) {
	m := anyMap(rand.New(rand.NewPCG(9, 9)), 33, 20)
	want, _ := cut(m.F)
	b := put(t, m)
	d := opened(t, b)
	for i := range want {
		for bit := range 8 * d.Sizes[i] {
			at := d.At[i] + bit/8
			b[at] ^= 1 << (bit % 8)
			if d, code := chart.Open(b); code != api.OK || len(d.At) != len(want) {
				t.Fatal("Open reads tiles:", code)
			}
			isNoTile(t, b, d, i, api.ErrSum)
			other := (i + 1 + bit%(len(want)-1)) % len(want)
			if z, code := chart.Tile(b, d, other); code != api.OK || !slices.Equal(z, want[other]) {
				t.Fatal(i, other, z, code)
			}
			if bit%61 == 0 {
				isNotGot(t, b, api.ErrSum)
			}
			b[at] ^= 1 << (bit % 8)
		}
	}
}

// 9.3: a tile that is shorter than a sum has none.
func TestTileShort(t *testing.T) {
	_, tiles := cut(example().F)
	for size := range 4 {
		r := lay(example(), tiles)
		r.tiles = append(r.tiles[:r.sizes[0]], make([]byte, size)...)
		r.sizes[1] = size
		b := r.bytes()
		isNoTile(t, b, opened(t, b), 1, api.ErrSum)
		isNotGot(t, b, api.ErrSum)
	}
	// The sum of nothing is 0.
	b := lay(example(), [][]byte{tiles[0], nil}).bytes()
	isNoTile(t, b, opened(t, b), 1, api.ErrForm)
	isNotGot(t, b, api.ErrForm)
}

// row is numbers as a rice.Row, with noughts at the end of the last byte.
func row(l ...int32) []byte {
	var w bits.Writer
	rice.Row(&w, l)
	return w.Bytes()
}

// 9.3: tiles with their right sums that are not what a tile's bytes are: tile.Get's code.
func TestTileCode(t *testing.T) {
	_, tiles := cut(example().F)
	high := make([]int32, 30)
	high[29] = 32768
	for _, c := range []struct {
		b    []byte
		want api.Code
	}{
		{nil, api.ErrForm},
		{[]byte{0}, api.ErrForm},
		{[]byte{0xff, 0xff, 0xff, 0xff, 0xff, 0xff}, api.ErrForm},
		{tiles[0], api.ErrForm},
		{append(slices.Clone(tiles[1]), 0), api.ErrForm},
		{tiles[1][:len(tiles[1])-1], api.ErrForm},
		{row(make([]int32, 24)...), api.ErrForm},
		{row(make([]int32, 40)...), api.ErrForm},
		{row(high...), api.ErrRange},
		{row(append([]int32{32767, 1}, make([]int32, 28)...)...), api.ErrRange},
	} {
		b := lay(example(), [][]byte{tiles[0], c.b}).bytes()
		d := opened(t, b)
		isNoTile(t, b, d, 1, c.want)
		isNotGot(t, b, c.want)
		if z, code := chart.Tile(b, d, 0); code != api.OK || len(z) != 80 {
			t.Error(z, code)
		}
	}
}

// 9.3: each tile is read by the columns and rows that it has; one of 6 by 5 is not one of 5 by 6, but as far as its numbers are as many.
func TestTileBox(t *testing.T) {
	flat := row(make([]int32, 30)...)
	b := lay(example(), [][]byte{row(make([]int32, 80)...), flat}).bytes()
	if z, code := chart.Tile(b, opened(t, b), 1); code != api.OK || !slices.Equal(z, make([]int16, 30)) {
		t.Error(z, code)
	}
	steps := make([]int32, 30)
	for i := range steps {
		steps[i] = int32(i + 1)
	}
	b = lay(example(), [][]byte{row(make([]int32, 80)...), row(steps...)}).bytes()
	want := []int16{1, 3, 6, 10, 15, 21, 8, 16, 25, 35, 46, 58, 21, 35}
	if z, code := chart.Tile(b, opened(t, b), 1); code != api.OK || !slices.Equal(z[:14], want) {
		t.Error(z, code)
	}
	m, code := chart.Get(b)
	if code != api.OK || m.F.Z[16] != 1 || m.F.Z[21] != 21 || m.F.Z[22+16] != 8 || m.F.Z[15] != 0 {
		t.Error(m, code)
	}
}

// 9.3 and R6: of tiles that are none the first one's code is told.
func TestGetFirst(t *testing.T) {
	m := anyMap(rand.New(rand.NewPCG(9, 10)), 17, 17)
	_, tiles := cut(m.F)
	far := row(append([]int32{-32768, -1}, make([]int32, 14)...)...)
	for _, c := range []struct {
		form, outer, sum int
		want             api.Code
	}{
		{0, 1, 2, api.ErrForm}, {0, 2, 1, api.ErrForm}, {1, 2, 0, api.ErrSum}, {2, 1, 0, api.ErrSum}, {2, 1, 3, api.ErrRange}, {3, 1, 2, api.ErrRange},
		{3, 2, 1, api.ErrSum}, {1, 2, 3, api.ErrForm},
	} {
		l := slices.Clone(tiles)
		l[c.outer], l[c.form] = far, []byte{0xff}
		r := lay(m, l)
		r.tiles[r.at[c.sum]-r.at[0]] ^= 1
		b := r.bytes()
		isNotGot(t, b, c.want)
		isNoTile(t, b, opened(t, b), c.sum, api.ErrSum)
		isNoTile(t, b, opened(t, b), c.form, api.ErrForm)
		isNoTile(t, b, opened(t, b), c.outer, api.ErrRange)
	}
}

// 9.3 and R3: a map that is got is new memory, and neither read from behind the bytes, nor changed with them.
func TestGetIsNew(t *testing.T) {
	room := append(put(t, example()), 1, 2, 3)
	b := room[:len(room)-3]
	kept := slices.Clone(room)
	one, _ := chart.Get(b)
	two, code := chart.Get(b)
	one.F.Z[0] = 999
	one.F.Z = append(one.F.Z, 9)
	if code != api.OK || !bytes.Equal(room, kept) {
		t.Error(code, room)
	}
	clear(room)
	if !same(two, example()) {
		t.Error(two)
	}
}

// A call ends, and does not panic, for a directory that Open did not tell of these bytes.
func TestTileOfOtherDir(t *testing.T) {
	b := put(t, example())
	d := opened(t, b)
	isNoTile(t, b, chart.Dir{}, 0, api.ErrNone)
	isNoTile(t, b, chart.Dir{C: d.C}, 0, api.ErrNone)
	isNoTile(t, b, chart.Dir{C: d.C, At: d.At}, 0, api.ErrNone)
	isNoTile(t, b, chart.Dir{C: d.C, Sizes: d.Sizes}, 0, api.ErrNone)
	isNoTile(t, b, chart.Dir{At: d.At, Sizes: d.Sizes}, 0, api.ErrNone)
	isNoTile(t, b, chart.Dir{C: d.C, At: make([]int, 5), Sizes: make([]int, 5)}, 2, api.ErrNone)
	isNoTile(t, nil, d, 0, api.ErrSum)
	isNoTile(t, b[:d.At[1]+3], d, 1, api.ErrSum)
	far := []int{math.MinInt, -1, 0, 1, len(b) - 1, len(b), len(b) + 1, 1 << 32, math.MaxInt}
	for _, at := range far {
		for _, size := range far {
			isNoTile(t, b, chart.Dir{C: d.C, At: []int{at, at}, Sizes: []int{size, size}}, 1, api.ErrSum)
		}
	}
	for _, w := range noSides {
		other := d
		other.C.F.W = w
		isNoTile(t, b, other, 0, api.ErrNone)
	}
}

// 9.5: maps of all sides are the same, there and back, and in one way alone.
func TestThereAndBack(t *testing.T) {
	c := rand.New(rand.NewPCG(9, 11))
	for _, w := range sides {
		for _, h := range sides {
			m := anyMap(c, w, h)
			b := put(t, m)
			got, code := chart.Get(b)
			if code != api.OK || !same(got, m) {
				t.Fatal(w, h, code)
			}
			if again := put(t, got); !bytes.Equal(again, b) {
				t.Fatal(w, h, "other bytes")
			}
		}
	}
}

// isMapOrNone fails if bytes are neither a map, in one way alone, nor told why not; it tells the code.
func isMapOrNone(t *testing.T, b []byte) api.Code {
	t.Helper()
	m, code := chart.Get(b)
	if code != api.OK {
		if !same(m, api.Chart{}) {
			t.Fatal(m, code)
		}
		return code
	}
	if chart.Check(m) != api.OK || !bytes.Equal(put(t, m), b) {
		t.Fatal(m, b)
	}
	return code
}

// 9.5: any bytes are a map, or are told why not, by one of the codes that 9.3 names.
func TestAnyBytes(t *testing.T) {
	c := rand.New(rand.NewPCG(9, 12))
	found := map[api.Code]int{}
	for range 4000 {
		b := rawOf(anyMap(c, 2+c.IntN(20), 2+c.IntN(20))).bytes()
		for range 1 + c.IntN(3) {
			switch c.IntN(5) {
			case 0:
				b = b[:c.IntN(len(b)+1)]
			case 1:
				b = append(b, byte(c.Uint32()))
			case 2, 3:
				if len(b) > 0 {
					b[c.IntN(len(b))] = byte(c.Uint32())
				}
			}
		}
		if c.IntN(2) == 0 && len(b) >= 18 {
			b = resum(b)
		}
		found[isMapOrNone(t, b)]++
	}
	for _, code := range []api.Code{api.OK, api.ErrRange, api.ErrForm, api.ErrSum, api.ErrSize} {
		if found[code] == 0 {
			t.Error("never told:", code)
		}
		delete(found, code)
	}
	if len(found) != 0 {
		t.Error("other codes:", found)
	}
}

// 9.5: bytes of which a bit is another one are no map; with right sums some are another map, in one way alone.
func TestOneWay(t *testing.T) {
	m := api.Chart{F: api.Heights{W: 17, H: 3}, Cell: 30, OX: -7, OY: 9}
	for i := range 51 {
		m.F.Z = append(m.F.Z, int16(i*i%13))
	}
	b := put(t, m)
	d := opened(t, b)
	found := 0
	for i := range 8 * len(b) {
		b[i/8] ^= 1 << (i % 8)
		if code := isMapOrNone(t, b); code == api.OK {
			t.Fatal("still a map:", i)
		}
		right := resum(b)
		for k := range d.At {
			end := d.At[k] + d.Sizes[k] - 4
			copy(right[end:], sum(right[d.At[k]:end]))
		}
		if isMapOrNone(t, right) == api.OK {
			found++
		}
		b[i/8] ^= 1 << (i % 8)
	}
	if found < 64 {
		t.Error("few were maps:", found)
	}
}

// 9.5: at the first bytes of a map there is none yet, whatever room is behind them.
func TestPieces(t *testing.T) {
	b := put(t, example())
	for n := range b {
		if isMapOrNone(t, b[:n]) != api.ErrSize {
			t.Error(n)
		}
	}
	if code := isMapOrNone(t, b); code != api.OK {
		t.Error(code)
	}
}

// Example 1: a map of 22 columns and 5 rows has two tiles; they begin behind 34 bytes.
func TestExample(t *testing.T) {
	b := put(t, example())
	d := opened(t, b)
	if len(d.At) != 2 || len(d.Sizes) != 2 || d.At[0] != 34 || d.At[1] != 34+d.Sizes[0] || d.At[1]+d.Sizes[1] != len(b) {
		t.Error(d)
	}
	if chart.Head(22, 5) != 34 || len(chart.Places(22, 5)) != 2 {
		t.Error(chart.Head(22, 5), chart.Places(22, 5))
	}
	if z, code := chart.Tile(b, d, 0); code != api.OK || len(z) != 80 || z[16] != example().F.Z[22] {
		t.Error(z, code)
	}
	if z, code := chart.Tile(b, d, 1); code != api.OK || len(z) != 30 || z[0] != example().F.Z[16] || z[29] != example().F.Z[109] {
		t.Error(z, code)
	}
}
