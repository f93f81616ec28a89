package cache_test

import (
	"bytes"
	"math"
	"math/rand/v2"
	"reflect"
	"slices"
	"testing"

	"theodolite/api"
	"theodolite/bits"
	"theodolite/cache"
	"theodolite/chart"
	"theodolite/crc"
	"theodolite/rice"
	"theodolite/tile"
)

// sides is how many columns or rows maps of the tests have: the ends, and what is about a tile's end.
var sides = []int{2, 3, 15, 16, 17, 31, 32, 33, 48, 100, 255, 256}

// rooms is how many tiles caches of the tests have room for.
var rooms = []int{4, 5, 8, 16, 31, 32}

// noRooms is how many tiles no cache has room for.
var noRooms = []int{
	math.MinInt, -1<<32 + 4, -256 + 4, -33, -32, -5, -4, -3, -1, 0, 1, 2, 3,
	33, 34, 36, 64, 256, 256 + 4, 1<<16 + 4, 1<<32 + 4, 1<<32 + 32, math.MaxInt,
}

// anyMap is a map of which one height in eight is missing, and each other one may be any, the ends among them.
func anyMap(c *rand.Rand, w, h int) api.Chart {
	m := api.Chart{F: api.Heights{W: w, H: h}, Cell: 1 + c.IntN(1000), OX: int32(c.Uint32()), OY: int32(c.Uint32())}
	for range w * h {
		z := int16(c.Uint32()) >> c.IntN(16)
		switch c.IntN(8) {
		case 0:
			z = api.Void
		case 1:
			z = math.MaxInt16
		case 2:
			z = -32767
		}
		m.F.Z = append(m.F.Z, z)
	}
	return m
}

// slope is a map of which no two heights of a tile are the same, and none is missing.
func slope(w, h int) api.Chart {
	m := api.Chart{F: api.Heights{W: w, H: h}, Cell: 30, OX: -100, OY: 200}
	for i := range w * h {
		m.F.Z = append(m.F.Z, int16(i%65535-32767))
	}
	return m
}

// put is a map as bytes.
func put(t *testing.T, m api.Chart) []byte {
	t.Helper()
	b, code := chart.Put(m)
	if code != api.OK {
		t.Fatal(code)
	}
	return b
}

// made is a cache over bytes that are a map.
func made(t *testing.T, b []byte, room int) *cache.Cache {
	t.Helper()
	c, code := cache.New(b, room)
	if code != api.OK || c == nil {
		t.Fatal(c, code)
	}
	return c
}

// isNew fails if a cache is not as one is of which no tile was used.
func isNew(t *testing.T, c *cache.Cache) {
	t.Helper()
	if l := c.Held(); len(l) != 0 {
		t.Error(l)
	}
	if met, missed := c.Met(); met != 0 || missed != 0 {
		t.Error(met, missed)
	}
}

// isNone fails if a cache is made, or refused by another code.
func isNone(t *testing.T, b []byte, room int, want api.Code) {
	t.Helper()
	if c, code := cache.New(b, room); c != nil || code != want {
		t.Errorf("%d bytes, room for %d: %v, %d, not %d", len(b), room, c, code, want)
	}
}

// model is a cache told otherwise: all uses are kept, and what is at hand is worked out of them anew.
type model struct {
	m           api.Chart
	room        int
	used        []int
	met, missed int
}

// place is a tile's place in the directory: how many whole rows of tiles lie ahead of it, and how many tiles of its own row.
func (o *model) place(x, y int) int {
	n := 0
	for top := 0; top+16 <= y; top += 16 {
		for left := 0; left < o.m.F.W; left += 16 {
			n++
		}
	}
	for left := 0; left+16 <= x; left += 16 {
		n++
	}
	return n
}

// held is the last tiles that were used, each of them once, as many as there is room for.
func (o *model) held() []int {
	var l []int
	for i := len(o.used) - 1; i >= 0 && len(l) < o.room; i-- {
		if !slices.Contains(l, o.used[i]) {
			l = append(l, o.used[i])
		}
	}
	return l
}

// use is a use of the tile of a column and a row.
func (o *model) use(x, y int) {
	place := o.place(x, y)
	if slices.Contains(o.held(), place) {
		o.met++
	} else {
		o.missed++
	}
	o.used = append(o.used, place)
}

// height is what 10.3 tells of a column and a row.
func (o *model) height(x, y int) (int16, api.Code) {
	f := o.m.F
	if x < 0 || y < 0 || x >= f.W || y >= f.H {
		return 0, api.ErrOff
	}
	o.use(x, y)
	if f.Z[y*f.W+x] == -32768 {
		return 0, api.ErrVoid
	}
	return f.Z[y*f.W+x], api.OK
}

// isHeight fails if a height is told otherwise than by the model, or if other tiles are at hand behind it.
func isHeight(t *testing.T, c *cache.Cache, o *model, x, y int) {
	t.Helper()
	want, wantCode := o.height(x, y)
	if z, code := c.Height(x, y); z != want || code != wantCode {
		t.Fatalf("%d, %d of %d by %d: %d, %d, not %d, %d", x, y, o.m.F.W, o.m.F.H, z, code, want, wantCode)
	}
	if l := c.Held(); !slices.Equal(l, o.held()) {
		t.Fatal("room for", o.room, "used:", o.used, "held:", l, "not", o.held())
	}
	if met, missed := c.Met(); met != o.met || missed != o.missed {
		t.Fatal("room for", o.room, "used:", o.used, "met:", met, missed, "not", o.met, o.missed)
	}
}

// 10.1: the constants.
func TestConstants(t *testing.T) {
	if cache.MinRoom != 4 || cache.MaxRoom != 32 {
		t.Error(cache.MinRoom, cache.MaxRoom)
	}
}

// 10.1: each room from 4 to 32, whether the map has fewer tiles or more.
func TestRoom(t *testing.T) {
	for _, m := range []api.Chart{slope(2, 2), slope(40, 40), slope(256, 256)} {
		b := put(t, m)
		for room := 4; room <= 32; room++ {
			isNew(t, made(t, b, room))
		}
	}
}

// 10.1: a room that is not from 4 to 32.
func TestNoRoom(t *testing.T) {
	for _, m := range []api.Chart{slope(2, 2), slope(40, 40), slope(256, 256)} {
		b := put(t, m)
		for _, room := range noRooms {
			isNone(t, b, room, api.ErrLimit)
		}
	}
}

// sealed is a map's bytes of these tiles, each sum being right, be they a map or not.
func sealed(t *testing.T, m api.Chart, tiles ...[]byte) []byte {
	t.Helper()
	head := put(t, m)[:18]
	at := chart.Head(m.F.W, m.F.H)
	var all []byte
	for _, b := range tiles {
		one := crc.Put(b)
		head = bits.Put(bits.Put(head, uint64(at+len(all)), 4), uint64(len(one)), 2)
		all = append(all, one...)
	}
	return append(crc.Put(head), all...)
}

// row is numbers as a rice.Row, in whole bytes.
func row(l ...int32) []byte {
	var w bits.Writer
	rice.Row(&w, l)
	return w.Bytes()
}

// turned is bytes of which one is another one.
func turned(b []byte, at int) []byte {
	b = slices.Clone(b)
	b[at] ^= 1
	return b
}

// withNumber is a map's bytes with another number in two of its header's bytes, the sum being right.
func withNumber(b []byte, at, n, head int) []byte {
	b = slices.Clone(b)
	b[at], b[at+1] = byte(n), byte(n>>8)
	copy(b, crc.Put(b[:head-4]))
	return b
}

// noMap is bytes that are no map, and why not.
type noMap struct {
	b    []byte
	code api.Code
}

// noMaps is bytes that are no map, by each code that chart.Get tells, told by 9.3.
func noMaps(t *testing.T) []noMap {
	t.Helper()
	small, great := slope(2, 2), slope(18, 2)
	one, two := put(t, small), put(t, great)
	flat, long := row(make([]int32, 32)...), row(make([]int32, 4)...)
	high, wrong := row(32767, 1, 0, 0), append(slices.Clone(long), 0)
	return []noMap{
		{nil, api.ErrSize},
		{[]byte{0x54, 0x52, 0x4e, 0x4d}, api.ErrSize},
		{one[:17], api.ErrSize},
		{one[:27], api.ErrSize},
		{make([]byte, 18), api.ErrForm},
		{turned(one, 0), api.ErrForm},
		{withNumber(one, 4, 1, 28), api.ErrRange},
		{withNumber(one, 6, 257, 28), api.ErrRange},
		{withNumber(one, 8, 0, 28), api.ErrRange},
		{withNumber(one, 8, 1001, 28), api.ErrRange},
		{turned(one, 10), api.ErrSum},
		{turned(one, 27), api.ErrSum},
		{withNumber(one, 18, 29, 28), api.ErrRange},
		{withNumber(two, 24, 35, 34), api.ErrRange},
		{one[:len(one)-1], api.ErrSize},
		{append(slices.Clone(one), 0), api.ErrSize},
		{turned(one, 28), api.ErrSum},
		{turned(one, len(one)-1), api.ErrSum},
		{turned(two, len(two)-1), api.ErrSum},
		{sealed(t, small, nil), api.ErrForm},
		{sealed(t, small, wrong), api.ErrForm},
		{sealed(t, great, flat, wrong), api.ErrForm},
		{sealed(t, small, high), api.ErrRange},
		{sealed(t, great, flat, high), api.ErrRange},
		{sealed(t, great, wrong, high), api.ErrForm},
	}
}

// 10.1: bytes that are no map, by each code that chart.Get tells; and R6: a room that may not be is told ahead of that.
func TestNoMap(t *testing.T) {
	found := map[api.Code]int{}
	for i, n := range noMaps(t) {
		if _, code := chart.Get(n.b); code != n.code {
			t.Error(i, "is not refused as it should be:", code, n.code)
		}
		found[n.code]++
		for room := 4; room <= 32; room++ {
			isNone(t, n.b, room, n.code)
		}
		for _, room := range noRooms {
			isNone(t, n.b, room, api.ErrLimit)
		}
	}
	if len(found) != 4 {
		t.Error("not all codes were told:", found)
	}
	// The same bytes, as a map.
	m := slope(18, 2)
	b := sealed(t, m, row(make([]int32, 32)...), row(make([]int32, 4)...))
	m.F.Z = make([]int16, 36)
	if !bytes.Equal(b, put(t, m)) {
		t.Error("bytes of the tests are not as those of maps")
	}
	isNew(t, made(t, b, 4))
}

// 10.1: bytes of maps that were cut off, or of which a bit was turned, are refused as chart.Get does.
func TestNewIsGet(t *testing.T) {
	for _, m := range []api.Chart{slope(2, 2), slope(17, 3), anyMap(rand.New(rand.NewPCG(10, 1)), 3, 17)} {
		b := put(t, m)
		for n := range b {
			_, want := chart.Get(b[:n])
			isNone(t, b[:n], 4, want)
		}
		for i := range 8 * len(b) {
			b[i/8] ^= 1 << (i % 8)
			_, want := chart.Get(b)
			if want == api.OK {
				t.Fatal("a bit was turned, and it is a map still")
			}
			isNone(t, b, 32, want)
			isNone(t, b, 3, api.ErrLimit)
			b[i/8] ^= 1 << (i % 8)
		}
	}
}

// 10.1: Chart is the map without heights, ahead of uses and behind them.
func TestChart(t *testing.T) {
	c := rand.New(rand.NewPCG(10, 2))
	for _, w := range sides {
		for _, h := range sides {
			m := anyMap(c, w, h)
			x := made(t, put(t, m), 4)
			for range 2 {
				got := x.Chart()
				if got.F.W != w || got.F.H != h || len(got.F.Z) != 0 || got.Cell != m.Cell || got.OX != m.OX || got.OY != m.OY {
					t.Fatal(got, w, h, m.Cell, m.OX, m.OY)
				}
				isNoUse(t, x, w-1, h-1)
			}
		}
	}
}

// isNoUse fails if Held, Met or Chart count as a use, behind one of a height.
func isNoUse(t *testing.T, c *cache.Cache, x, y int) {
	t.Helper()
	c.Height(x, y)
	l := c.Held()
	met, missed := c.Met()
	c.Chart()
	if again := c.Held(); !slices.Equal(again, l) || len(l) != 1 {
		t.Error(l, again)
	}
	if a, b := c.Met(); a != met || b != missed || missed != 1 {
		t.Error(met, missed, a, b)
	}
}

// 10.1: the ends of how many metres a cell has, and of where a map begins.
func TestChartEnds(t *testing.T) {
	for _, m := range []api.Chart{
		{Cell: 1, OX: math.MinInt32, OY: math.MaxInt32}, {Cell: 1000, OX: math.MaxInt32, OY: math.MinInt32}, {Cell: 256, OX: -1, OY: 0},
	} {
		m.F = api.Heights{W: 2, H: 2, Z: []int16{1, 2, 3, 4}}
		x := made(t, put(t, m), 4)
		m.F.Z = nil
		if got := x.Chart(); len(got.F.Z) != 0 || got.F.W != 2 || got.F.H != 2 || got.Cell != m.Cell || got.OX != m.OX || got.OY != m.OY {
			t.Error(got, m)
		}
	}
}

// at is a column and a row of a tile's own, the first ones.
func at(f api.Heights, place int) (int, int) {
	across := (f.W + 15) / 16
	return place % across * 16, place / across * 16
}

// 10.1, 10.2: uses that are told one by one, of nine tiles, four of them at hand.
func TestUsesKnown(t *testing.T) {
	m := slope(40, 40)
	x := made(t, put(t, m), 4)
	for _, s := range []struct {
		place       int
		held        []int
		met, missed int
	}{
		{4, []int{4}, 0, 1},
		{4, []int{4}, 1, 1},
		{0, []int{0, 4}, 1, 2},
		{8, []int{8, 0, 4}, 1, 3},
		{4, []int{4, 8, 0}, 2, 3},
		{2, []int{2, 4, 8, 0}, 2, 4},
		{6, []int{6, 2, 4, 8}, 2, 5},
		{8, []int{8, 6, 2, 4}, 3, 5},
		{0, []int{0, 8, 6, 2}, 3, 6},
		{0, []int{0, 8, 6, 2}, 4, 6},
		{6, []int{6, 0, 8, 2}, 5, 6},
		{4, []int{4, 6, 0, 8}, 5, 7},
		{2, []int{2, 4, 6, 0}, 5, 8},
		{1, []int{1, 2, 4, 6}, 5, 9},
		{3, []int{3, 1, 2, 4}, 5, 10},
		{5, []int{5, 3, 1, 2}, 5, 11},
		{7, []int{7, 5, 3, 1}, 5, 12},
		{1, []int{1, 7, 5, 3}, 6, 12},
	} {
		a, b := at(m.F, s.place)
		if z, code := x.Height(a, b); z != m.F.Z[b*40+a] || code != api.OK {
			t.Fatal(s.place, z, code)
		}
		met, missed := x.Met()
		if l := x.Held(); !slices.Equal(l, s.held) || met != s.met || missed != s.missed {
			t.Fatal(s, l, met, missed)
		}
	}
}

// 10.2: of as many tiles as there is room, used in turn, all are met from the second round on; of one more, none ever is.
func TestRounds(t *testing.T) {
	m := slope(256, 256)
	b := put(t, m)
	for room := 4; room <= 32; room++ {
		for more := range 3 {
			x, o := made(t, b, room), &model{m: m, room: room}
			n := room + more
			for i := range 4 * n {
				c, r := at(m.F, i%n*7)
				isHeight(t, x, o, c, r)
			}
			met, missed := x.Met()
			switch {
			case more == 0 && (met != 3*n || missed != n):
				t.Error(room, met, missed)
			case more > 0 && (met != 0 || missed != 4*n):
				t.Error(room, more, met, missed)
			}
		}
	}
}

// 10.2: maps of one tile, of fewer tiles than there is room, of just as many, of one more, and of 256.
func TestUses(t *testing.T) {
	c := rand.New(rand.NewPCG(10, 3))
	for _, s := range []struct{ tilesX, tilesY, room int }{
		{1, 1, 4}, {1, 1, 32}, {3, 1, 4}, {2, 2, 4}, {1, 4, 4}, {5, 1, 4}, {1, 5, 4}, {5, 1, 5}, {3, 2, 5}, {4, 8, 32}, {11, 3, 32}, {4, 8, 31},
		{16, 16, 4}, {16, 16, 5}, {16, 16, 31}, {16, 16, 32},
	} {
		m := anyMap(c, s.tilesX*16-c.IntN(15), s.tilesY*16-c.IntN(15))
		x, o := made(t, put(t, m), s.room), &model{m: m, room: s.room}
		col, line := 0, 0
		for range 1500 {
			// Often beside the last one, so that some are met in large maps, too.
			if c.IntN(4) == 0 {
				col, line = c.IntN(m.F.W), c.IntN(m.F.H)
			}
			isHeight(t, x, o, col, line)
			col, line = min(max(col+c.IntN(25)-12, 0), m.F.W-1), min(max(line+c.IntN(25)-12, 0), m.F.H-1)
		}
		if o.met == 0 || len(o.held()) != min(s.room, s.tilesX*s.tilesY) {
			t.Error(s, o.met, o.missed, o.held())
		}
	}
}

// 10.2: a tile that went, and is used again, is as it was.
func TestUsedAgain(t *testing.T) {
	m := slope(100, 100)
	b := put(t, m)
	for _, room := range rooms {
		x := made(t, b, room)
		for i := range 10 {
			if z, code := x.Height(3, 5); z != m.F.Z[503] || code != api.OK {
				t.Fatal(z, code)
			}
			if met, missed := x.Met(); met != 0 || missed != i*(room+1)+1 {
				t.Fatal(room, i, met, missed)
			}
			for other := range room {
				x.Height(at(m.F, 1+other))
			}
			if l := x.Held(); slices.Contains(l, 0) || len(l) != room {
				t.Fatal(room, l)
			}
		}
	}
}

// 10.3: each height of maps of all sides, row by row.
func TestHeight(t *testing.T) {
	c := rand.New(rand.NewPCG(10, 4))
	for _, w := range sides {
		for _, h := range sides {
			m := anyMap(c, w, h)
			x := made(t, put(t, m), rooms[c.IntN(len(rooms))])
			for i, want := range m.F.Z {
				z, code := x.Height(i%w, i/w)
				if want == api.Void && (z != 0 || code != api.ErrVoid) || want != api.Void && (z != want || code != api.OK) {
					t.Fatal(i%w, i/w, z, code, want)
				}
			}
		}
	}
}

// 10.3: the first and the last column and row, and both sides of where tiles meet, each with what is at hand then.
func TestHeightEdges(t *testing.T) {
	for _, w := range sides {
		for _, h := range sides {
			m := slope(w, h)
			x, o := made(t, put(t, m), 4), &model{m: m, room: 4}
			for _, col := range []int{0, 1, 14, 15, 16, 17, w/16*16 - 1, w / 16 * 16, w - 2, w - 1, w, w + 1} {
				for _, line := range []int{0, 1, 14, 15, 16, 17, h/16*16 - 1, h / 16 * 16, h - 2, h - 1, h, h + 1} {
					isHeight(t, x, o, col, line)
				}
			}
		}
	}
}

// 10.3: heights of which the numbers are the ends; 0 is a height as any other.
func TestHeightEnds(t *testing.T) {
	m := api.Chart{F: api.Heights{W: 3, H: 2, Z: []int16{32767, -32767, 0, -1, 1, api.Void}}, Cell: 1}
	x, o := made(t, put(t, m), 4), &model{m: m, room: 4}
	for i := range 6 {
		isHeight(t, x, o, i%3, i/3)
	}
	if z, code := x.Height(2, 0); z != 0 || code != api.OK {
		t.Error(z, code)
	}
	if z, code := x.Height(2, 1); z != 0 || code != api.ErrVoid {
		t.Error(z, code)
	}
}

// 10.3: where a height is missing, its tile is used nevertheless, and may be the reason that another one goes.
func TestVoidIsUse(t *testing.T) {
	m := api.Chart{F: api.Heights{W: 80, H: 16, Z: slices.Repeat([]int16{api.Void}, 80*16)}, Cell: 1}
	x := made(t, put(t, m), 4)
	for i := range 5 {
		for again := range 2 {
			if z, code := x.Height(16*i+again, 3); z != 0 || code != api.ErrVoid {
				t.Fatal(z, code)
			}
			if met, missed := x.Met(); met != i+again || missed != i+1 {
				t.Fatal(i, again, met, missed)
			}
			if l := x.Held(); l[0] != i || len(l) != min(i+1, 4) {
				t.Fatal(i, l)
			}
		}
	}
	if l := x.Held(); !slices.Equal(l, []int{4, 3, 2, 1}) {
		t.Error(l)
	}
}

// isOff fails if a column and a row have a height, or if a tile is used.
func isOff(t *testing.T, c *cache.Cache, x, y int) {
	t.Helper()
	l := c.Held()
	met, missed := c.Met()
	if z, code := c.Height(x, y); z != 0 || code != api.ErrOff {
		t.Error(x, y, z, code)
	}
	if now := c.Held(); !slices.Equal(now, l) {
		t.Error(x, y, l, now)
	}
	if a, b := c.Met(); a != met || b != missed {
		t.Error(x, y, met, missed, a, b)
	}
}

// 10.3: columns and rows that the field has not, of heights that are there and of those that are missing; no tile is used.
func TestOff(t *testing.T) {
	void := slope(40, 20)
	void.F.Z = slices.Repeat([]int16{api.Void}, 800)
	for _, m := range []api.Chart{slope(2, 2), slope(16, 16), slope(17, 15), slope(40, 20), slope(256, 256), void} {
		w, h := m.F.W, m.F.H
		x := made(t, put(t, m), 4)
		for _, far := range []int{math.MinInt, -1 << 32, -257, -256, -40, -17, -16, -15, -2, -1, max(w, h), max(w, h) + 1, 1 << 16, 1 << 31, 1 << 32, 1<<32 + 1, math.MaxInt} {
			for _, other := range []int{0, 1, min(w, h) - 1, far, -1, math.MaxInt, math.MinInt} {
				isOff(t, x, far, other)
				isOff(t, x, other, far)
			}
		}
		isNew(t, x)
		x.Height(0, 0)
		x.Height(w-1, h-1)
		for i := range max(w, h) {
			isOff(t, x, w, min(i, h-1))
			isOff(t, x, min(i, w-1), h)
			isOff(t, x, -1, min(i, h-1))
			isOff(t, x, min(i, w-1), -1)
		}
		// A column too many is not the next row's first one.
		isOff(t, x, w, 0)
		isOff(t, x, 2*w, 0)
	}
}

// 10.1 and R3: the bytes are neither changed nor kept, and nothing behind them is read: whatever becomes of them, the cache is of those that were.
func TestBytesAreNotKept(t *testing.T) {
	m := slope(100, 70)
	want := put(t, m)
	for _, change := range []func(b []byte){
		func(b []byte) { clear(b) },
		func(b []byte) { copy(b, bytes.Repeat([]byte{0xff}, len(b))) },
		func(b []byte) { copy(b, put(t, slope(70, 100))) },
	} {
		room := append(slices.Clone(want), 1, 2, 3, 4)
		b := room[:len(want)]
		x, o := made(t, b, 5), &model{m: m, room: 5}
		isHeight(t, x, o, 50, 50)
		if !bytes.Equal(room[:len(want)], want) || !bytes.Equal(room[len(want):], []byte{1, 2, 3, 4}) {
			t.Fatal("the bytes have changed")
		}
		change(room)
		for i := range m.F.Z {
			isHeight(t, x, o, i*37%100, i*37/100%70)
		}
		if got := x.Chart(); got.F.W != 100 || got.F.H != 70 || got.Cell != 30 || got.OX != -100 || got.OY != 200 {
			t.Error(got)
		}
	}
}

// 10.1 and R3: uses do not write to the bytes.
func TestBytesAreNotChanged(t *testing.T) {
	m := anyMap(rand.New(rand.NewPCG(10, 5)), 90, 90)
	want := put(t, m)
	b := slices.Clone(want)
	x := made(t, b, 4)
	for i := range 8100 {
		x.Height(i%90, i/90)
	}
	if !bytes.Equal(b, want) {
		t.Error("the bytes have changed")
	}
}

// 10.1 and R3: what Held told is new memory: written to, it changes nothing, and it stays as it was.
func TestHeldIsNew(t *testing.T) {
	m := slope(100, 100)
	x, o := made(t, put(t, m), 4), &model{m: m, room: 4}
	for i := range 40 {
		isHeight(t, x, o, i*29%100, i*31%100)
		kept, other := x.Held(), x.Held()
		was := slices.Clone(kept)
		for k := range other {
			other[k] = -7
		}
		other = append(other, -7, -7)
		isHeight(t, x, o, i*17%100, i*19%100)
		if !slices.Equal(kept, was) {
			t.Fatal("what was told has changed:", kept, was)
		}
	}
}

// 10.1 and R3: what Chart told, written to, changes nothing.
func TestChartIsNew(t *testing.T) {
	m := slope(40, 40)
	x, o := made(t, put(t, m), 4), &model{m: m, room: 4}
	isHeight(t, x, o, 39, 39)
	got := x.Chart()
	got.F.W, got.F.H, got.Cell, got.OX, got.OY = 2, 2, 1, 0, 0
	got.F.Z = append(got.F.Z, 5, 5, 5, 5)
	if again := x.Chart(); again.F.W != 40 || again.F.H != 40 || len(again.F.Z) != 0 || again.Cell != 30 || again.OX != -100 || again.OY != 200 {
		t.Error(again)
	}
	for i := range 1600 {
		isHeight(t, x, o, i*7%40, i*7/40%40)
	}
	isOff(t, x, 40, 0)
}

// 10.1: two caches over the same bytes do not know of each other.
func TestTwoCaches(t *testing.T) {
	m := slope(100, 100)
	b := put(t, m)
	one, two := made(t, b, 4), made(t, b, 6)
	a, o := &model{m: m, room: 4}, &model{m: m, room: 6}
	for i := range 400 {
		isHeight(t, one, a, i*37%100, i*11%100)
		if i%3 == 0 {
			isHeight(t, two, o, i*13%100, i*41%100)
		}
	}
}

// all is the field that a cache tells, asked for in the order that is told, by steps that come to each height once.
func all(t *testing.T, c *cache.Cache, step int) []int16 {
	t.Helper()
	f := c.Chart().F
	z := make([]int16, f.W*f.H)
	for i := range z {
		to := (i + 1) * step % len(z)
		height, code := c.Height(to%f.W, to/f.W)
		switch code {
		case api.OK:
			z[to] = height
		case api.ErrVoid:
			z[to] = api.Void
		default:
			t.Fatal(to, code)
		}
	}
	return z
}

// 10.4: whatever is at hand, heights are the field's: by different rooms, and in different orders, one behind the other.
func TestSameHeights(t *testing.T) {
	c := rand.New(rand.NewPCG(10, 6))
	for _, m := range []api.Chart{anyMap(c, 2, 2), anyMap(c, 16, 17), anyMap(c, 45, 44), anyMap(c, 100, 33), anyMap(c, 80, 64)} {
		b := put(t, m)
		for _, room := range []int{4, 5, 32} {
			x := made(t, b, room)
			// None of the steps has a divisor with how many heights there are.
			for _, step := range []int{1, m.F.W*m.F.H - 1, 7, 13, 1009} {
				if z := all(t, x, step); !slices.Equal(z, m.F.Z) {
					t.Fatal(m.F.W, m.F.H, room, step, "is another field")
				}
			}
		}
	}
}

// 10.4: a map of 256 tiles, each of 16 by 16, by the least and the greatest room.
func TestSameHeightsGreat(t *testing.T) {
	m := anyMap(rand.New(rand.NewPCG(10, 7)), 256, 256)
	b := put(t, m)
	for _, room := range []int{4, 32} {
		x := made(t, b, room)
		if z := all(t, x, 257); !slices.Equal(z, m.F.Z) {
			t.Error(room, "is another field")
		}
		if met, missed := x.Met(); met+missed != 1<<16 || len(x.Held()) != room {
			t.Error(room, met, missed, x.Held())
		}
	}
}

// 10.2 and 10.4: heights of a map go on as the bytes that were refused, or other caches, were not there; what is told hangs on what was used alone.
func TestSameUses(t *testing.T) {
	m := slope(120, 90)
	b := put(t, m)
	one, two := made(t, b, 7), made(t, slices.Clone(b), 7)
	for i := range 900 {
		x, y := i*i*7%120, i*i*11%90
		cache.New(b[:i], 7)
		z, code := one.Height(x, y)
		other, otherCode := two.Height(x, y)
		if z != other || code != otherCode || !reflect.DeepEqual(one.Held(), two.Held()) {
			t.Fatal(x, y, z, other, code, otherCode)
		}
	}
	a, o := one.Met()
	if c, d := two.Met(); a != c || o != d || a+o != 900 {
		t.Error(a, o, c, d)
	}
}

// P0: a cache that was not made by New, of which nothing is promised, does not panic: it has no heights.
func TestNoCache(t *testing.T) {
	var x cache.Cache
	isNew(t, &x)
	isOff(t, &x, 0, 0)
	if got := x.Chart(); got.F.W != 0 || got.F.H != 0 || len(got.F.Z) != 0 || got.Cell != 0 {
		t.Error(got)
	}
}

// Example 1: two heights of one tile: the second time it is at hand.
func TestExample(t *testing.T) {
	m := slope(22, 5)
	x := made(t, put(t, m), 4)
	for i, s := range [][2]int{{17, 1}, {21, 4}} {
		if z, code := x.Height(s[0], s[1]); z != m.F.Z[s[1]*22+s[0]] || code != api.OK {
			t.Error(z, code)
		}
		if met, missed := x.Met(); met != i || missed != 1 || !slices.Equal(x.Held(), []int{1}) {
			t.Error(met, missed, x.Held())
		}
	}
	if _, _, w, _ := tile.Box(22, 5, tile.Place{X: 1}); w != 6 {
		t.Error("the second tile is not the one that was used")
	}
}
