// Package bits is layer 1: bits written and read, the highest of each byte first. See shared/doc/01-bits.md.
package bits

import (
	"bytes"

	"theodolite/api"
)

// mostBytes is the document's bound on what a program is given or answers: nothing is promised for a count beyond it, so that such a count writes nothing rather than running out of memory.
const mostBytes = 1<<31 - 1

// Writer is bytes, and how many bits of them were written.
type Writer struct {
	b []byte
	n int
}

// Len is how many bits were written.
func (w *Writer) Len() int { return w.n }

// Bit writes a bit.
func (w *Writer) Bit(is bool) {
	if w.n%8 == 0 {
		w.b = append(w.b, 0)
	}
	if is {
		w.b[w.n/8] |= 0x80 >> (w.n % 8)
	}
	w.n++
}

// Num writes the lowest size bits of a number, the highest first.
func (w *Writer) Num(x uint64, size int) {
	if size/8 > mostBytes {
		return
	}
	// A shift by 64 or more leaves nothing, which makes the noughts ahead.
	for i := range size {
		w.Bit(x>>(size-1-i)&1 == 1)
	}
}

// Ones writes n ones, and a nought.
func (w *Writer) Ones(n int) {
	if n/8 > mostBytes {
		return
	}
	for range n {
		w.Bit(true)
	}
	w.Bit(false)
}

// Bytes is what was written, with noughts up to the end of the last byte: a copy, since the writer goes on writing to its own.
func (w *Writer) Bytes() []byte { return bytes.Clone(w.b) }

// Reader is bytes, how many bits of them were read, and whether something was wrong.
type Reader struct {
	b     []byte
	at    int
	wrong bool
}

// Read is a reader of bytes: of a copy, so that it reads the same whatever becomes of b.
func Read(b []byte) *Reader { return &Reader{b: bytes.Clone(b)} }

// fail gives up all there was to read, as behind something wrong nothing else is told.
func (r *Reader) fail() { *r = Reader{wrong: true} }

// Left is how many bits are left.
func (r *Reader) Left() int { return 8*len(r.b) - r.at }

// At is how many bits were read.
func (r *Reader) At() int { return r.at }

// Right tells whether nothing was wrong.
func (r *Reader) Right() bool { return !r.wrong }

// Bit is the next bit.
func (r *Reader) Bit() bool {
	if r.Left() == 0 {
		r.fail()
		return false
	}
	is := r.b[r.at/8]&(0x80>>(r.at%8)) != 0
	r.at++
	return is
}

// Num is the number of the next size bits, modulo 2^64.
func (r *Reader) Num(size int) uint64 {
	if size < 0 || size > r.Left() {
		r.fail()
		return 0
	}
	var x uint64
	for range size {
		x <<= 1
		if r.Bit() {
			x |= 1
		}
	}
	return x
}

// Ones is how many ones come ahead of the next nought, which is read, too.
func (r *Reader) Ones(most int) int {
	for n := range r.Left() {
		if r.Bit() {
			continue
		}
		if n > most {
			break
		}
		return n
	}
	r.fail()
	return 0
}

// Close tells whether nothing was wrong, and nothing is left but noughts, fewer than eight.
func (r *Reader) Close() bool {
	return r.Right() && r.Left() < 8 && r.Num(r.Left()) == 0
}

// Put is b, and a number in size bytes behind it, the lowest first: new memory, as b's may have room that is another's.
func Put(b []byte, x uint64, size int) []byte {
	out := bytes.Clone(b)
	if size > mostBytes {
		return out
	}
	for range size {
		out = append(out, byte(x))
		x >>= 8
	}
	return out
}

// Get is the number in size bytes from one on, the lowest first.
func Get(b []byte, at, size int) (uint64, api.Code) {
	// at is held against a difference, since a sum might wrap.
	if size < 0 || size > 8 || at < 0 || at > len(b)-size {
		return 0, api.ErrRange
	}
	var x uint64
	for i := range size {
		x |= uint64(b[at+i]) << (8 * i)
	}
	return x, api.OK
}
