// Package wire is layer 1: see shared/doc/01-wire.md.
package wire

import (
	"bytes"
	"math"

	"quaestor/api"
)

// How many bytes a word, a truth and a count are.
const (
	wordSize  = 8
	truthSize = 1
	countSize = 4
)

// theNaN stands for every NaN, so that a float has its bytes in one way alone.
const theNaN = 0x7ff8000000000001

// PutInt puts an int behind bytes.
func PutInt(b []byte, n int64) []byte {
	return appendWord(extend(b, wordSize), uint64(n), wordSize)
}

// PutBool puts a truth.
func PutBool(b []byte, x bool) []byte {
	var w uint64
	if x {
		w = 1
	}
	return appendWord(extend(b, truthSize), w, truthSize)
}

// PutCount puts a count.
func PutCount(b []byte, n int) []byte {
	return appendWord(extend(b, countSize), countWord(n), countSize)
}

// PutBytes puts bytes behind their number.
func PutBytes(b []byte, x []byte) []byte {
	out := appendWord(extend(b, countSize+len(x)), countWord(len(x)), countSize)
	return append(out, x...)
}

// PutNum puts a float.
func PutNum(b []byte, x float64) []byte {
	w := math.Float64bits(x)
	if math.IsNaN(x) {
		w = theNaN
	}
	return appendWord(extend(b, wordSize), w, wordSize)
}

// extend copies b, with room for more behind it: what lies behind b's own end is the caller's, and append would write there.
func extend(b []byte, more int) []byte {
	return append(make([]byte, 0, len(b)+more), b...)
}

// appendWord counts on room that extend has made.
func appendWord(b []byte, w uint64, size int) []byte {
	for i := size - 1; i >= 0; i-- {
		b = append(b, byte(w>>(8*i)))
	}
	return b
}

// countWord bends a number to what four bytes can tell.
func countWord(n int) uint64 {
	return min(uint64(max(n, 0)), math.MaxUint32)
}

// word is appendWord's other way.
func word(b []byte) uint64 {
	var w uint64
	for _, x := range b {
		w = w<<8 | uint64(x)
	}
	return w
}

// Reader reads bytes.
type Reader struct {
	rest []byte
	err  api.Errno
}

// New makes one.
func New(b []byte) *Reader {
	return &Reader{rest: bytes.Clone(b)}
}

// Int reads an int.
func (r *Reader) Int() int64 {
	return int64(r.step(wordSize, ceiling{most: math.MaxUint64}.allows))
}

// Bool reads a truth.
func (r *Reader) Bool() bool {
	return r.step(truthSize, ceiling{most: 1, past: api.ErrForm}.allows) == 1
}

// Count reads a count.
func (r *Reader) Count(most int) int {
	return int(r.step(countSize, atMost(most).allows))
}

// Bytes reads bytes.
func (r *Reader) Bytes(most int) []byte {
	n := r.step(countSize, room{atMost(most), uint64(r.Left())}.allows)
	if n == 0 { // where there is an error, too: a nil reader has nothing to cut from
		return nil
	}
	x := bytes.Clone(r.rest[:n])
	r.rest = r.rest[n:]
	return x
}

// Num reads a float.
func (r *Reader) Num() float64 {
	return math.Float64frombits(r.step(wordSize, floats{}.allows))
}

// End says that this is the end.
func (r *Reader) End() {
	if r.Err() == api.OK && r.Left() > 0 {
		r.err = api.ErrMore
	}
}

// Left tells how many bytes are left.
func (r *Reader) Left() int {
	if r == nil {
		return 0
	}
	return len(r.rest)
}

// Err tells the first error.
func (r *Reader) Err() api.Errno {
	if r == nil {
		return api.OK
	}
	return r.err
}

// step is the one place where a reader moves or fails: what may stand there is asked ahead of moving, so that a reader with an error is still where it was.
func (r *Reader) step(size int, allows func(w uint64) api.Errno) uint64 {
	if r == nil || r.err != api.OK {
		return 0
	}
	if len(r.rest) < size {
		r.err = api.ErrShort
		return 0
	}
	w := word(r.rest[:size])
	r.err = allows(w)
	if r.err != api.OK {
		return 0
	}
	r.rest = r.rest[size:]
	return w
}

// ceiling allows words up to most; past is the error of greater ones. (Of an int every word may be: there most is the greatest word.)
type ceiling struct {
	most uint64
	past api.Errno
}

func (c ceiling) allows(w uint64) api.Errno {
	if w > c.most {
		return c.past
	}
	return api.OK
}

// atMost is the ceiling of counts.
func atMost(most int) ceiling {
	return ceiling{most: uint64(max(most, 0)), past: api.ErrLong}
}

// room allows a count of bytes that stand behind it: were they missed only once the count is read, the reader would have moved.
type room struct {
	ceiling
	left uint64 // the count's own bytes are among these
}

func (m room) allows(w uint64) api.Errno {
	if err := m.ceiling.allows(w); err != api.OK {
		return err
	}
	if countSize+w > m.left {
		return api.ErrShort
	}
	return api.OK
}

// floats allows the bits of floats: of several NaNs just one can have been put.
type floats struct{}

func (floats) allows(w uint64) api.Errno {
	if w != theNaN && math.IsNaN(math.Float64frombits(w)) {
		return api.ErrForm
	}
	return api.OK
}
