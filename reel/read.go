package reel

import (
	"iter"

	"sluice/api"
)

// Reader of a file.
type Reader[T any] struct {
	source
	form Form[T]
	rest record // of the body that was read last, what has not been told
	told int64
}

// Open begins to read a file (P6.10).
func Open[T any](v api.Volume, name string, t api.Title, f Form[T], buf []byte) (*Reader[T], api.Errno) {
	if err := check(v, t, f, buf, f.width); err != api.OK {
		return nil, err
	}
	r := &Reader[T]{source: source{v: v, name: name, buf: buf}, form: f}
	if err := r.begin(); err != api.OK {
		return nil, err
	}
	if r.title != t {
		return nil, api.ErrTitle
	}
	return r, api.OK
}

// made tells whether there is a Reader: one that Open has not made has no volume.
func (r *Reader[T]) made() bool { return r != nil && r.v != nil }

// Next tells the next record (P6.11).
func (r *Reader[T]) Next() (T, bool) {
	var none T
	if !r.made() {
		return none, false
	}
	if len(r.rest) == 0 {
		r.rest = r.next()
	}
	if len(r.rest) == 0 {
		return none, false
	}
	t := r.form.take(r.rest)
	r.rest = r.rest[r.form.width:]
	r.told++
	return t, true
}

// All goes over the records that are left, with their numbers (P6.12).
func (r *Reader[T]) All() iter.Seq2[int64, T] {
	return func(yield func(int64, T) bool) {
		for {
			number := r.Count()
			t, ok := r.Next()
			if !ok || !yield(number, t) {
				return
			}
		}
	}
}

// Code tells why it told no more (P6.13).
func (r *Reader[T]) Code() api.Errno {
	if !r.made() {
		return api.ErrNil
	}
	return r.code
}

// Done tells whether the end was read and all is right (P6.13).
func (r *Reader[T]) Done() bool { return r.made() && r.done }

// Count tells how many records it has told (P6.13).
func (r *Reader[T]) Count() int64 {
	if !r.made() {
		return 0
	}
	return r.told
}

// Sum tells the sum over all bodies read so far (P6.13).
func (r *Reader[T]) Sum() uint32 {
	if !r.made() {
		return 0
	}
	return r.total.sum
}

// Scan looks through a whole file (P6.14).
func Scan(v api.Volume, name string, buf []byte) (t api.Title, records int64, sum uint32, e api.Errno) {
	switch {
	case v == nil:
		return t, 0, 0, api.ErrNil
	case len(buf) < leastBuffer:
		return t, 0, 0, api.ErrRoom
	}
	s := source{v: v, name: name, buf: buf}
	if err := s.begin(); err != api.OK {
		return t, 0, 0, err
	}
	for body := range s.bodies() {
		records += int64(len(body) / s.title.Width)
	}
	return s.title, records, s.total.sum, s.code
}
