package reel

import (
	"sluice/api"
	"sluice/grain"
)

// target is a file that chunks are appended to.
type target struct {
	v      api.Volume
	name   string
	number int64 // of the next chunk
	shut   bool
	code   api.Errno // with which it was shut
}

// stop shuts it: what stands in the file behind an error is not known, so nothing may go behind that.
func (t *target) stop(code api.Errno) api.Errno {
	t.shut, t.code = true, code
	return code
}

// add appends a chunk, whose body lies in its place already, behind the room for the head.
func (t *target) add(kind int, records int64, chunk []byte) api.Errno {
	if t.number > maxNumber {
		return t.stop(api.ErrOrder)
	}
	body := chunk[api.ChunkHead:]
	head{kind, t.number, records, int64(len(body)), grain.CRC(body)}.lay(chunk)
	if err := t.v.Append(t.name, chunk); err != api.OK {
		return t.stop(err)
	}
	t.number++
	return api.OK
}

// Writer of a file.
type Writer[T any] struct {
	target
	form     Form[T]
	buf      []byte
	chunkful int // records of a full buffer
	held     int // records in it, behind the room for a head
	total    totals
}

// Create begins a file (P6.4).
func Create[T any](v api.Volume, name string, t api.Title, f Form[T], buf []byte) (*Writer[T], api.Errno) {
	if err := check(v, t, f, buf, api.ChunkHead+f.width); err != api.OK {
		return nil, err
	}
	if err := v.Create(name); err != api.OK {
		return nil, err
	}
	w := &Writer[T]{target: target{v: v, name: name}, form: f, buf: buf}
	w.chunkful = min(len(buf)-api.ChunkHead, api.MaxChunk) / f.width
	chunk := make(record, api.ChunkHead+api.TitleSize)
	chunk[api.ChunkHead:].putTitle(t)
	if err := w.add(kindTitle, 0, chunk); err != api.OK {
		return nil, err
	}
	return w, api.OK
}

// made tells whether there is a Writer: one that Create has not made has no volume.
func (w *Writer[T]) made() bool { return w != nil && w.v != nil }

// ready is how every call that writes begins.
func (w *Writer[T]) ready() api.Errno {
	switch {
	case !w.made():
		return api.ErrNil
	case w.shut:
		return api.ErrShut
	}
	return api.OK
}

// Put takes records (P6.5).
func (w *Writer[T]) Put(ts ...T) api.Errno {
	if err := w.ready(); err != api.OK {
		return err
	}
	for _, t := range ts {
		w.form.lay(w.buf[api.ChunkHead+w.held*w.form.width:], t)
		w.held++
		w.total.records++
		if w.held < w.chunkful {
			continue
		}
		if err := w.flush(); err != api.OK {
			return err
		}
	}
	return api.OK
}

// Flush writes what is in the buffer as a chunk (P6.6).
func (w *Writer[T]) Flush() api.Errno {
	if err := w.ready(); err != api.OK {
		return err
	}
	return w.flush()
}

func (w *Writer[T]) flush() api.Errno {
	if w.held == 0 {
		return api.OK
	}
	end := api.ChunkHead + w.held*w.form.width
	chunk := w.buf[:end:end]
	if err := w.add(kindData, int64(w.held), chunk); err != api.OK {
		return err
	}
	w.held = 0
	w.total.sum = grain.More(w.total.sum, chunk[api.ChunkHead:])
	return api.OK
}

// Close ends the file and makes its bytes durable (P6.7).
func (w *Writer[T]) Close() api.Errno {
	if err := w.Flush(); err != api.OK {
		return err
	}
	// The end has bytes of its own: a Writer that holds no records has left the buffer to others, who may hold some there.
	chunk := make(record, api.ChunkHead+api.EndSize)
	chunk[api.ChunkHead:].putTotals(w.total)
	if err := w.add(kindEnd, 0, chunk); err != api.OK {
		return err
	}
	return w.stop(w.v.Sync(w.name))
}

// Count tells how many records it has taken (P6.8).
func (w *Writer[T]) Count() int64 {
	if !w.made() {
		return 0
	}
	return w.total.records
}

// Sum tells the sum over all bodies written so far (P6.8).
func (w *Writer[T]) Sum() uint32 {
	if !w.made() {
		return 0
	}
	return w.total.sum
}

// Code tells why it is shut (P6.8).
func (w *Writer[T]) Code() api.Errno {
	switch {
	case !w.made():
		return api.ErrNil
	case !w.shut:
		return api.ErrState
	}
	return w.code
}
