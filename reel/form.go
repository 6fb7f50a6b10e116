package reel

import "sluice/api"

// Form says how a record lies in bytes.
type Form[T any] struct {
	width int
	put   func(record, T)
	get   func(record) T
}

// FormOf is a form of two functions: put lays a record into just width bytes, get reads it (P6.2).
func FormOf[T any](width int, put func(b []byte, t T), get func(b []byte) T) Form[T] {
	f := Form[T]{width: width}
	if put != nil {
		f.put = func(b record, t T) { put(b, t) }
	}
	if get != nil {
		f.get = func(b record) T { return get(b) }
	}
	return f
}

// TextForm is the form of texts of so many bytes (P6.2).
func TextForm(width int) Form[string] {
	return Form[string]{width, record.putText, record.text}
}

// EdgeForm is the form of edges of a kind (P6.2).
func EdgeForm(kind api.EdgeKind) (Form[api.Edge], api.Errno) {
	switch kind {
	case api.EPlain:
		return Form[api.Edge]{8, record.putPlain, record.plain}, api.OK
	case api.ECounted, api.EReal:
		return Form[api.Edge]{12, record.putWeighted, record.weighted}, api.OK
	}
	return Form[api.Edge]{}, api.ErrArg
}

// UpdateForm is the form of updates (P6.2).
func UpdateForm() Form[api.Update] {
	return Form[api.Update]{20, record.putUpdate, record.update}
}

// StateForm is the form of states of so many words (P6.2).
func StateForm(words int) (Form[api.State], api.Errno) {
	if words < 1 || words > api.StateWords {
		return Form[api.State]{}, api.ErrArg
	}
	return Form[api.State]{8 * words, record.putState, record.state}, api.OK
}

// Width tells how many bytes a record has (P6.2).
func (f Form[T]) Width() int { return f.width }

// right tells whether records can be laid down and read by it.
func (f Form[T]) right() bool {
	return f.width >= 1 && f.width <= api.MaxRecord && f.put != nil && f.get != nil
}

// Lay lays a record into the first Width bytes of b (P6.2).
func (f Form[T]) Lay(b []byte, t T) api.Errno {
	if err := f.fits(b); err != api.OK {
		return err
	}
	f.lay(b, t)
	return api.OK
}

// Take reads it (P6.2).
func (f Form[T]) Take(b []byte) (T, api.Errno) {
	if err := f.fits(b); err != api.OK {
		var none T
		return none, err
	}
	return f.take(b), api.OK
}

func (f Form[T]) fits(b []byte) api.Errno {
	switch {
	case !f.right():
		return api.ErrArg
	case len(b) < f.width:
		return api.ErrRoom
	}
	return api.OK
}

// lay hands on just the record's bytes: the third index keeps what is appended to them from what lies behind.
func (f Form[T]) lay(b []byte, t T) { f.put(b[:f.width:f.width], t) }

func (f Form[T]) take(b []byte) T { return f.get(b[:f.width:f.width]) }
