package purse

import "sluice/api"

// Plain is what a lease can hold.
type Plain interface {
	uint8 | uint32 | int32 | int64 | uint64 | int | api.Edge | api.Update | api.State
}

// Cost tells how many words so many elements cost (P4.1).
func Cost[T Plain](n int) (int, api.Errno) {
	if n < 0 || n > api.MaxLength {
		return 0, api.ErrLength
	}
	return (n*width[T]() + 7) / 8, api.OK
}

// width tells the bytes that an element counts for, whatever the machine gives it.
func width[T Plain]() int {
	var element T
	switch any(element).(type) {
	case uint8:
		return 1
	case uint32, int32:
		return 4
	case api.Edge:
		return 12
	case api.Update:
		return 20
	case api.State:
		return 64
	default: // int64, uint64, int
		return 8
	}
}

// Lease is a buffer.
type Lease[T Plain] struct {
	claim
	elements []T
}

// Take leases n elements (P4.6).
func Take[T Plain](p *Purse, n int, tag ...string) (*Lease[T], api.Errno) {
	if p == nil {
		return nil, api.ErrNil
	}
	p.guard.Lock()
	defer p.guard.Unlock()
	label, err := p.label(tag)
	if err != api.OK {
		return nil, err
	}
	words, err := Cost[T](n)
	if err != api.OK {
		return nil, err
	}
	place, err := p.file(words, label)
	if err != api.OK {
		return nil, err
	}
	return &Lease[T]{claim: place, elements: make([]T, n)}, api.OK
}

// Slice tells the elements (P4.7).
func (l *Lease[T]) Slice() []T {
	if l == nil {
		return nil
	}
	l.lock()
	defer l.unlock()
	return l.elements
}

// Len tells how many they are (P4.7).
func (l *Lease[T]) Len() int { return len(l.Slice()) }

// Words tells what they cost (P4.7).
func (l *Lease[T]) Words() int {
	if l == nil {
		return 0
	}
	l.lock()
	defer l.unlock()
	words, _ := l.cost()
	return words
}

// Grow makes them more or fewer (P4.8).
func (l *Lease[T]) Grow(n int) api.Errno {
	if l == nil {
		return api.ErrNil
	}
	l.lock()
	defer l.unlock()
	if _, open := l.cost(); !open {
		return api.ErrLease
	}
	words, err := Cost[T](n)
	if err != api.OK {
		return err
	}
	if err := l.alter(words); err != api.OK {
		return err
	}
	elements := make([]T, n) // new also where it would fit: the old memory stays with who still holds it
	copy(elements, l.elements)
	l.elements = elements
	return api.OK
}

// Give gives them back (P4.9).
func (l *Lease[T]) Give() api.Errno {
	if l == nil {
		return api.ErrNil
	}
	l.lock()
	defer l.unlock()
	if _, open := l.cost(); !open {
		return api.ErrLease
	}
	l.end()
	l.elements = nil
	return api.OK
}
