package reel

import (
	"testing"

	"sluice/api"
	"sluice/platter"
)

// It would take 2^32 chunks to come there by calls: so the number is set.
func TestTheGreatestNumber(t *testing.T) {
	d, _ := platter.New(1000)
	title := api.Title{Family: 1, Width: 1}
	f := TextForm(1)
	open := func(name string) *Writer[string] {
		w, err := Create(d, name, title, f, make([]byte, 36))
		if err != api.OK {
			t.Fatalf("Create: %v", err)
		}
		w.number = 1<<32 - 2
		return w
	}
	w := open("a")
	ops := d.Ops()
	if w.Close() != api.OK || w.Code() != api.OK || d.Ops() != ops+2 {
		t.Errorf("an end with the greatest number: %v", w.Code())
	}
	w = open("b")
	ops = d.Ops()
	if w.Put("x") != api.OK || w.Flush() != api.OK || w.Sum() == 0 || d.Ops() != ops+1 {
		t.Errorf("data with the greatest number: %v", w.Code())
	}
	if w.Put("y") != api.OK || w.Flush() != api.ErrOrder || d.Ops() != ops+1 {
		t.Error("data with a greater number")
	}
	if w.Code() != api.ErrOrder || w.Count() != 2 || w.Close() != api.ErrShut || w.Put("z") != api.ErrShut || d.Ops() != ops+1 {
		t.Errorf("behind it: %v", w.Code())
	}
	w = open("c")
	if w.Put("x") != api.OK || w.Close() != api.ErrOrder || w.Code() != api.ErrOrder || w.Close() != api.ErrShut {
		t.Errorf("an end with a greater number: %v", w.Code())
	}
	if size, _ := d.Size("c"); size != 36+25 {
		t.Errorf("%d bytes", size)
	}
}
