package sieve_test

import (
	"encoding/binary"
	"fmt"
	"hash/crc32"
	"reflect"
	"slices"
	"testing"

	"sluice/api"
	"sluice/platter"
	"sluice/reel"
	"sluice/sieve"
)

// wire is a volume that writes down what is asked of it, and refuses what it is told to refuse, by the number of the operation.
type wire struct {
	api.Volume
	calls []string
	fail  map[int]api.Errno
	every bool // Removes alone are refused, all of them
}

func line(op, name string, data []byte) string { return fmt.Sprintf("%s %s %x", op, name, data) }

func (w *wire) asked(op, name string, data []byte) api.Errno {
	w.calls = append(w.calls, line(op, name, data))
	if w.every && op == "Remove" {
		return api.ErrIO
	}
	return w.fail[len(w.calls)]
}

func (w *wire) Create(name string) api.Errno {
	if err := w.asked("Create", name, nil); err != api.OK {
		return err
	}
	return w.Volume.Create(name)
}

func (w *wire) Append(name string, data []byte) api.Errno {
	if err := w.asked("Append", name, data); err != api.OK {
		return err
	}
	return w.Volume.Append(name, data)
}

func (w *wire) ReadAt(name string, at int64, into []byte) (int, api.Errno) {
	if err := w.asked("ReadAt", name, nil); err != api.OK {
		return 0, err
	}
	return w.Volume.ReadAt(name, at, into)
}

func (w *wire) Size(name string) (int64, api.Errno) {
	if err := w.asked("Size", name, nil); err != api.OK {
		return 0, err
	}
	return w.Volume.Size(name)
}

func (w *wire) Sync(name string) api.Errno {
	if err := w.asked("Sync", name, nil); err != api.OK {
		return err
	}
	return w.Volume.Sync(name)
}

func (w *wire) SyncDir() api.Errno {
	if err := w.asked("SyncDir", "", nil); err != api.OK {
		return err
	}
	return w.Volume.SyncDir()
}

func (w *wire) Rename(from, to string) api.Errno {
	if err := w.asked("Rename", from+" "+to, nil); err != api.OK {
		return err
	}
	return w.Volume.Rename(from, to)
}

func (w *wire) Remove(name string) api.Errno {
	if err := w.asked("Remove", name, nil); err != api.OK {
		return err
	}
	return w.Volume.Remove(name)
}

func (w *wire) List() ([]string, api.Errno) {
	if err := w.asked("List", "", nil); err != api.OK {
		return nil, err
	}
	return w.Volume.List()
}

func disk(t testing.TB, plan ...api.Fault) *platter.Disk {
	t.Helper()
	d, err := platter.New(1<<26, plan...)
	if err != api.OK {
		t.Fatalf("New: %v", err)
	}
	return d
}

// contents reads all files of a disk past package reel.
func contents(t testing.TB, v api.Volume) map[string]string {
	t.Helper()
	names, err := v.List()
	if err != api.OK {
		t.Fatalf("List: %v", err)
	}
	all := map[string]string{}
	for _, name := range names {
		size, _ := v.Size(name)
		b := make([]byte, size)
		if n, err := v.ReadAt(name, 0, b); err != api.OK || n != len(b) {
			t.Fatalf("ReadAt: %d %v", n, err)
		}
		all[name] = string(b)
	}
	return all
}

// chunk lays a chunk down by P6.1's words.
func chunk(kind byte, number, records uint32, body []byte) []byte {
	b := []byte{'R', 'L', kind, 1}
	b = binary.LittleEndian.AppendUint32(b, number)
	b = binary.LittleEndian.AppendUint32(b, records)
	b = binary.LittleEndian.AppendUint32(b, uint32(len(body)))
	b = binary.LittleEndian.AppendUint32(b, crc32.ChecksumIEEE(body))
	b = binary.LittleEndian.AppendUint32(b, crc32.ChecksumIEEE(b))
	return append(b, body...)
}

func titleChunk(t api.Title) []byte {
	b := binary.LittleEndian.AppendUint16(nil, uint16(t.Family))
	b = binary.LittleEndian.AppendUint16(b, uint16(t.Width))
	return chunk(1, 0, 0, binary.LittleEndian.AppendUint64(b, t.Tag))
}

func endChunk(number uint32, records int64, all []byte) []byte {
	b := binary.LittleEndian.AppendUint64(nil, uint64(records))
	return chunk(3, number, 0, binary.LittleEndian.AppendUint32(b, crc32.ChecksumIEEE(all)))
}

// edgeBytes lays an edge down by 0.1's words.
func edgeBytes(kind api.EdgeKind, e api.Edge) []byte {
	b := binary.LittleEndian.AppendUint32(nil, e.Src)
	b = binary.LittleEndian.AppendUint32(b, e.Dst)
	if kind == api.EPlain {
		return b
	}
	return binary.LittleEndian.AppendUint32(b, e.W)
}

func updateBytes(u api.Update) []byte {
	b := binary.LittleEndian.AppendUint32(nil, u.To)
	b = binary.LittleEndian.AppendUint64(b, u.A)
	return binary.LittleEndian.AppendUint64(b, u.B)
}

// split is Split that must be answered OK.
func split(t testing.TB, n uint32, k int) sieve.Ranges {
	t.Helper()
	c, err := sieve.Split(n, k)
	if err != api.OK {
		t.Fatalf("Split(%d, %d): %v", n, k, err)
	}
	return c
}

// edgesOf reads an edge file, or back file, to its end.
func edgesOf(t testing.TB, v api.Volume, name string, title api.Title, kind api.EdgeKind) ([]api.Edge, uint32) {
	t.Helper()
	f, err := reel.EdgeForm(kind)
	if err != api.OK {
		t.Fatalf("EdgeForm: %v", err)
	}
	r, err := reel.Open(v, name, title, f, make([]byte, 1<<14))
	if err != api.OK {
		t.Fatalf("Open(%s): %v", name, err)
	}
	var told []api.Edge
	for _, e := range r.All() {
		told = append(told, e)
	}
	if !r.Done() {
		t.Fatalf("%s: %v", name, r.Code())
	}
	return told, r.Sum()
}

// tag tells a title's tag by P9.11's words.
func tag(name string, part int) uint64 {
	return uint64(crc32.ChecksumIEEE([]byte(name)))*(1<<32) + uint64(part)
}

// partOf tells a vertex's part by 0.2's words: by laying the parts down one by one.
func partOf(n uint32, k int, v uint32) int {
	at := uint32(0)
	for p := range k {
		size := n / uint32(k)
		if p < int(n%uint32(k)) {
			size++
		}
		if v >= at && v-at < size {
			return p
		}
		at += size
	}
	return -1
}

// same holds what was answered against what was wanted; nil and empty lists are the same.
func same(got, want any) bool {
	g, w := reflect.ValueOf(got), reflect.ValueOf(want)
	if g.Kind() == reflect.Slice && g.Len() == 0 && w.Len() == 0 {
		return true
	}
	return reflect.DeepEqual(got, want)
}

// spare makes a list of n places, with more of them behind its end, all filled with x; whole tells whether those are as they were.
func spare[T comparable](n int, x T) (list []T, whole func() bool) {
	all := slices.Repeat([]T{x}, n+7)
	return all[:n], func() bool {
		return !slices.ContainsFunc(all[n:], func(y T) bool { return x != y })
	}
}
