package reel_test

import (
	"encoding/binary"
	"fmt"
	"hash/crc32"
	"testing"

	"sluice/api"
	"sluice/platter"
)

// tape is a volume that writes down what is asked of it, and may spoil what it reads.
type tape struct {
	api.Volume
	calls []string
	after func(at int64, read []byte) // sees what was read, ahead of the caller
	loose bool                        // a ReadAt was handed more room than it was to fill
}

func (t *tape) note(format string, a ...any) {
	t.calls = append(t.calls, fmt.Sprintf(format, a...))
}

func (t *tape) Create(name string) api.Errno {
	t.note("Create %s", name)
	return t.Volume.Create(name)
}

func (t *tape) Append(name string, data []byte) api.Errno {
	t.note("Append %s %d", name, len(data))
	return t.Volume.Append(name, data)
}

func (t *tape) ReadAt(name string, at int64, into []byte) (int, api.Errno) {
	t.note("ReadAt %s %d %d", name, at, len(into))
	t.loose = t.loose || cap(into) != len(into)
	n, err := t.Volume.ReadAt(name, at, into)
	if t.after != nil {
		t.after(at, into[:n])
	}
	return n, err
}

func (t *tape) Size(name string) (int64, api.Errno) {
	t.note("Size %s", name)
	return t.Volume.Size(name)
}

func (t *tape) Sync(name string) api.Errno {
	t.note("Sync %s", name)
	return t.Volume.Sync(name)
}

func (t *tape) SyncDir() api.Errno {
	t.note("SyncDir")
	return t.Volume.SyncDir()
}

func (t *tape) Rename(from, to string) api.Errno {
	t.note("Rename %s %s", from, to)
	return t.Volume.Rename(from, to)
}

func (t *tape) Remove(name string) api.Errno {
	t.note("Remove %s", name)
	return t.Volume.Remove(name)
}

func (t *tape) List() ([]string, api.Errno) {
	t.note("List")
	return t.Volume.List()
}

// told gives what was written down, and begins anew.
func (t *tape) told() string {
	s := fmt.Sprint(t.calls)
	t.calls = nil
	return s
}

func disk(t testing.TB, plan ...api.Fault) *platter.Disk {
	t.Helper()
	d, err := platter.New(1<<24, plan...)
	if err != api.OK {
		t.Fatalf("New: %v", err)
	}
	return d
}

// contents reads a file past package reel.
func contents(t testing.TB, v api.Volume, name string) []byte {
	t.Helper()
	size, err := v.Size(name)
	if err != api.OK {
		t.Fatalf("Size: %v", err)
	}
	b := make([]byte, size)
	if n, err := v.ReadAt(name, 0, b); err != api.OK || n != len(b) {
		t.Fatalf("ReadAt: %d %v", n, err)
	}
	return b
}

// lie puts a file on a new disk past package reel.
func lie(t testing.TB, name string, b []byte) *platter.Disk {
	t.Helper()
	d := disk(t)
	if d.Create(name) != api.OK || d.Append(name, b) != api.OK {
		t.Fatal("no room")
	}
	return d
}

// chunk lays a chunk down by P6.1's words, with whatever it is to say.
func chunk(kind byte, number, records uint32, body []byte) []byte {
	return chunkOf(kind, 1, number, records, uint32(len(body)), body)
}

func chunkOf(kind, one byte, number, records, length uint32, body []byte) []byte {
	b := []byte{'R', 'L', kind, one}
	b = binary.LittleEndian.AppendUint32(b, number)
	b = binary.LittleEndian.AppendUint32(b, records)
	b = binary.LittleEndian.AppendUint32(b, length)
	b = binary.LittleEndian.AppendUint32(b, crc32.ChecksumIEEE(body))
	b = binary.LittleEndian.AppendUint32(b, crc32.ChecksumIEEE(b))
	return append(b, body...)
}

func titleBody(family, width uint16, tag uint64) []byte {
	b := binary.LittleEndian.AppendUint16(nil, family)
	b = binary.LittleEndian.AppendUint16(b, width)
	return binary.LittleEndian.AppendUint64(b, tag)
}

func endBody(records uint64, sum uint32) []byte {
	b := binary.LittleEndian.AppendUint64(nil, records)
	return binary.LittleEndian.AppendUint32(b, sum)
}

// file lays a whole file down by P6.1's words.
func file(t api.Title, bodies ...[]byte) []byte {
	b := chunk(1, 0, 0, titleBody(uint16(t.Family), uint16(t.Width), t.Tag))
	var all []byte
	for i, body := range bodies {
		b = append(b, chunk(2, uint32(i+1), uint32(len(body)/t.Width), body)...)
		all = append(all, body...)
	}
	end := endBody(uint64(len(all)/t.Width), crc32.ChecksumIEEE(all))
	return append(b, chunk(3, uint32(len(bodies)+1), 0, end)...)
}

// nilDisk is no volume, though it is one's type: what it answers comes through.
func nilDisk() api.Volume {
	var d *platter.Disk
	return d
}
