package platter

import (
	"maps"

	"sluice/api"
)

// Restart gives power again: what is durable is there, and as much more as it is told (P3.11).
func (d *Disk) Restart(dir int, keep ...int64) api.Errno {
	if !d.made() {
		return api.ErrNil
	}
	d.durable.apply(d.changes[:clipped(int64(dir), int64(len(d.changes)))]...)
	d.names = maps.Clone(d.durable)
	d.changes = nil
	d.off = false
	d.used = 0
	for j, name := range d.names.sorted() {
		f := d.names[name]
		var more int64
		if j < len(keep) {
			more = keep[j]
		}
		f.cut(f.synced + clipped(more, f.size()-f.synced))
		d.used += f.size()
	}
	return api.OK
}

// cut leaves a file its first bytes, durable. The third index lets go of the room behind them: what is lost is never within the file's reach again.
func (f *file) cut(size int64) {
	f.bytes = f.bytes[:size:size]
	f.synced = size
}
