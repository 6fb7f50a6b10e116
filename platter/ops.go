package platter

import "sluice/api"

// Create makes an empty file (P3.4).
func (d *Disk) Create(name string) api.Errno {
	return d.gate(naming, func(api.Fault) api.Errno {
		switch _, err := d.names.find(name); {
		case err == api.ErrVolName:
			return err
		case err == api.OK:
			return api.ErrTaken
		case len(d.names) >= api.MaxVolFiles:
			return api.ErrQuota
		}
		d.alter(change{name: name, file: &file{}})
		return api.OK
	})
}

// Append writes behind a file's bytes (P3.5).
func (d *Disk) Append(name string, data []byte) api.Errno {
	return d.gate(writing, func(struck api.Fault) api.Errno {
		f, err := d.names.find(name)
		if err != api.OK {
			return err
		}
		if int64(len(data)) > d.quota-d.used {
			return api.ErrQuota
		}
		if struck.Kind == api.FaultTorn {
			d.write(f, data[:clipped(struck.N, int64(len(data)))])
			return api.ErrIO
		}
		d.write(f, data)
		if struck.Kind == api.FaultRot {
			f.rot(struck.N)
		}
		return api.OK
	})
}

// write puts bytes behind a file's, and counts them.
func (d *Disk) write(f *file, data []byte) {
	f.bytes = append(f.bytes, data...)
	f.counts.Writes++
	f.counts.WroteBytes += int64(len(data))
	d.used += int64(len(data))
}

// ReadAt reads from an offset on (P3.6).
func (d *Disk) ReadAt(name string, at int64, into []byte) (n int, err api.Errno) {
	err = d.gate(reading, func(struck api.Fault) api.Errno {
		f, err := d.names.find(name)
		if err != api.OK {
			return err
		}
		if at < 0 || at > f.size() {
			return api.ErrPlace
		}
		switch struck.Kind {
		case api.FaultRot:
			f.rot(struck.N)
		case api.FaultShort:
			into = into[:clipped(struck.N, int64(len(into)))]
		}
		n = f.read(at, into)
		if struck.Kind == api.FaultGhost && n > 0 {
			turn(into[:n], struck.N)
		}
		return api.OK
	})
	return n, err
}

// read fills a buffer from an offset on, as far as the file goes, and counts it.
func (f *file) read(at int64, into []byte) int {
	n := copy(into, f.bytes[at:])
	if at != f.next {
		f.counts.Seeks++
	}
	f.next = at + int64(n)
	f.counts.Reads++
	f.counts.ReadBytes += int64(n)
	return n
}

// Size tells a file's bytes (P3.7).
func (d *Disk) Size(name string) (size int64, err api.Errno) {
	err = d.gate(naming, func(api.Fault) api.Errno {
		f, err := d.names.find(name)
		if err == api.OK {
			size = f.size()
		}
		return err
	})
	return size, err
}

// List tells all names (P3.7).
func (d *Disk) List() (names []string, err api.Errno) {
	err = d.gate(naming, func(api.Fault) api.Errno {
		names = d.names.sorted()
		return api.OK
	})
	return names, err
}

// Sync makes a file's bytes durable (P3.8).
func (d *Disk) Sync(name string) api.Errno {
	return d.gate(syncing, func(api.Fault) api.Errno {
		f, err := d.names.find(name)
		if err == api.OK {
			f.synced = f.size()
		}
		return err
	})
}

// SyncDir makes the directory durable (P3.8).
func (d *Disk) SyncDir() api.Errno {
	return d.gate(syncing, func(api.Fault) api.Errno {
		d.durable.apply(d.changes...)
		d.changes = nil
		return api.OK
	})
}

// Rename gives a file another name (P3.9).
func (d *Disk) Rename(from, to string) api.Errno {
	return d.gate(naming, func(api.Fault) api.Errno {
		if !isName(to) {
			return api.ErrVolName
		}
		f, err := d.names.find(from)
		if err == api.OK && from != to {
			d.alter(change{gone: from, name: to, file: f})
		}
		return err
	})
}

// Remove takes a file out of the directory (P3.9).
func (d *Disk) Remove(name string) api.Errno {
	return d.gate(naming, func(api.Fault) api.Errno {
		_, err := d.names.find(name)
		if err == api.OK {
			d.alter(change{gone: name})
		}
		return err
	})
}

// alter makes a change of the directory that is not durable yet.
func (d *Disk) alter(c change) {
	for _, name := range [...]string{c.gone, c.name} {
		if f := d.names[name]; f != nil && f != c.file {
			d.used -= f.size() // it has no name any more
		}
	}
	d.names.apply(c)
	d.changes = append(d.changes, c)
}
