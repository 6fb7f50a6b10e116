package mill

import (
	"sluice/api"
	"sluice/platter"
)

// power is a machine's: when it goes, it goes for all of its disks.
type power struct {
	off bool
}

// drive is a disk of a machine, and an api.Volume: it asks the machine's power ahead of each operation. All else is the disk's.
type drive struct {
	*platter.Disk
	power *power
}

// never is a number of an operation that is not come to.
const never = 1 << 62

// plan adds faults whose numbers count from here on.
func (d *drive) plan(faults []api.Fault) api.Errno {
	var moved []api.Fault
	for _, f := range faults {
		if f.Op >= 1 && f.Op < never { // those below stay what may not be, those above have no room for more
			f.Op += d.Ops()
		}
		moved = append(moved, f)
	}
	return d.Plan(moved...)
}

// gate lets an operation through while there is power. One that is answered that there is none takes it from all.
func (d *drive) gate(operate func() api.Errno) api.Errno {
	if d.power.off {
		return api.ErrOff
	}
	err := operate()
	if err == api.ErrOff {
		d.power.off = true
	}
	return err
}

// Create is api.Volume's.
func (d *drive) Create(name string) api.Errno {
	return d.gate(func() api.Errno { return d.Disk.Create(name) })
}

// Append is api.Volume's.
func (d *drive) Append(name string, data []byte) api.Errno {
	return d.gate(func() api.Errno { return d.Disk.Append(name, data) })
}

// ReadAt is api.Volume's.
func (d *drive) ReadAt(name string, at int64, into []byte) (n int, err api.Errno) {
	err = d.gate(func() (err api.Errno) {
		n, err = d.Disk.ReadAt(name, at, into)
		return err
	})
	return n, err
}

// Size is api.Volume's.
func (d *drive) Size(name string) (size int64, err api.Errno) {
	err = d.gate(func() (err api.Errno) {
		size, err = d.Disk.Size(name)
		return err
	})
	return size, err
}

// Sync is api.Volume's.
func (d *drive) Sync(name string) api.Errno {
	return d.gate(func() api.Errno { return d.Disk.Sync(name) })
}

// SyncDir is api.Volume's.
func (d *drive) SyncDir() api.Errno { return d.gate(d.Disk.SyncDir) }

// Rename is api.Volume's.
func (d *drive) Rename(from, to string) api.Errno {
	return d.gate(func() api.Errno { return d.Disk.Rename(from, to) })
}

// Remove is api.Volume's.
func (d *drive) Remove(name string) api.Errno {
	return d.gate(func() api.Errno { return d.Disk.Remove(name) })
}

// List is api.Volume's.
func (d *drive) List() (names []string, err api.Errno) {
	err = d.gate(func() (err api.Errno) {
		names, err = d.Disk.List()
		return err
	})
	return names, err
}
