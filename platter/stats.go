package platter

import "sluice/api"

// Stats tells of each file what was done to it (P3.13).
func (d *Disk) Stats() []api.VolStat {
	if !d.made() {
		return nil
	}
	list := make([]api.VolStat, 0, len(d.names))
	for _, name := range d.names.sorted() {
		f := d.names[name]
		told := f.counts
		told.Name, told.Size, told.Synced = name, f.size(), f.synced
		list = append(list, told)
	}
	return list
}

// Clear sets the counts to 0 (P3.13).
func (d *Disk) Clear() api.Errno {
	if !d.made() {
		return api.ErrNil
	}
	for _, f := range d.names {
		f.counts, f.next = api.VolStat{}, 0
	}
	return api.OK
}

// Flip turns a bit of a file by hand (P3.14).
func (d *Disk) Flip(name string, bit int64) api.Errno {
	if !d.made() {
		return api.ErrNil
	}
	f, err := d.names.find(name)
	if err != api.OK {
		return err
	}
	if bit < 0 || bit >= 8*f.size() {
		return api.ErrPlace
	}
	turn(f.bytes, bit)
	return api.OK
}
