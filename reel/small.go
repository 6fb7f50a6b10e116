package reel

import "sluice/api"

// Publish puts a small file in its place, whole (P6.15).
func Publish(v api.Volume, name string, data []byte) api.Errno {
	if v == nil {
		return api.ErrNil
	}
	temp := name + ".new"
	// The new file's bytes and its name are durable ahead of its taking the old one's place: whatever of this is lost, one of the two stands there whole.
	steps := []func() api.Errno{
		func() api.Errno { return clearAway(v, temp) },
		func() api.Errno { return v.Create(temp) },
		func() api.Errno { return v.Append(temp, data) },
		func() api.Errno { return v.Sync(temp) },
		v.SyncDir,
		func() api.Errno { return v.Rename(temp, name) },
		v.SyncDir,
	}
	for _, step := range steps {
		if err := step(); err != api.OK {
			return err
		}
	}
	return api.OK
}

// clearAway removes what a Publish that was broken off has left.
func clearAway(v api.Volume, name string) api.Errno {
	if err := v.Remove(name); err != api.ErrNoFile {
		return err
	}
	return api.OK
}

// Fetch reads a small file whole (P6.16).
func Fetch(v api.Volume, name string, into []byte) (int, api.Errno) {
	if v == nil {
		return 0, api.ErrNil
	}
	size, err := v.Size(name)
	switch {
	case err != api.OK:
		return 0, err
	case size < 0:
		return 0, api.ErrIO
	case size > int64(len(into)):
		return 0, api.ErrRoom
	}
	n := int(size)
	if err := fill(v, name, 0, into[:n:n]); err != api.OK {
		return 0, err
	}
	return n, api.OK
}

// fill reads till it has all bytes that are asked for; a short read is gone on with.
func fill(v api.Volume, name string, at int64, into []byte) api.Errno {
	for len(into) > 0 {
		n, err := v.ReadAt(name, at, into)
		switch {
		case err != api.OK:
			return err
		case n <= 0 || n > len(into):
			return api.ErrIO
		}
		at += int64(n)
		into = into[n:]
	}
	return api.OK
}
