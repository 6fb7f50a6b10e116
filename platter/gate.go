package platter

import "sluice/api"

// calls is a set of kinds of operations, as far as faults tell them apart.
type calls uint8

const (
	reading calls = 1 << iota // ReadAt
	writing                   // Append
	syncing                   // Sync, SyncDir
	naming                    // all others
	every   = reading | writing | syncing | naming
)

// fits says which operations each kind of faults can strike in.
var fits = [...]calls{
	api.FaultRead:  reading,
	api.FaultShort: reading,
	api.FaultGhost: reading,
	api.FaultWrite: writing,
	api.FaultTorn:  writing,
	api.FaultSync:  syncing,
	api.FaultRot:   reading | writing,
	api.FaultOff:   every,
	api.FaultDown:  every,
}

// work is what an operation does behind the gate; it is told which fault strikes (kind 0: none).
type work func(struck api.Fault) api.Errno

// gate is how every operation begins: it counts, and looks at power and plan ahead of the work (P3.3).
func (d *Disk) gate(call calls, do work) api.Errno {
	if !d.made() {
		return api.ErrNil
	}
	d.ops++
	if d.off {
		return api.ErrOff
	}
	struck := d.strikes(call)
	switch struck.Kind {
	case api.FaultOff:
		d.off = true
		return api.ErrOff
	case api.FaultDown:
		d.down = true
	}
	if d.down {
		return api.ErrIO
	}
	switch struck.Kind {
	case api.FaultRead, api.FaultWrite, api.FaultSync:
		return api.ErrIO
	}
	return do(struck)
}

// strikes finds the first fault of the plan that has this operation's number and fits it.
func (d *Disk) strikes(call calls) api.Fault {
	for _, f := range d.plan[d.ops] {
		if fits[f.Kind]&call != 0 {
			return f
		}
	}
	return api.Fault{}
}
