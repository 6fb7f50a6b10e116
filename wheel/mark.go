package wheel

import (
	"sluice/api"
	"sluice/roster"
)

// Info tells a run's manifest (P12.8).
func Info(v api.Volume, run string) (api.RunMark, api.Errno) {
	text, err := ofRun(run).read(v)
	if err != api.OK {
		return api.RunMark{}, err
	}
	m, err := roster.ToRun(text)
	switch {
	case err != api.OK:
		return api.RunMark{}, err
	case m.Run != run:
		return api.RunMark{}, api.ErrOther
	}
	return m, api.OK
}

// Wipe removes a run (P12.9).
func Wipe(v api.Volume, run string) api.Errno {
	_, err := Info(v, run)
	return ofRun(run).discard(v, err)
}
