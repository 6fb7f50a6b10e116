package peels

import "sluice/api"

// absent is the program of a Peel that is not there.
type absent struct{}

func (absent) words() int { return 0 }

func (absent) both() bool { return false }

func (absent) sink() api.Sink { return api.Sink{} }

func (absent) start(uint32, api.Degrees) (api.State, api.Errno) { return api.State{}, api.ErrNil }

func (absent) scatter(api.Ctl, api.State, api.Edge, bool) (uint64, uint64, bool, api.Errno) {
	return 0, 0, false, api.ErrNil
}

func (absent) apply(api.Ctl, uint32, api.State) (api.State, bool, api.Errno) {
	return api.State{}, false, api.ErrNil
}

func (absent) fold(_, _ api.State) (api.State, api.Errno) { return api.State{}, api.ErrNil }

func (absent) turn(api.Ctl, api.State) (api.Ctl, bool, api.Errno) {
	return api.Ctl{}, false, api.ErrNil
}
