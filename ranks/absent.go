package ranks

import "sluice/api"

// absent is the program of a Ranker that is not there. Its methods are api.Program's.
type absent struct{}

func (absent) Words() int { return 0 }

func (absent) Both() bool { return false }

func (absent) Sink() api.Sink { return api.Sink{} }

func (absent) Start(uint32, api.Degrees) (api.State, api.Errno) { return api.State{}, api.ErrNil }

func (absent) Scatter(api.Ctl, api.State, api.Edge, bool) (uint64, uint64, bool, api.Errno) {
	return 0, 0, false, api.ErrNil
}

func (absent) Apply(api.Ctl, api.State, uint32, api.State) (api.State, bool, api.Errno) {
	return api.State{}, false, api.ErrNil
}

func (absent) Fold(api.Ctl, api.State, uint32, api.State) (api.State, api.Errno) {
	return api.State{}, api.ErrNil
}

func (absent) Turn(api.Ctl, api.State, uint64, int) (api.Ctl, bool, api.Errno) {
	return api.Ctl{}, false, api.ErrNil
}
