package flows

import "sluice/api"

// pace is what a program counts its rounds by: word 0 of the ctl is how many lie behind.
type pace struct{ n uint32 }

// round tells the number of the round that is made now.
func (p pace) round(c api.Ctl) uint64 { return c[0] + 1 }

// isNews tells whether what a vertex has come to in that round (0: Start) is to be sent now: once is enough, since nothing that was sent is forgotten.
func (p pace) isNews(c api.Ctl, since uint64) bool { return since == c[0] }

// isVerdict tells whether n rounds lie behind. A way without a cycle has fewer than n edges: so in the n-th round nothing is found any more, unless ways can be shortened for ever.
func (p pace) isVerdict(c api.Ctl) bool { return c[0] >= uint64(p.n) }

// Turn is api.Program's: a run is done where nothing has changed, and behind the verdict.
func (p pace) Turn(c api.Ctl, _ api.State, changed uint64, round int) (api.Ctl, bool, api.Errno) {
	done := changed == 0 || p.isVerdict(c)
	c[0] = uint64(round)
	return c, done, api.OK
}
